/- Stage 10: what FieldsParts' walk stands on: its drawn regions' operations by name. -/
import Derived.Test.YtilabahcngjflaaDoorJlC
import Derived.Test.YtilabahcngjflaaDoorJiB
import Derived.Deep.RegionHeld
namespace Go.Proofs.YtilabahcngjflaaDoor
open Go.RowKit Go.Own Go.Tbl Go.Fie
set_option linter.unusedVariables false
set_option linter.unusedSimpArgs false
set_option maxRecDepth 100000
structure PW (W w : World) (N V : ByteArray) (nv : Bool) (Af : Option Addr) (m : Nat) (F : List Fld) (At : Option Addr) (T : ByteArray) : Prop where
  b : Below W.heap.size W w
  x : Blk w W.heap.size 34 [.string N, .string V, .bool nv]
  o : Rd w 3 Af m (fcellsL F)
  t : Rd w 3 At 3 (fcellsL (top T))
theorem PW.below {W w w' : World} {N V : ByteArray} {nv : Bool} {Af : Option Addr} {m : Nat} {F : List Fld} {At : Option Addr} {T : ByteArray} (h : PW W w N V nv Af m F At T) (hb : Below w.heap.size w w') : PW W w' N V nv Af m F At T :=
  ⟨below_from h.b hb, h.x.below hb h.x.lt, h.o.below hb, h.t.below hb⟩
theorem slash_pre (t : ByteArray) : Lib.hasPrefix ((⟨#[47]⟩ : ByteArray) ++ t).data.toList [47] = true := by
  have e : ((⟨#[47]⟩ : ByteArray) ++ t).data.toList = 47 :: t.data.toList := by
    rw [ByteArray.data_append, Array.toList_append]; rfl
  rw [e]
  rfl
theorem sA {α : Type} (l : List α) (i : Nat) (a : α) : l.toArray.setIfInBounds i a = (l.set i a).toArray := List.setIfInBounds_toArray ..
theorem s0 {α : Type} (l : List α) (b a : α) : (b :: l).set 0 a = a :: l := rfl
theorem sS {α : Type} (l : List α) (i : Nat) (b a : α) : (b :: l).set (i + 1) a = b :: l.set i a := rfl
theorem put6 {w0 w : World} {g : Nat} {a b c d e f : Value} (h : Below w0.heap.size w0 w) (hp : w0.heap.size ≤ g) :
    Below w0.heap.size w0 ((((((w.setCell ⟨g, 0, none⟩ a).setCell ⟨g, 1, none⟩ b).setCell ⟨g, 2, none⟩ c).setCell ⟨g, 3, none⟩ d).setCell ⟨g, 4, none⟩ e).setCell ⟨g, 5, none⟩ f) :=
  Below.setCell (Below.setCell (Below.setCell (Below.setCell (Below.setCell (Below.setCell h hp _) hp _) hp _) hp _) hp _) hp _
theorem psd_at {f : Fld} (h : 0 < f.n.size) : psd f = decide ((f.n.data.toList.getD 0 0).toNat = 58) := by
  rw [Lib.size_eq] at h
  unfold psd Lib.hasPrefix
  cases hl : f.n.data.toList with
  | nil => rw [hl] at h; cases h
  | cons b r =>
    rw [Bool.eq_iff_iff]
    simp
    exact ⟨fun h => by rw [← h]; rfl, fun h => (UInt8.toNat_inj.1 (h.trans (by rfl))).symm⟩
theorem psd_zero {f : Fld} (h : f.n.size = 0) : psd f = false := by
  rw [(eqE_iff _).1 h |> fun e => (show psd f = psd ⟨f.n, f.v, f.nv⟩ from rfl).trans (by rw [e])]
  rfl
theorem pS (l : List Value) (d : _) (i : Nat) (v : Value) : Act.put ⟨l.toArray, d⟩ (some i) v = ⟨(l.set i v).toArray, d⟩ := by
  simp only [Act.put, sA]
section
variable {P : Program} {ops : Array Oper} {Q : Exit → Act → World → Prop} {md : Region.Mode} {S : World → Prop}
theorem one_ {fuel : Nat} {listed : Array Bool} {a : Act} {w : World} {i : Nat} {o : Oper} (hr : Region.ready md ops listed = [i]) (ho : ops[i]? = some o)
    (h : ∀ K' : Act → World → Prop, Shut (∀ a w, S w → (S w → wpAnyH P md ops Q S fuel (listed.setIfInBounds i true) a w) → K' a w) → if Region.wanted o (yielded ops a.tmps) = true then Oper.wp P o a w K' Q else K' (a.put o.dst undef) w) : wpAnyH P md ops Q S (fuel + 1) listed a w :=
  wpAnyH_ready hr (by simp) (AllReadyH.cons ho h AllReadyH.nil)
end
def a1 : Oper := { dst := some 42, op := Op.move (Operand.tmp 8), type := 22, pos := "law.go:80", after := #[], guard := none }
def a3 : Oper := { dst := some 44, op := Op.load 34 (Operand.tmp 4), type := 34, pos := "law.go:80", after := #[], guard := none }
def a7 : Oper := { dst := some 40, op := Op.move (Operand.tmp 47), type := 29, pos := "law.go:80", after := #[{ on := 6, ground := Ground.data }], guard := none }
def a8 : Oper := { dst := some 48, op := Op.extract (Operand.tmp 40) 0, type := 28, pos := "law.go:80", after := #[{ on := 7, ground := Ground.data }], guard := none }
def a9 : Oper := { dst := some 49, op := Op.extract (Operand.tmp 40) 1, type := 4, pos := "law.go:80", after := #[{ on := 7, ground := Ground.data }, { on := 11, ground := Ground.gcOnly Departure.lateStores }], guard := none }
def a12 : Oper := { dst := some 12, op := Op.assign (Operand.tmp 49), type := 4, pos := "law.go:80", after := #[{ on := 9, ground := Ground.data }, { on := 11, ground := Ground.chain }, { on := 0, ground := Ground.phase }, { on := 1, ground := Ground.phase }, { on := 2, ground := Ground.phase }, { on := 3, ground := Ground.phase }, { on := 4, ground := Ground.phase }, { on := 5, ground := Ground.phase }, { on := 6, ground := Ground.phase }, { on := 7, ground := Ground.phase }, { on := 8, ground := Ground.phase }, { on := 9, ground := Ground.phase }, { on := 10, ground := Ground.phase }, { on := 11, ground := Ground.phase }], guard := none }
def b1 : Oper := { dst := some 52, op := Op.move (Operand.tmp 8), type := 22, pos := "law.go:81", after := #[], guard := none }
def b3 : Oper := { dst := some 54, op := Op.move (Operand.tmp 0), type := 22, pos := "law.go:81", after := #[], guard := none }
def b5 : Oper := { dst := some 56, op := Op.load 34 (Operand.tmp 4), type := 34, pos := "law.go:81", after := #[], guard := none }
def b9 : Oper := { dst := some 50, op := Op.move (Operand.tmp 59), type := 29, pos := "law.go:81", after := #[{ on := 8, ground := Ground.data }], guard := none }
def b10 : Oper := { dst := some 60, op := Op.extract (Operand.tmp 50) 0, type := 28, pos := "law.go:81", after := #[{ on := 9, ground := Ground.data }], guard := none }
def b11 : Oper := { dst := some 61, op := Op.extract (Operand.tmp 50) 1, type := 4, pos := "law.go:81", after := #[{ on := 9, ground := Ground.data }, { on := 13, ground := Ground.gcOnly Departure.lateStores }], guard := none }
def b14 : Oper := { dst := some 14, op := Op.assign (Operand.tmp 61), type := 4, pos := "law.go:81", after := #[{ on := 11, ground := Ground.data }, { on := 13, ground := Ground.chain }, { on := 0, ground := Ground.phase }, { on := 1, ground := Ground.phase }, { on := 2, ground := Ground.phase }, { on := 3, ground := Ground.phase }, { on := 4, ground := Ground.phase }, { on := 5, ground := Ground.phase }, { on := 6, ground := Ground.phase }, { on := 7, ground := Ground.phase }, { on := 8, ground := Ground.phase }, { on := 9, ground := Ground.phase }, { on := 10, ground := Ground.phase }, { on := 11, ground := Ground.phase }, { on := 12, ground := Ground.phase }, { on := 13, ground := Ground.phase }], guard := none }
end Go.Proofs.YtilabahcngjflaaDoor
