/- Fields and rows of fields in memory; the document's Size of a field, Size of a table, fit. -/
import Derived.Test.YtemgojgkklkmbaaTbl
import Derived.Test.YtemgojgkklkmbaaChecked
import Derived.Deep.RegionHeld
import Derived.Deep.DrawnRows
import Derived.Great.BuildSlice
import Derived.Deep.WholeRow
import Derived.Deep.LoopGhost
import Derived.Deep.QuietTactic
import Derived.BigQuiet
import Derived.StillTailTactics
namespace Go.Proofs.Ytemgojgkklkmbaa
open Go.RowKit Go.Own Go.Tbl
set_option linter.unusedVariables false

/-- a field's value, its cells -/
def fv (f : Fld) : Value := .agg #[.string f.n, .string f.v, .bool f.nv]
def fcells (f : Fld) : List Value := [.string f.n, .string f.v, .bool f.nv]
def fcellsL : List Fld → List Value
  | [] => []
  | f :: r => fcells f ++ fcellsL r
theorem fcellsL_length (l : List Fld) : (fcellsL l).length = l.length * 3 := by
  induction l with
  | nil => rfl
  | cons f r ih => rw [fcellsL, List.length_append, ih]; simp [fcells]; omega
theorem fcellsL_append (a b : List Fld) : fcellsL (a ++ b) = fcellsL a ++ fcellsL b := by
  induction a with
  | nil => rfl
  | cons f r ih => rw [List.cons_append, fcellsL, fcellsL, ih, List.append_assoc]
theorem fcellsL_take (l : List Fld) : ∀ k, (fcellsL l).take (k * 3) = fcellsL (l.take k) := by
  induction l with
  | nil => intro k; simp [fcellsL]
  | cons f r ih =>
    intro k
    cases k with
    | zero => simp [fcellsL]
    | succ k =>
      rw [List.take_succ_cons, fcellsL, fcellsL, ← ih k, show (k + 1) * 3 = (fcells f).length + k * 3 by simp [fcells]; omega, List.take_append, List.take_of_length_le (by omega)]
      congr 2
      omega
theorem fcellsL_at {l : List Fld} {k : Nat} {f : Fld} (h : l[k]? = some f) :
    (fcellsL l)[k * 3]? = some (.string f.n) ∧ (fcellsL l)[k * 3 + 1]? = some (.string f.v) ∧ (fcellsL l)[k * 3 + 2]? = some (.bool f.nv) := by
  induction l generalizing k with
  | nil => simp at h
  | cons g r ih =>
    cases k with
    | zero =>
      rw [List.getElem?_cons_zero] at h
      obtain rfl := Option.some.inj h
      simp [fcellsL, fcells]
    | succ k =>
      rw [List.getElem?_cons_succ] at h
      obtain ⟨h1, h2, h3⟩ := ih h
      have e : ∀ j, (fcellsL (g :: r))[(k + 1) * 3 + j]? = (fcellsL r)[k * 3 + j]? := by
        intro j
        rw [fcellsL, List.getElem?_append_right (by simp [fcells]; omega)]
        congr 1
        simp [fcells]
        omega
      exact ⟨(e 0).trans h1, (e 1).trans h2, (e 2).trans h3⟩
theorem fcells_one (l : List Fld) : ∀ v ∈ fcellsL l, v.oneCell' = true := by
  induction l with
  | nil => simp [fcellsL]
  | cons f r ih =>
    intro v hv
    rw [fcellsL] at hv
    rcases List.mem_append.1 hv with hv | hv
    · simp [fcells] at hv
      rcases hv with rfl | rfl | rfl <;> rfl
    · exact ih v hv
theorem EF : Elt Try.prog 25 23 (.agg #[.string ⟨#[]⟩, .string ⟨#[]⟩, .bool false]) 3 40 := ⟨Try.underlying25, by
  refine ⟨_, rfl, ?_, ?_, ?_⟩ <;> kernel_rfl, rfl, by omega⟩
/-- the cells of field k of a slice -/
theorem rd_fld {w : World} {A : Option Addr} {n k : Nat} {l : List Fld} {f : Fld} (h : Rd w 3 A n (fcellsL l)) (hk : l[k]? = some f) :
    ∃ b o, A = some ⟨b, o, none⟩ ∧ w.cell? ⟨b, o + k * 3, none⟩ = some (.string f.n) ∧ w.cell? ⟨b, o + k * 3 + 1, none⟩ = some (.string f.v) ∧ w.cell? ⟨b, o + k * 3 + 2, none⟩ = some (.bool f.nv) := by
  have hl : l.length = n := by have := h.1; rw [fcellsL_length] at this; omega
  have hkl : k < l.length := (List.getElem?_eq_some_iff.1 hk).1
  obtain ⟨b, o, rfl, hc⟩ := h.2 (by omega)
  obtain ⟨h1, h2, h3⟩ := fcellsL_at hk
  exact ⟨b, o, rfl, hc _ _ h1, by rw [Nat.add_assoc]; exact hc _ _ h2, by rw [Nat.add_assoc]; exact hc _ _ h3⟩

theorem own_up {w : World} {b B : Nat} {e : TypeId} {size : Nat} {v : Value} {n : Nat} {xs : List Value} (h : w.ownsRow b e size v n xs) (hB : ∀ g, v.ownBlock = some g → B ≤ g) : w.ownsRow B e size v n xs := by
  refine ⟨h.1, ?_⟩
  rcases h.2 with hn | ⟨g, cap, cur, rfl, _, rest⟩
  · exact .inl hn
  · exact .inr ⟨g, cap, cur, rfl, hB g rfl, rest⟩
/-- texts of a field that real machines hold -/
def fok (f : Fld) : Prop := f.n.size ≤ 140737488355328 ∧ f.v.size ≤ 140737488355328
set_option maxRecDepth 100000 in
theorem rFSize_any (f : Fld) (hf : fok f) (w : World) : Calls Try.prog 13 #[fv f] w fun e w' => e = .returned (.int .i64 ((sz f : Nat) : Int)) ∧ Below w.heap.size w w' := by
  obtain ⟨h1, h2⟩ := hf
  unfold fv
  obtain ⟨a, ha⟩ : ∃ a, f.n.size = a := ⟨_, rfl⟩
  obtain ⟨b, hb⟩ : ∃ b, f.v.size = b := ⟨_, rfl⟩
  have hs : sz f = a + b + 32 := by unfold sz; rw [ha, hb]
  rw [hs]
  rw [ha] at h1
  rw [hb] at h2
  go_enter Try.func13, Try.ntmps13
  go_wp2
  go_ret
  exact ⟨by simp, (Below.refl _ _).alloc (Nat.le_refl _) _⟩
theorem rFSize_n (f : Fld) (hf : fok f) (N : Nat) (hN : sz f = N) (w : World) : Calls Try.prog 13 #[.agg #[.string f.n, .string f.v, .bool f.nv]] w fun e w' => e = .returned (.int .i64 (N : Int)) ∧ Below w.heap.size w w' := by
  subst hN
  exact rFSize_any f hf w

/-- the document's table: its block, its slice, its Max, its entries -/
structure RT (w : World) (p : Nat) (A : Option Addr) (n c h : Nat) (l : List Fld) : Prop where
  at_ : Blk w p 57 [.slice A n c, .int .i64 (h : Int)]
  rd : Rd w 3 A n (fcellsL l)
  nc : n ≤ c
  cm : c ≤ 9223372036854775807
  ok : ∀ f ∈ l, fok f
theorem RT.len {w : World} {p : Nat} {A : Option Addr} {n c h : Nat} {l : List Fld} (t : RT w p A n c h l) : l.length = n := by
  have := t.rd.1
  rw [fcellsL_length] at this
  omega
theorem RT.below {w w' : World} {p : Nat} {A : Option Addr} {n c h : Nat} {l : List Fld} (t : RT w p A n c h l) (hb : Below w.heap.size w w') : RT w' p A n c h l :=
  ⟨t.at_.below hb (Blk.lt t.at_), t.rd.below hb, t.nc, t.cm, t.ok⟩
theorem RT.drewN {w : World} {p : Nat} {A : Option Addr} {n c h : Nat} {l : List Fld} (t : RT w p A n c h l) (q : Nat) : RT (w.drewN q) p A n c h l :=
  ⟨t.at_.drewN q, t.rd.fr ((Fr.refl (fun _ => False) w).drewN q) (fun _ _ h => h), t.nc, t.cm, t.ok⟩
theorem szs_mem {l : List Fld} : ∀ f ∈ l, sz f ≤ szs l := by
  induction l with
  | nil => simp
  | cons g r ih =>
    intro f hf
    rw [szs]
    rcases List.mem_cons.1 hf with rfl | hf
    · omega
    · have := ih f hf; omega
set_option maxRecDepth 100000 in
set_option maxHeartbeats 2000000 in
theorem rTSize_any {w : World} {p : Nat} {A : Option Addr} {n c h : Nat} {l : List Fld} (t : RT w p A n c h l) (S : Nat) (hS : szs l = S) (hb : S ≤ 4611686018427387904) :
    Calls Try.prog 38 #[.pointer (some ⟨p, 0, none⟩)] w fun e w' => e = .returned (.int .i64 (S : Int)) ∧ Below w.heap.size w w' := by
  have Ht := Lib.hid t
  have HS := Lib.hid hS
  have hp := Blk.lt t.at_
  have hl := t.len
  have Hl := Lib.hid hl
  have hncm := Nat.le_trans t.nc t.cm
  clear t hS
  go_enter Try.func38, Try.ntmps38
  go_wp2
  go_loopg [4, 3] n (fun gh i s w' => ∃ k, gh + k = n ∧ i = .int .i64 (k : Int) ∧ s = .int .i64 ((szs (l.take k) : Nat) : Int) ∧ Below w.heap.size w w')
  case atStart => exact ⟨0, by omega, rfl, rfl, Below.refl _ _⟩
  case round =>
    obtain ⟨k, hk, rfl, rfl, hbw⟩ := hrel
    have Ht2 := Lib.hid (Ht.out.below hbw)
    have Hb := Lib.hid hbw
    have c0 := Ht2.out.at_.cell 0
    have c1 := Ht2.out.at_.cell 1
    simp only [List.getElem?_cons_zero, List.getElem?_cons_succ] at c0 c1
    have hmono := szs_take_mono l k n (by omega)
    rw [show l.take n = l from List.take_of_length_le (by omega), HS.out] at hmono
    obtain ⟨q, hq⟩ : ∃ q, szs (l.take k) = q := ⟨_, rfl⟩
    rw [hq] at hmono ⊢
    have Hq := Lib.hid hq
    clear hq hbw
    cases gk with
    | zero =>
      obtain rfl : k = n := by omega
      have e1 : (q : Int) = (S : Int) := by
        have h1 := Hq.out
        rw [List.take_of_length_le (by omega), HS.out] at h1
        omega
      go_wp2
      go_ret
      exact ⟨by rw [← e1]; rfl, Hb.out⟩
    | succ g1 =>
      have hlt : k < n := by omega
      obtain ⟨f, hf⟩ : ∃ f, l[k]? = some f := ⟨_, List.getElem?_eq_getElem (by omega)⟩
      have hfo := Ht2.out.ok f (List.mem_of_getElem? hf)
      obtain ⟨b, o, rfl, d0, d1, d2⟩ := rd_fld Ht2.out.rd hf
      obtain ⟨N, hN⟩ : ∃ N, sz f = N := ⟨_, rfl⟩
      have hs1 := szs_take_succ l k f hf
      rw [Hq.out, hN] at hs1
      have hm2 := szs_take_mono l (k + 1) n (by omega)
      rw [show l.take n = l from List.take_of_length_le (by omega), HS.out, hs1] at hm2
      have Hs1 := Lib.hid hs1
      have HN := Lib.hid hN
      have Hfo := Lib.hid hfo
      have k1 : (k : Int) < (n : Int) := by omega
      clear hf hfo hs1 hN
      go_wp2_with (first
        | (go_at_call 13; (with_reducible refine (rFSize_n f Hfo.out N HN.out _).mono ?_); rintro e w2 ⟨rfl, hb2⟩; have H2 := Lib.hid (Hb.out.trans (hb2.mono Hb.out.size)); clear hb2))
      go_roundg g1
      case measure => omega
      case rel => exact ⟨k + 1, by omega, by go_num, by rw [Hs1.out]; go_num, H2.out⟩
end Go.Proofs.Ytemgojgkklkmbaa
