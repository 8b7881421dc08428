/- The hpack laws' inputs: a slice of steps. -/
import Derived.Test.YtinieljgcenemaaDoorG8
namespace Go.Proofs.YtinieljgcenemaaDoor
open Go.RowKit Go.Own Go.Tbl Go.Huf Go.Hin
set_option linter.unusedVariables false
set_option maxRecDepth 100000

/-- a step: its cells, and what they read as -/
structure Op5 where
  kind : Int
  n : Int
  la : Option Addr
  ln : Nat
  lc : Nat
  ba : Option Addr
  bn : Nat
  bc : Nat
  fs : List Fld
  bs : List UInt8
def op5cells (o : Op5) : List Value := [.int .i64 o.kind, .int .i64 o.n, .slice o.la o.ln o.lc, .slice o.ba o.bn o.bc]
def op5cellsL : List Op5 → List Value
  | [] => []
  | o :: r => op5cells o ++ op5cellsL r
structure Op5ok (W : World) (o : Op5) : Prop where
  k : i64 o.kind
  n : i64 o.n
  l : FldsIn W o.la o.ln o.lc o.fs
  b : Rd W 1 o.ba o.bn (o.bs.map BV)
  nc : o.bn ≤ o.bc
  cm : o.bc ≤ 9223372036854775807
theorem cellsOp5 : Tryd.prog.cellsOf 31 = 4 := by kernel_rfl
theorem cellsSl : Tryd.prog.cellsOf 28 = 1 := by kernel_rfl
theorem cellsSb : Tryd.prog.cellsOf 29 = 1 := by kernel_rfl
theorem cellsU8' : Tryd.prog.cellsOf 5 = 1 := by kernel_rfl
theorem slice_shape {W : World} {d : Nat} {t e : TypeId} {x : Value} (ht : Tryd.prog.underlying t = some (.slice e)) (h : HoldsT Tryd.prog W (d + 1) t [x]) : ∃ A n c, x = .slice A n c := by
  unfold HoldsT at h
  rw [ht] at h
  obtain ⟨A, n, c, vs, e1, _⟩ := h
  injection e1 with e1 _
  exact ⟨A, n, c, e1⟩
theorem byte_of {W : World} {d : Nat} {cs : List Value} (h : HoldsT Tryd.prog W (d + 1) 5 cs) : ∃ b : UInt8, cs = [BV b] ∧ True := by
  have hl : ∃ x, cs = [x] := by
    unfold HoldsT at h
    rw [Tryd.underlying5] at h
    obtain ⟨n, e, _⟩ := h
    exact ⟨_, e⟩
  obtain ⟨x, rfl⟩ := hl
  obtain ⟨k, rfl, hk⟩ := HoldsT.int Tryd.underlying5 h
  have h1 := bytes_of_wf [k] (fun n hn => by rw [List.mem_singleton.1 hn]; exact hk)
  simp only [List.map_cons, List.map_nil, List.cons.injEq, and_true] at h1
  exact ⟨_, by rw [h1], trivial⟩
theorem bytes_of {W : World} {d : Nat} {A : Option Addr} {n c : Nat} (h : HoldsT Tryd.prog W (d + 2) 29 [.slice A n c]) : n ≤ c ∧ c ≤ 9223372036854775807 ∧ ∃ xs : List UInt8, Rd W 1 A n (xs.map BV) := by
  obtain ⟨h1, h2, _, vs, hr, hv⟩ := HoldsT.slice (d := d + 1) Tryd.underlying29 h
  rw [cellsU8'] at hr hv
  have hrd := hr (by omega)
  obtain ⟨l, rfl, hl, _⟩ := pieces (cells := fun b => [BV b]) (all := fun l : List UInt8 => l.map BV) (ok := fun _ => True) (c := 1) rfl (fun _ _ => rfl) (fun _ => rfl) n vs hrd.1 (fun i hi => byte_of (hv i hi))
  exact ⟨h1, h2, l, hrd⟩
theorem op5_of {W : World} {d : Nat} {cs : List Value} (h : HoldsT Tryd.prog W (d + 4) 31 cs) : ∃ o : Op5, cs = op5cells o ∧ Op5ok W o := by
  obtain ⟨hl, hf⟩ := HoldsT.struct_ (d := d + 3) Tryd.underlying31 h
  rw [cellsOp5] at hl
  match cs, hl with
  | [x, y, z, u], _ =>
    have f0 := hf 0 _ rfl
    have f1 := hf 1 _ rfl
    have f2 := hf 2 _ rfl
    have f3 := hf 3 _ rfl
    simp only [List.getElem_toArray, List.getElem_cons_zero, List.getElem_cons_succ, cellsInt, cellsSl, cellsSb, List.drop_zero, List.drop_succ_cons, List.take_succ_cons, List.take_zero] at f0 f1 f2 f3
    obtain ⟨k, rfl, hk⟩ := HoldsT.int Tryd.underlying3 f0
    obtain ⟨n, rfl, hn⟩ := HoldsT.int Tryd.underlying3 f1
    obtain ⟨A, a, b, rfl⟩ := slice_shape Tryd.underlying28 f2
    obtain ⟨B, e, f, rfl⟩ := slice_shape Tryd.underlying29 f3
    obtain ⟨h1, h2, l, h3, h4, h5⟩ := flds_of f2
    obtain ⟨g1, g2, xs, g3⟩ := bytes_of (d := d + 1) f3
    exact ⟨⟨k, n, A, a, b, B, e, f, l, xs⟩, rfl, i64_of hk, i64_of hn, ⟨h1, h2, h3, h4, h5⟩, g3, g1, g2⟩
theorem op5cellsL_at {l : List Op5} {k : Nat} {o : Op5} (h : l[k]? = some o) : ∀ j, j < 4 → (op5cellsL l)[k * 4 + j]? = (op5cells o)[j]? := by
  induction l generalizing k with
  | nil => simp at h
  | cons g r ih =>
    intro j hj
    cases k with
    | zero =>
      rw [List.getElem?_cons_zero] at h
      obtain rfl := Option.some.inj h
      rw [op5cellsL, Nat.zero_mul, Nat.zero_add, List.getElem?_append_left (by simp [op5cells]; omega)]
    | succ k =>
      rw [List.getElem?_cons_succ] at h
      rw [← ih h j hj, op5cellsL, List.getElem?_append_right (by simp [op5cells]; omega)]
      congr 1
      simp [op5cells]
      omega
theorem op5cellsL_length (l : List Op5) : (op5cellsL l).length = l.length * 4 := by
  induction l with
  | nil => rfl
  | cons f r ih => rw [op5cellsL, List.length_append, ih]; simp [op5cells]; omega
/-- the cells of step k -/
theorem rd_op5 {w : World} {A : Option Addr} {n k : Nat} {l : List Op5} {o : Op5} (h : Rd w 4 A n (op5cellsL l)) (hk : l[k]? = some o) :
    ∃ b s, A = some ⟨b, s, none⟩ ∧ w.cell? ⟨b, s + k * 4, none⟩ = some (.int .i64 o.kind) ∧ w.cell? ⟨b, s + k * 4 + 1, none⟩ = some (.int .i64 o.n) ∧ w.cell? ⟨b, s + k * 4 + 2, none⟩ = some (.slice o.la o.ln o.lc) ∧ w.cell? ⟨b, s + k * 4 + 3, none⟩ = some (.slice o.ba o.bn o.bc) := by
  have hl : l.length = n := by have := h.1; rw [op5cellsL_length] at this; omega
  have hkl : k < l.length := (List.getElem?_eq_some_iff.1 hk).1
  obtain ⟨b, s, rfl, hc⟩ := h.2 (by omega)
  have g := op5cellsL_at hk
  refine ⟨b, s, rfl, hc _ _ (g 0 (by omega)), ?_, ?_, ?_⟩
  · rw [Nat.add_assoc]; exact hc _ _ (g 1 (by omega))
  · rw [Nat.add_assoc]; exact hc _ _ (g 2 (by omega))
  · rw [Nat.add_assoc]; exact hc _ _ (g 3 (by omega))
structure Ops5In (W : World) (A : Option Addr) (n c : Nat) (l : List Op5) : Prop where
  nc : n ≤ c
  cm : c ≤ 9223372036854775807
  rd : Rd W 4 A n (op5cellsL l)
  len : l.length = n
  ok : ∀ o ∈ l, Op5ok W o
section
open Go.ChangeShapes Go.WideShapes Go.ChangeAt
theorem opened_ops5 {H : Type} {enc : TypeId × Value → H} {W : World} {base : Nat} {v : Value} {x : DataW H} {ps : List MemPlace} (hv : Value.okWide Tryd.prog W .any base 22 v)
    (h : DataW.Trod enc Tryd.prog W 0 (fun _ => true) true 22 v x ps) (hw : ∀ n ∈ x.weights Tryd.prog 22, n ≤ reachBytes) : ∃ A n c l, v = .slice A n c ∧ Ops5In W A n c l := by
  obtain ⟨A, n, c, rfl, hs⟩ := opened_slice 6 Tryd.underlying22 hv h hw
  obtain ⟨h1, h2, _, vs, hr, hvv⟩ := HoldsT.slice (d := 5) Tryd.underlying22 hs
  rw [cellsOp5] at hr hvv
  have hrd := hr (by omega)
  obtain ⟨l, rfl, hl, ho⟩ := pieces (cells := op5cells) (all := op5cellsL) (ok := Op5ok W) (c := 4) rfl (fun _ _ => rfl) (fun _ => rfl) n vs hrd.1 (fun i hi => op5_of (d := 1) (hvv i hi))
  exact ⟨A, n, c, l, rfl, h1, h2, hrd, hl, ho⟩
end
end Go.Proofs.YtinieljgcenemaaDoor
