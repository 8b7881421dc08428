/- Stage 10: the laws' inputs: a slice of fields; a field. -/
import Derived.Test.YtilabahcngjflaaDoorJiT
import Derived.Test.YtilabahcngjflaaDoorShape
namespace Go.Own
open Go.RowKit
theorem HoldsT.struct_ {P : Program} {W : World} {d : Nat} {t : TypeId} {cs : List Value} {fs : Array Field} (ht : P.underlying t = some (.struct fs)) (h : HoldsT P W (d + 1) t cs) :
    cs.length = P.cellsOf t ∧ ∀ (i : Nat) (f : Field), fs[i]? = some f → HoldsT P W d f.type ((cs.drop f.offset).take (P.cellsOf f.type)) := by
  unfold HoldsT at h
  rw [ht] at h
  exact h
/-- cells in pieces of c, each the cells of some x -/
theorem pieces {α : Type} {cells : α → List Value} {all : List α → List Value} (h0 : all [] = []) (h1 : ∀ x l, all (x :: l) = cells x ++ all l) {ok : α → Prop} {c : Nat} (hc : ∀ x, (cells x).length = c) :
    ∀ (n : Nat) (vs : List Value), vs.length = n * c → (∀ i, i < n → ∃ x, (vs.drop (i * c)).take c = cells x ∧ ok x) → ∃ l : List α, vs = all l ∧ l.length = n ∧ ∀ x ∈ l, ok x
  | 0, vs, hl, _ => ⟨[], by rw [h0]; exact List.eq_nil_of_length_eq_zero (by omega), rfl, by simp⟩
  | n + 1, vs, hl, h => by
    obtain ⟨x, hx, ox⟩ := h 0 (by omega)
    rw [Nat.zero_mul, List.drop_zero] at hx
    obtain ⟨l, e, hll, ol⟩ := pieces h0 h1 hc n (vs.drop c) (by rw [List.length_drop, hl, Nat.succ_mul]; omega) (fun i hi => by
      obtain ⟨y, hy, oy⟩ := h (i + 1) (by omega)
      refine ⟨y, ?_, oy⟩
      rw [List.drop_drop, ← hy, Nat.succ_mul, Nat.add_comm c])
    refine ⟨x :: l, ?_, by simp [hll], ?_⟩
    · rw [h1, ← e, ← hx, List.take_append_drop]
    · intro y hy
      rcases List.mem_cons.1 hy with rfl | hy
      · exact ox
      · exact ol y hy
end Go.Own
namespace Go.Proofs.YtilabahcngjflaaDoor
open Go.RowKit Go.Own Go.Tbl
set_option linter.unusedVariables false
set_option maxRecDepth 100000

theorem cellsField : Tryd.prog.cellsOf 34 = 3 := by kernel_rfl
theorem cellsStr : Tryd.prog.cellsOf 9 = 1 := by kernel_rfl
theorem cellsBool : Tryd.prog.cellsOf 4 = 1 := by kernel_rfl
theorem cellsInt : Tryd.prog.cellsOf 3 = 1 := by kernel_rfl
theorem fld_of {W : World} {d : Nat} {cs : List Value} (h : HoldsT Tryd.prog W (d + 2) 34 cs) : ∃ f : Fld, cs = fcells f ∧ fok f := by
  obtain ⟨hl, hf⟩ := HoldsT.struct_ (d := d + 1) Tryd.underlying34 h
  rw [cellsField] at hl
  match cs, hl with
  | [x, y, z], _ =>
    have f0 := hf 0 _ rfl
    have f1 := hf 1 _ rfl
    have f2 := hf 2 _ rfl
    simp only [List.getElem_toArray, List.getElem_cons_zero, List.getElem_cons_succ, cellsStr, cellsBool, List.drop_zero, List.drop_succ_cons, List.take_succ_cons, List.take_zero] at f0 f1 f2
    obtain ⟨n, rfl, hn⟩ := HoldsT.string Tryd.underlying9 f0
    obtain ⟨v, rfl, hv⟩ := HoldsT.string Tryd.underlying9 f1
    obtain ⟨b, rfl⟩ := HoldsT.bool Tryd.underlying4 f2
    exact ⟨⟨n, v, b⟩, rfl, ⟨by show n.size ≤ _; omega, by show v.size ≤ _; omega⟩⟩
/-- a slice of fields -/
theorem flds_of {W : World} {d : Nat} {A : Option Addr} {n c : Nat} (h : HoldsT Tryd.prog W (d + 3) 22 [.slice A n c]) : n ≤ c ∧ c ≤ 9223372036854775807 ∧ ∃ l : List Fld, Rd W 3 A n (fcellsL l) ∧ l.length = n ∧ ∀ f ∈ l, fok f := by
  obtain ⟨h1, h2, _, vs, hr, hv⟩ := HoldsT.slice (d := d + 2) Tryd.underlying22 h
  rw [cellsField] at hr hv
  have hrd := hr (by omega)
  obtain ⟨l, rfl, hl, ho⟩ := pieces (cells := fcells) (all := fcellsL) (ok := fok) (c := 3) rfl (fun _ _ => rfl) (fun _ => rfl) n vs hrd.1 (fun i hi => fld_of (hv i hi))
  exact ⟨h1, h2, l, hrd, hl, ho⟩

theorem i64_of {n : Int} (h : (Lit.int .i64 n).wf = true) : -9223372036854775808 ≤ n ∧ n ≤ 9223372036854775807 := by
  simpa [Lit.wf, IntKind.min, IntKind.max, IntKind.signed, IntKind.bits] using h
open Go.ChangeShapes Go.WideShapes Go.ChangeAt in
theorem opened_fld {H : Type} {enc : TypeId × Value → H} {W : World} {base : Nat} {v : Value} {x : DataW H} {ps : List MemPlace} (hv : Value.okWide Tryd.prog W .any base 34 v)
    (h : DataW.Trod enc Tryd.prog W 0 (fun _ => true) true 34 v x ps) (hw : ∀ n ∈ x.weights Tryd.prog 34, n ≤ reachBytes) : ∃ f : Fld, v = .agg #[.string f.n, .string f.v, .bool f.nv] ∧ fok f := by
  obtain ⟨cs, rfl, _⟩ := okWide_struct Tryd.underlying34 hv
  obtain ⟨fuel, hf⟩ := h
  obtain ⟨f, hc, ho⟩ := fld_of (d := 1) (holdsT_of_trod 3 (by simpa [Value.cells] using hf) hw)
  refine ⟨f, ?_, ho⟩
  congr 1
  exact Array.toList_inj.1 hc
/-- a slice of fields that came in -/
structure FldsIn (W : World) (A : Option Addr) (n c : Nat) (l : List Fld) : Prop where
  nc : n ≤ c
  cm : c ≤ 9223372036854775807
  rd : Rd W 3 A n (fcellsL l)
  len : l.length = n
  ok : ∀ f ∈ l, fok f
open Go.ChangeShapes Go.WideShapes Go.ChangeAt in
theorem opened_flds {H : Type} {enc : TypeId × Value → H} {W : World} {base : Nat} {v : Value} {x : DataW H} {ps : List MemPlace} (hv : Value.okWide Tryd.prog W .any base 22 v)
    (h : DataW.Trod enc Tryd.prog W 0 (fun _ => true) true 22 v x ps) (hw : ∀ n ∈ x.weights Tryd.prog 22, n ≤ reachBytes) : ∃ A n c l, v = .slice A n c ∧ FldsIn W A n c l := by
  obtain ⟨A, n, c, rfl, hs⟩ := opened_slice 4 Tryd.underlying22 hv h hw
  obtain ⟨h1, h2, l, h3, h4, h5⟩ := flds_of (d := 1) hs
  exact ⟨A, n, c, l, rfl, h1, h2, h3, h4, h5⟩
end Go.Proofs.YtilabahcngjflaaDoor
