/- The laws' inputs: a slice of fields, of steps; a field. -/
import Derived.Test.YtemgojgkklkmbaaTblP
import Derived.Test.YtemgojgkklkmbaaPTt
import Derived.Test.YtemgojgkklkmbaaShape
namespace Go.Own
open Go.RowKit
theorem HoldsT.struct_ {P : Program} {W : World} {d : Nat} {t : TypeId} {cs : List Value} {fs : Array Field} (ht : P.underlying t = some (.struct fs)) (h : HoldsT P W (d + 1) t cs) :
    cs.length = P.cellsOf t ∧ ∀ (i : Nat) (f : Field), fs[i]? = some f → HoldsT P W d f.type ((cs.drop f.offset).take (P.cellsOf f.type)) := by
  unfold HoldsT at h
  rw [ht] at h
  exact h
/-- cells in pieces of c, each the cells of some x -/
theorem pieces {α : Type} {cells : α → List Value} {all : List α → List Value} (h0 : all [] = []) (h1 : ∀ x l, all (x :: l) = cells x ++ all l) {ok : α → Prop} {c : Nat} (hc : ∀ x, (cells x).length = c) :
    ∀ (n : Nat) (vs : List Value), vs.length = n * c → (∀ i, i < n → ∃ x, (vs.drop (i * c)).take c = cells x ∧ ok x) → ∃ l : List α, vs = all l ∧ l.length = n ∧ ∀ x ∈ l, ok x
  | 0, vs, hl, _ => ⟨[], by rw [h0]; exact List.eq_nil_of_length_eq_zero (by omega), rfl, by simp⟩
  | n + 1, vs, hl, h => by
    obtain ⟨x, hx, ox⟩ := h 0 (by omega)
    rw [Nat.zero_mul, List.drop_zero] at hx
    obtain ⟨l, e, hll, ol⟩ := pieces h0 h1 hc n (vs.drop c) (by rw [List.length_drop, hl, Nat.succ_mul]; omega) (fun i hi => by
      obtain ⟨y, hy, oy⟩ := h (i + 1) (by omega)
      refine ⟨y, ?_, oy⟩
      rw [List.drop_drop, ← hy, Nat.succ_mul, Nat.add_comm c])
    refine ⟨x :: l, ?_, by simp [hll], ?_⟩
    · rw [h1, ← e, ← hx, List.take_append_drop]
    · intro y hy
      rcases List.mem_cons.1 hy with rfl | hy
      · exact ox
      · exact ol y hy
end Go.Own
namespace Go.Proofs.Ytemgojgkklkmbaa
open Go.RowKit Go.Own Go.Tbl
set_option linter.unusedVariables false

theorem cellsField : Try.prog.cellsOf 23 = 3 := by kernel_rfl
theorem cellsStr : Try.prog.cellsOf 9 = 1 := by kernel_rfl
theorem cellsBool : Try.prog.cellsOf 4 = 1 := by kernel_rfl
theorem cellsInt : Try.prog.cellsOf 3 = 1 := by kernel_rfl
theorem cellsOp : Try.prog.cellsOf 38 = 5 := by kernel_rfl
theorem fld_of {W : World} {d : Nat} {cs : List Value} (h : HoldsT Try.prog W (d + 2) 23 cs) : ∃ f : Fld, cs = fcells f ∧ fok f := by
  obtain ⟨hl, hf⟩ := HoldsT.struct_ (d := d + 1) Try.underlying23 h
  rw [cellsField] at hl
  match cs, hl with
  | [x, y, z], _ =>
    have f0 := hf 0 _ rfl
    have f1 := hf 1 _ rfl
    have f2 := hf 2 _ rfl
    simp only [List.getElem_toArray, List.getElem_cons_zero, List.getElem_cons_succ, cellsStr, cellsBool, List.drop_zero, List.drop_succ_cons, List.take_succ_cons, List.take_zero] at f0 f1 f2
    obtain ⟨n, rfl, hn⟩ := HoldsT.string Try.underlying9 f0
    obtain ⟨v, rfl, hv⟩ := HoldsT.string Try.underlying9 f1
    obtain ⟨b, rfl⟩ := HoldsT.bool Try.underlying4 f2
    exact ⟨⟨n, v, b⟩, rfl, ⟨by show n.size ≤ _; omega, by show v.size ≤ _; omega⟩⟩
/-- a slice of fields -/
theorem flds_of {W : World} {d : Nat} {A : Option Addr} {n c : Nat} (h : HoldsT Try.prog W (d + 3) 25 [.slice A n c]) : n ≤ c ∧ c ≤ 9223372036854775807 ∧ ∃ l : List Fld, Rd W 3 A n (fcellsL l) ∧ l.length = n ∧ ∀ f ∈ l, fok f := by
  obtain ⟨h1, h2, _, vs, hr, hv⟩ := HoldsT.slice (d := d + 2) Try.underlying25 h
  rw [cellsField] at hr hv
  have hrd := hr (by omega)
  obtain ⟨l, rfl, hl, ho⟩ := pieces (cells := fcells) (all := fcellsL) (ok := fok) (c := 3) rfl (fun _ _ => rfl) (fun _ => rfl) n vs hrd.1 (fun i hi => fld_of (hv i hi))
  exact ⟨h1, h2, l, hrd, hl, ho⟩

/-- a step -/
structure Opp where
  kind : Int
  n : Int
  f : Fld
def opcells (o : Opp) : List Value := [.int .i64 o.kind, .int .i64 o.n, .string o.f.n, .string o.f.v, .bool o.f.nv]
def opcellsL : List Opp → List Value
  | [] => []
  | o :: r => opcells o ++ opcellsL r
def ook (o : Opp) : Prop := i64 o.kind ∧ i64 o.n ∧ fok o.f
theorem i64_of {n : Int} (h : (Lit.int .i64 n).wf = true) : i64 n := by
  simpa [i64, Lit.wf, IntKind.min, IntKind.max, IntKind.signed, IntKind.bits] using h
theorem op_of {W : World} {d : Nat} {cs : List Value} (h : HoldsT Try.prog W (d + 3) 38 cs) : ∃ o : Opp, cs = opcells o ∧ ook o := by
  obtain ⟨hl, hf⟩ := HoldsT.struct_ (d := d + 2) Try.underlying38 h
  rw [cellsOp] at hl
  match cs, hl with
  | [x, y, z, u, v], _ =>
    have f0 := hf 0 _ rfl
    have f1 := hf 1 _ rfl
    have f2 := hf 2 _ rfl
    simp only [List.getElem_toArray, List.getElem_cons_zero, List.getElem_cons_succ, cellsInt, cellsField, List.drop_zero, List.drop_succ_cons, List.take_succ_cons, List.take_zero] at f0 f1 f2
    obtain ⟨k, rfl, hk⟩ := HoldsT.int Try.underlying3 f0
    obtain ⟨n, rfl, hn⟩ := HoldsT.int Try.underlying3 f1
    obtain ⟨f, e, ho⟩ := fld_of f2
    simp only [fcells, List.cons.injEq, and_true] at e
    obtain ⟨rfl, rfl, rfl⟩ := e
    exact ⟨⟨k, n, f⟩, rfl, i64_of hk, i64_of hn, ho⟩
theorem ops_of {W : World} {d : Nat} {A : Option Addr} {n c : Nat} (h : HoldsT Try.prog W (d + 4) 31 [.slice A n c]) : n ≤ c ∧ c ≤ 9223372036854775807 ∧ ∃ l : List Opp, Rd W 5 A n (opcellsL l) ∧ l.length = n ∧ ∀ o ∈ l, ook o := by
  obtain ⟨h1, h2, _, vs, hr, hv⟩ := HoldsT.slice (d := d + 3) Try.underlying31 h
  rw [cellsOp] at hr hv
  have hrd := hr (by omega)
  obtain ⟨l, rfl, hl, ho⟩ := pieces (cells := opcells) (all := opcellsL) (ok := ook) (c := 5) rfl (fun _ _ => rfl) (fun _ => rfl) n vs hrd.1 (fun i hi => op_of (hv i hi))
  exact ⟨h1, h2, l, hrd, hl, ho⟩
theorem opcellsL_at {l : List Opp} {k : Nat} {o : Opp} (h : l[k]? = some o) : ∀ j, j < 5 → (opcellsL l)[k * 5 + j]? = (opcells o)[j]? := by
  induction l generalizing k with
  | nil => simp at h
  | cons g r ih =>
    intro j hj
    cases k with
    | zero =>
      rw [List.getElem?_cons_zero] at h
      obtain rfl := Option.some.inj h
      rw [opcellsL, Nat.zero_mul, Nat.zero_add, List.getElem?_append_left (by simp [opcells]; omega)]
    | succ k =>
      rw [List.getElem?_cons_succ] at h
      rw [← ih h j hj, opcellsL, List.getElem?_append_right (by simp [opcells]; omega)]
      congr 1
      simp [opcells]
      omega
theorem opcellsL_length (l : List Opp) : (opcellsL l).length = l.length * 5 := by
  induction l with
  | nil => rfl
  | cons f r ih => rw [opcellsL, List.length_append, ih]; simp [opcells]; omega
/-- the cells of step k -/
theorem rd_op {w : World} {A : Option Addr} {n k : Nat} {l : List Opp} {o : Opp} (h : Rd w 5 A n (opcellsL l)) (hk : l[k]? = some o) :
    ∃ b s, A = some ⟨b, s, none⟩ ∧ w.cell? ⟨b, s + k * 5, none⟩ = some (.int .i64 o.kind) ∧ w.cell? ⟨b, s + k * 5 + 1, none⟩ = some (.int .i64 o.n) ∧ w.cell? ⟨b, s + k * 5 + 2, none⟩ = some (.string o.f.n) ∧ w.cell? ⟨b, s + k * 5 + 3, none⟩ = some (.string o.f.v) ∧ w.cell? ⟨b, s + k * 5 + 4, none⟩ = some (.bool o.f.nv) := by
  have hl : l.length = n := by have := h.1; rw [opcellsL_length] at this; omega
  have hkl : k < l.length := (List.getElem?_eq_some_iff.1 hk).1
  obtain ⟨b, s, rfl, hc⟩ := h.2 (by omega)
  have g := opcellsL_at hk
  refine ⟨b, s, rfl, hc _ _ (g 0 (by omega)), ?_, ?_, ?_, ?_⟩
  · rw [Nat.add_assoc]; exact hc _ _ (g 1 (by omega))
  · rw [Nat.add_assoc]; exact hc _ _ (g 2 (by omega))
  · rw [Nat.add_assoc]; exact hc _ _ (g 3 (by omega))
  · rw [Nat.add_assoc]; exact hc _ _ (g 4 (by omega))
section
open Go.ChangeShapes Go.WideShapes Go.ChangeAt
/-- an argument that is a field -/
theorem opened_fld {H : Type} {enc : TypeId × Value → H} {W : World} {base : Nat} {v : Value} {x : DataW H} {ps : List MemPlace} (hv : Value.okWide Try.prog W .any base 23 v)
    (h : DataW.Trod enc Try.prog W 0 (fun _ => true) true 23 v x ps) (hw : ∀ n ∈ x.weights Try.prog 23, n ≤ reachBytes) : ∃ f : Fld, v = .agg #[.string f.n, .string f.v, .bool f.nv] ∧ fok f := by
  obtain ⟨cs, rfl, _⟩ := okWide_struct Try.underlying23 hv
  obtain ⟨fuel, hf⟩ := h
  obtain ⟨f, hc, ho⟩ := fld_of (d := 1) (holdsT_of_trod 3 (by simpa [Value.cells] using hf) hw)
  refine ⟨f, ?_, ho⟩
  congr 1
  exact Array.toList_inj.1 hc
/-- a slice of fields that came in -/
structure FldsIn (W : World) (A : Option Addr) (n c : Nat) (l : List Fld) : Prop where
  nc : n ≤ c
  cm : c ≤ 9223372036854775807
  rd : Rd W 3 A n (fcellsL l)
  len : l.length = n
  ok : ∀ f ∈ l, fok f
structure OpsIn (W : World) (A : Option Addr) (n c : Nat) (l : List Opp) : Prop where
  nc : n ≤ c
  cm : c ≤ 9223372036854775807
  rd : Rd W 5 A n (opcellsL l)
  len : l.length = n
  ok : ∀ o ∈ l, ook o
theorem opened_flds {H : Type} {enc : TypeId × Value → H} {W : World} {base : Nat} {v : Value} {x : DataW H} {ps : List MemPlace} (hv : Value.okWide Try.prog W .any base 25 v)
    (h : DataW.Trod enc Try.prog W 0 (fun _ => true) true 25 v x ps) (hw : ∀ n ∈ x.weights Try.prog 25, n ≤ reachBytes) : ∃ A n c l, v = .slice A n c ∧ FldsIn W A n c l := by
  obtain ⟨A, n, c, rfl, hs⟩ := opened_slice 4 Try.underlying25 hv h hw
  obtain ⟨h1, h2, l, h3, h4, h5⟩ := flds_of (d := 1) hs
  exact ⟨A, n, c, l, rfl, h1, h2, h3, h4, h5⟩
theorem opened_ops {H : Type} {enc : TypeId × Value → H} {W : World} {base : Nat} {v : Value} {x : DataW H} {ps : List MemPlace} (hv : Value.okWide Try.prog W .any base 31 v)
    (h : DataW.Trod enc Try.prog W 0 (fun _ => true) true 31 v x ps) (hw : ∀ n ∈ x.weights Try.prog 31, n ≤ reachBytes) : ∃ A n c l, v = .slice A n c ∧ OpsIn W A n c l := by
  obtain ⟨A, n, c, rfl, hs⟩ := opened_slice 5 Try.underlying31 hv h hw
  obtain ⟨h1, h2, l, h3, h4, h5⟩ := ops_of (d := 1) hs
  exact ⟨A, n, c, l, rfl, h1, h2, h3, h4, h5⟩
end
end Go.Proofs.Ytemgojgkklkmbaa
