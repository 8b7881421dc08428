/- Stage 10: fields and rows of fields in memory. -/
import Derived.Test.YtilabahcngjflaaDoorTbl
import Derived.Test.YtilabahcngjflaaDoorChecked
import Derived.Deep.RegionHeld
import Derived.Deep.DrawnRows
import Derived.Great.BuildSlice
import Derived.Deep.WholeRow
import Derived.Deep.LoopGhost
import Derived.Deep.QuietTactic
import Derived.BigQuiet
import Derived.StillTailTactics
namespace Go.Proofs.YtilabahcngjflaaDoor
open Go.RowKit Go.Own Go.Tbl
set_option linter.unusedVariables false

/-- a field's value, its cells -/
def fv (f : Fld) : Value := .agg #[.string f.n, .string f.v, .bool f.nv]
def fcells (f : Fld) : List Value := [.string f.n, .string f.v, .bool f.nv]
def fcellsL : List Fld → List Value
  | [] => []
  | f :: r => fcells f ++ fcellsL r
theorem fcellsL_length (l : List Fld) : (fcellsL l).length = l.length * 3 := by
  induction l with
  | nil => rfl
  | cons f r ih => rw [fcellsL, List.length_append, ih]; simp [fcells]; omega
theorem fcellsL_append (a b : List Fld) : fcellsL (a ++ b) = fcellsL a ++ fcellsL b := by
  induction a with
  | nil => rfl
  | cons f r ih => rw [List.cons_append, fcellsL, fcellsL, ih, List.append_assoc]
theorem fcellsL_take (l : List Fld) : ∀ k, (fcellsL l).take (k * 3) = fcellsL (l.take k) := by
  induction l with
  | nil => intro k; simp [fcellsL]
  | cons f r ih =>
    intro k
    cases k with
    | zero => simp [fcellsL]
    | succ k =>
      rw [List.take_succ_cons, fcellsL, fcellsL, ← ih k, show (k + 1) * 3 = (fcells f).length + k * 3 by simp [fcells]; omega, List.take_append, List.take_of_length_le (by omega)]
      congr 2
      omega
theorem fcellsL_at {l : List Fld} {k : Nat} {f : Fld} (h : l[k]? = some f) :
    (fcellsL l)[k * 3]? = some (.string f.n) ∧ (fcellsL l)[k * 3 + 1]? = some (.string f.v) ∧ (fcellsL l)[k * 3 + 2]? = some (.bool f.nv) := by
  induction l generalizing k with
  | nil => simp at h
  | cons g r ih =>
    cases k with
    | zero =>
      rw [List.getElem?_cons_zero] at h
      obtain rfl := Option.some.inj h
      simp [fcellsL, fcells]
    | succ k =>
      rw [List.getElem?_cons_succ] at h
      obtain ⟨h1, h2, h3⟩ := ih h
      have e : ∀ j, (fcellsL (g :: r))[(k + 1) * 3 + j]? = (fcellsL r)[k * 3 + j]? := by
        intro j
        rw [fcellsL, List.getElem?_append_right (by simp [fcells]; omega)]
        congr 1
        simp [fcells]
        omega
      exact ⟨(e 0).trans h1, (e 1).trans h2, (e 2).trans h3⟩
theorem fcells_one (l : List Fld) : ∀ v ∈ fcellsL l, v.oneCell' = true := by
  induction l with
  | nil => simp [fcellsL]
  | cons f r ih =>
    intro v hv
    rw [fcellsL] at hv
    rcases List.mem_append.1 hv with hv | hv
    · simp [fcells] at hv
      rcases hv with rfl | rfl | rfl <;> rfl
    · exact ih v hv
set_option maxRecDepth 100000 in
theorem EF : Elt Tryd.prog 22 34 (.agg #[.string ⟨#[]⟩, .string ⟨#[]⟩, .bool false]) 3 40 := ⟨Tryd.underlying22, by
  refine ⟨_, rfl, ?_, ?_, ?_⟩ <;> kernel_rfl, rfl, by omega⟩
/-- the cells of field k of a slice -/
theorem rd_fld {w : World} {A : Option Addr} {n k : Nat} {l : List Fld} {f : Fld} (h : Rd w 3 A n (fcellsL l)) (hk : l[k]? = some f) :
    ∃ b o, A = some ⟨b, o, none⟩ ∧ w.cell? ⟨b, o + k * 3, none⟩ = some (.string f.n) ∧ w.cell? ⟨b, o + k * 3 + 1, none⟩ = some (.string f.v) ∧ w.cell? ⟨b, o + k * 3 + 2, none⟩ = some (.bool f.nv) := by
  have hl : l.length = n := by have := h.1; rw [fcellsL_length] at this; omega
  have hkl : k < l.length := (List.getElem?_eq_some_iff.1 hk).1
  obtain ⟨b, o, rfl, hc⟩ := h.2 (by omega)
  obtain ⟨h1, h2, h3⟩ := fcellsL_at hk
  exact ⟨b, o, rfl, hc _ _ h1, by rw [Nat.add_assoc]; exact hc _ _ h2, by rw [Nat.add_assoc]; exact hc _ _ h3⟩

theorem own_up {w : World} {b B : Nat} {e : TypeId} {size : Nat} {v : Value} {n : Nat} {xs : List Value} (h : w.ownsRow b e size v n xs) (hB : ∀ g, v.ownBlock = some g → B ≤ g) : w.ownsRow B e size v n xs := by
  refine ⟨h.1, ?_⟩
  rcases h.2 with hn | ⟨g, cap, cur, rfl, _, rest⟩
  · exact .inl hn
  · exact .inr ⟨g, cap, cur, rfl, hB g rfl, rest⟩
/-- texts of a field that real machines hold -/
def fok (f : Fld) : Prop := f.n.size ≤ 140737488355328 ∧ f.v.size ≤ 140737488355328
theorem szs_mem {l : List Fld} : ∀ f ∈ l, sz f ≤ szs l := by
  induction l with
  | nil => simp
  | cons g r ih =>
    intro f hf
    rw [szs]
    rcases List.mem_cons.1 hf with rfl | hf
    · omega
    · have := ih f hf; omega
end Go.Proofs.YtilabahcngjflaaDoor
