/- Stage 9: what comes in, by its type. -/
import Derived.Test.YtdpheliekdgnhaaNiS
import Derived.Test.YtdpheliekdgnhaaShape
import Derived.Deep.Cut
import Derived.Deep.DeepCutAuto
import Derived.Deep.LoopGhost
namespace Go.Proofs.Ytdpheliekdgnhaa
open Go.RowKit Go.Own Go.Sm
set_option linter.unusedVariables false
set_option linter.unusedSimpArgs false
set_option maxRecDepth 100000
theorem i64i_of {n : Int} (h : (Lit.int .i64 n).wf = true) : i64i n := by
  simpa [i64i, Lit.wf, IntKind.min, IntKind.max, IntKind.signed, IntKind.bits] using h
theorem HoldsT.struct9 {P : Program} {W : World} {d : Nat} {t : TypeId} {cs : List Value} {fs : Array Field} (ht : P.underlying t = some (.struct fs)) (h : HoldsT P W (d + 1) t cs) :
    cs.length = P.cellsOf t ∧ ∀ (i : Nat) (f : Field), fs[i]? = some f → HoldsT P W d f.type ((cs.drop f.offset).take (P.cellsOf f.type)) := by
  unfold HoldsT at h
  rw [ht] at h
  exact h
theorem get_of {vs cs : List Value} {i n j : Nat} (hcs : (vs.drop (i * n)).take n = cs) (hj : j < n) : vs[i * n + j]? = cs[j]? := by
  rw [← hcs]
  simp [List.getElem?_take, List.getElem?_drop, hj]
/-- step i of a slice of steps -/
theorem op_at {W : World} {A : Option Addr} {n c i : Nat} (h : HoldsT Try.prog W 9 42 [.slice A n c]) (hi : i < n) :
    ∃ (b o : Nat) (k x : Int), A = some ⟨b, o, none⟩ ∧ W.cell? ⟨b, o + i * 2, none⟩ = some (.int .i64 k) ∧ W.cell? ⟨b, o + i * 2 + 1, none⟩ = some (.int .i64 x) ∧ i64i k ∧ i64i x := by
  obtain ⟨h1, h2, h3, vs, hr, hv⟩ := HoldsT.slice (d := 8) Try.underlying42 h
  have hc : Try.prog.cellsOf 48 = 2 := by kernel_rfl
  have hci : Try.prog.cellsOf 3 = 1 := by kernel_rfl
  rw [hc] at hr hv
  have hrd := hr (by omega)
  have hp := hv i hi
  obtain ⟨hl, hf⟩ := HoldsT.struct9 (d := 7) Try.underlying48 hp
  rw [hc] at hl
  obtain ⟨b, o, hA, hcell⟩ := hrd.2 (by omega)
  obtain ⟨cs, hcs⟩ : ∃ cs, (vs.drop (i * 2)).take 2 = cs := ⟨_, rfl⟩
  rw [hcs] at hl hf
  match cs, hl with
  | [u, v], _ =>
    have f0 := hf 0 _ rfl
    have f1 := hf 1 _ rfl
    simp only [List.getElem_toArray, List.getElem_cons_zero, List.getElem_cons_succ, hci, List.drop_zero, List.drop_succ_cons, List.take_succ_cons, List.take_zero] at f0 f1
    obtain ⟨k, rfl, hk⟩ := HoldsT.int Try.underlying3 f0
    obtain ⟨x, rfl, hx⟩ := HoldsT.int Try.underlying3 f1
    exact ⟨b, o, k, x, hA, hcell (i * 2) _ (get_of (j := 0) hcs (by omega)), by rw [Nat.add_assoc]; exact hcell _ _ (get_of (j := 1) hcs (by omega)), i64i_of hk, i64i_of hx⟩
/-- act i of a slice of acts -/
theorem act_at {W : World} {A : Option Addr} {n c i : Nat} (h : HoldsT Try.prog W 9 28 [.slice A n c]) (hi : i < n) :
    ∃ (b o : Nat) (f m l : Bool) (k : Int), A = some ⟨b, o, none⟩ ∧ W.cell? ⟨b, o + i * 4, none⟩ = some (.bool f) ∧ W.cell? ⟨b, o + i * 4 + 1, none⟩ = some (.bool m) ∧ W.cell? ⟨b, o + i * 4 + 2, none⟩ = some (.bool l) ∧ W.cell? ⟨b, o + i * 4 + 3, none⟩ = some (.int .i64 k) ∧ i64i k := by
  obtain ⟨h1, h2, h3, vs, hr, hv⟩ := HoldsT.slice (d := 8) Try.underlying28 h
  have hc : Try.prog.cellsOf 36 = 4 := by kernel_rfl
  have hci : Try.prog.cellsOf 3 = 1 := by kernel_rfl
  have hcb : Try.prog.cellsOf 4 = 1 := by kernel_rfl
  rw [hc] at hr hv
  have hrd := hr (by omega)
  have hp := hv i hi
  obtain ⟨hl, hf⟩ := HoldsT.struct9 (d := 7) Try.underlying36 hp
  rw [hc] at hl
  obtain ⟨b, o, hA, hcell⟩ := hrd.2 (by omega)
  obtain ⟨cs, hcs⟩ : ∃ cs, (vs.drop (i * 4)).take 4 = cs := ⟨_, rfl⟩
  rw [hcs] at hl hf
  match cs, hl with
  | [u, v, s, t], _ =>
    have f0 := hf 0 _ rfl
    have f1 := hf 1 _ rfl
    have f2 := hf 2 _ rfl
    have f3 := hf 3 _ rfl
    simp only [List.getElem_toArray, List.getElem_cons_zero, List.getElem_cons_succ, hci, hcb, List.drop_zero, List.drop_succ_cons, List.take_succ_cons, List.take_zero] at f0 f1 f2 f3
    obtain ⟨f, rfl⟩ := HoldsT.bool Try.underlying4 f0
    obtain ⟨m, rfl⟩ := HoldsT.bool Try.underlying4 f1
    obtain ⟨l, rfl⟩ := HoldsT.bool Try.underlying4 f2
    obtain ⟨k, rfl, hk⟩ := HoldsT.int Try.underlying3 f3
    exact ⟨b, o, f, m, l, k, hA, hcell (i * 4) _ (get_of (j := 0) hcs (by omega)), by rw [Nat.add_assoc]; exact hcell _ _ (get_of (j := 1) hcs (by omega)), by rw [Nat.add_assoc]; exact hcell _ _ (get_of (j := 2) hcs (by omega)), by rw [Nat.add_assoc]; exact hcell _ _ (get_of (j := 3) hcs (by omega)), i64i_of hk⟩
theorem cell_to {w w' : World} (hb : Below w.heap.size w w') {p : Addr} {v : Value} (h : w.cell? p = some v) : w'.cell? p = some v := by
  rw [hb.cell (World.block_lt_of_cell? _ _ h)]
  exact h
theorem cell_drew {w : World} {p : Addr} {v : Value} (h : w.cell? p = some v) : w.drew.cell? p = some v := h
end Go.Proofs.Ytdpheliekdgnhaa
