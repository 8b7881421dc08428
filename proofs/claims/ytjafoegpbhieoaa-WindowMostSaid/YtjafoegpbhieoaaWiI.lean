/- Stage 7: the steps that come in, and the law WindowCredits: the walk. -/
import Derived.Test.YtjafoegpbhieoaaWiG
import Derived.Test.YtjafoegpbhieoaaShape
import Derived.Deep.Cut
import Derived.Deep.DeepCutAuto
import Derived.Deep.LoopGhost
namespace Go.Proofs.Ytjafoegpbhieoaa
open Go.RowKit Go.Own Go.Win
set_option linter.unusedVariables false
set_option maxRecDepth 100000
theorem i64i_of {n : Int} (h : (Lit.int .i64 n).wf = true) : i64i n := by
  simpa [i64i, Lit.wf, IntKind.min, IntKind.max, IntKind.signed, IntKind.bits] using h
theorem HoldsT.struct7 {P : Program} {W : World} {d : Nat} {t : TypeId} {cs : List Value} {fs : Array Field} (ht : P.underlying t = some (.struct fs)) (h : HoldsT P W (d + 1) t cs) :
    cs.length = P.cellsOf t ∧ ∀ (i : Nat) (f : Field), fs[i]? = some f → HoldsT P W d f.type ((cs.drop f.offset).take (P.cellsOf f.type)) := by
  unfold HoldsT at h
  rw [ht] at h
  exact h
/-- step i of a slice of steps -/
theorem op_at {W : World} {A : Option Addr} {n c i : Nat} (h : HoldsT Try.prog W 9 29 [.slice A n c]) (hi : i < n) :
    ∃ (b o : Nat) (k x : Int), A = some ⟨b, o, none⟩ ∧ W.cell? ⟨b, o + i * 2, none⟩ = some (.int .i64 k) ∧ W.cell? ⟨b, o + i * 2 + 1, none⟩ = some (.int .i64 x) ∧ i64i k ∧ i64i x := by
  obtain ⟨h1, h2, h3, vs, hr, hv⟩ := HoldsT.slice (d := 8) Try.underlying29 h
  have hc : Try.prog.cellsOf 35 = 2 := by kernel_rfl
  have hci : Try.prog.cellsOf 3 = 1 := by kernel_rfl
  rw [hc] at hr hv
  have hrd := hr (by omega)
  have hp := hv i hi
  obtain ⟨hl, hf⟩ := HoldsT.struct7 (d := 7) Try.underlying35 hp
  rw [hc] at hl
  obtain ⟨b, o, hA, hcell⟩ := hrd.2 (by omega)
  obtain ⟨cs, hcs⟩ : ∃ cs, (vs.drop (i * 2)).take 2 = cs := ⟨_, rfl⟩
  rw [hcs] at hl hf
  match cs, hl with
  | [u, v], _ =>
    have f0 := hf 0 _ rfl
    have f1 := hf 1 _ rfl
    simp only [List.getElem_toArray, List.getElem_cons_zero, List.getElem_cons_succ, hci, List.drop_zero, List.drop_succ_cons, List.take_succ_cons, List.take_zero] at f0 f1
    obtain ⟨k, rfl, hk⟩ := HoldsT.int Try.underlying3 f0
    obtain ⟨x, rfl, hx⟩ := HoldsT.int Try.underlying3 f1
    have g0 : vs[i * 2]? = some (.int .i64 k) := by
      have := congrArg (fun l => l[0]?) hcs
      simpa [List.getElem?_take, List.getElem?_drop] using this
    have g1 : vs[i * 2 + 1]? = some (.int .i64 x) := by
      have := congrArg (fun l => l[1]?) hcs
      simpa [List.getElem?_take, List.getElem?_drop] using this
    exact ⟨b, o, k, x, hA, hcell _ _ g0, by rw [Nat.add_assoc]; exact hcell _ _ g1, i64i_of hk, i64i_of hx⟩
/-- element i of a slice of numbers -/
theorem int_at {W : World} {A : Option Addr} {n c i : Nat} (h : HoldsT Try.prog W 9 41 [.slice A n c]) (hi : i < n) :
    ∃ (b o : Nat) (k : Int), A = some ⟨b, o, none⟩ ∧ W.cell? ⟨b, o + i, none⟩ = some (.int .i64 k) ∧ i64i k := by
  obtain ⟨b, o, v, rfl, hc, hv⟩ := HoldsT.at_ (d := 8) Try.underlying41 (by kernel_rfl) h hi
  obtain ⟨k, rfl, hk⟩ := HoldsT.int Try.underlying3 hv
  exact ⟨b, o, k, rfl, hc, i64i_of hk⟩
end Go.Proofs.Ytjafoegpbhieoaa
