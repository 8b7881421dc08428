/- What the row's list of package-level variables gives: counts holds its numbers; a world for the witness. -/
import Derived.Test.YtinieljgcenemaaDoorRows
import Derived.Test.YtinieljgcenemaaDoorG1
import Derived.Lib.LaidTab
namespace Go.Proofs.YtinieljgcenemaaDoor
open Go.RowKit Go.Own Go.Huf

def cntZ : List Int := [0, 0, 0, 0, 0, 10, 26, 32, 6, 0, 5, 3, 2, 6, 2, 3, 0, 0, 0, 3, 8, 13, 26, 29, 12, 4, 15, 19, 29, 0, 4]
theorem cntZ_cnt : ∀ i, i < 31 → cntZ.getD i 0 = ((cnt i : Nat) : Int) := by decide +kernel
theorem gCounts : Tryd.prog.globalNamed "flume/huffman.counts" = some 0 := by kernel_rfl
theorem gCountsType : (Tryd.prog.globals[0]?).map (·.type) = some 153 := by kernel_rfl
theorem cellsCounts : Tryd.prog.cellsOf 153 = 31 := by kernel_rfl
theorem cellsU32 : Tryd.prog.cellsOf 134 = 1 := by kernel_rfl
theorem cnt_of_laid {W : World} (h : laidMetH Tryd.prog [("flume/huffman.counts", Rows.laid_flume_huffman_counts)] W) : Cnt W := by
  have ht : Lib.TabIs Tryd.prog W "flume/huffman.counts" .u32 cntZ := Lib.tabIs_of_head (rest := []) gCounts gCountsType Tryd.underlying153 Tryd.underlying134 cellsU32 cellsCounts h
  intro i hi
  rw [ht.cell gCounts i hi, cntZ_cnt i hi]

/-- A WORLD FOR THE WITNESS: the settled one, counts holding what its initialiser lays. -/
noncomputable def laidWorld (os : Os) : World :=
  { World.holding Tryd.prog os ⟨#[], #[], []⟩ with heap := (World.holding Tryd.prog os ⟨#[], #[], []⟩).heap.modify 0 fun
      | .cells _ t frozen => .cells (cntZ.map (Value.int .u32)).toArray t frozen
      | o => o }
end Go.Proofs.YtinieljgcenemaaDoor
