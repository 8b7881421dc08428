/- Stage 10: what the rows' list of package-level variables gives (nothing that is wanted here: no walk reads one); a world for the witness. -/
import Derived.Test.YtilabahcngjflaaDoorRows
import Derived.Test.YtilabahcngjflaaDoorJiV
import Derived.Lib.LaidTab
namespace Go.Proofs.YtilabahcngjflaaDoor
open Go.RowKit Go.Own
set_option linter.unusedVariables false
theorem cnt_of_laid {W : World} {L : List (String × DataW Unit)} (h : laidMetH Tryd.prog L W) : True := trivial
def tab32 : List Int := [0, 1, 28, 2, 29, 14, 24, 3, 30, 22, 20, 15, 25, 17, 4, 8, 31, 27, 13, 23, 21, 19, 16, 7, 26, 12, 18, 6, 11, 5, 10, 9]
def tab64 : List Int := [0, 1, 56, 2, 57, 49, 28, 3, 61, 58, 42, 50, 38, 29, 17, 4, 62, 47, 59, 36, 45, 43, 51, 22, 53, 39, 33, 30, 24, 18, 12, 5, 63, 55, 48, 27, 60, 41, 37, 16, 46, 35, 44, 21, 52, 32, 23, 11, 54, 26, 40, 15, 34, 20, 31, 10, 25, 14, 19, 9, 13, 8, 7, 6]
def tab10 : List Int := [1, 10, 100, 1000, 10000, 100000, 1000000, 10000000, 100000000, 1000000000, 10000000000, 100000000000, 1000000000000, 10000000000000, 100000000000000, 1000000000000000, 10000000000000000, 100000000000000000, 1000000000000000000, 10000000000000000000]
abbrev synS : ByteArray := ⟨#[105, 110, 118, 97, 108, 105, 100, 32, 115, 121, 110, 116, 97, 120]⟩
abbrev rngS : ByteArray := ⟨#[118, 97, 108, 117, 101, 32, 111, 117, 116, 32, 111, 102, 32, 114, 97, 110, 103, 101]⟩
/-- so many blocks has the settled world -/
noncomputable def low : Nat := (World.holding Tryd.prog default ⟨#[], #[], []⟩).heap.size
/-- A WORLD FOR THE WITNESS: the settled one, with two error texts more; the five variables hold what their initialisers lay. -/
noncomputable def laidWorld (os : Os) : World :=
  let w0 := World.holding Tryd.prog os ⟨#[.cells #[.string synS] 87, .cells #[.string rngS] 87], #[], []⟩
  let h1 := w0.heap.modify 0 fun
      | .cells _ t frozen => .cells #[.iface 85 (.pointer (some ⟨low, 0, none⟩))] t frozen
      | o => o
  let h2 := h1.modify 1 fun
      | .cells _ t frozen => .cells #[.iface 85 (.pointer (some ⟨low + 1, 0, none⟩))] t frozen
      | o => o
  let h3 := h2.modify 2 fun
      | .cells _ t frozen => .cells (tab10.map (Value.int .u64)).toArray t frozen
      | o => o
  let h4 := h3.modify 3 fun
      | .cells _ t frozen => .cells (tab32.map (Value.int .u8)).toArray t frozen
      | o => o
  { w0 with heap := h4.modify 4 fun
      | .cells _ t frozen => .cells (tab64.map (Value.int .u8)).toArray t frozen
      | o => o }
end Go.Proofs.YtilabahcngjflaaDoor
