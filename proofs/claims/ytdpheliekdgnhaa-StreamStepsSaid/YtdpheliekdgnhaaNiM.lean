/- The law StreamSteps: the walk. -/
import Derived.Test.YtdpheliekdgnhaaNiL
import Derived.Test.YtdpheliekdgnhaaNiI
namespace Go.Proofs.Ytdpheliekdgnhaa
open Go.RowKit Go.Own Go.Sm
set_option linter.unusedVariables false
set_option linter.unusedSimpArgs false
set_option maxRecDepth 100000
set_option maxHeartbeats 8000000 in
theorem lawSteps {w : World} (z : Int) (hz : i64i z) (b : Bool) (k : Int) (hk : i64i k) (fin : Bool) :
    Calls Try.prog 3 #[.int .i64 z, .bool b, .int .i64 k, .bool fin] w fun e w' => e = .returned (.bool true) ∧ Below w.heap.size w w' := by
  obtain ⟨n, d, c, hs⟩ : ∃ n d c, stepV z b k fin = (n, d, c) := ⟨_, _, _, rfl⟩
  have HS := Lib.hid hs
  clear hs hz hk
  go_enter Try.func3, Try.ntmps3
  go_wp2_with (first
    | (go_at_call 9; (with_reducible refine (shown_c _).mono ?_); rintro e w1 ⟨rfl, b1⟩; have B1 := Lib.hid b1; clear b1)
    | (go_at_call 10; (with_reducible refine (step_c _ _ k fin _ HS.out).mono ?_); rintro e w2 ⟨rfl, rfl⟩)
    | (go_at_call 11; (with_reducible refine (rstep_c _ _ k fin _ HS.out).mono ?_); rintro e w3 ⟨rfl, b3⟩; have B3 := Lib.hid (B1.out.trans (b3.mono B1.out.size)); clear b3))
  go_ret
  exact ⟨rfl, B3.out⟩
end Go.Proofs.Ytdpheliekdgnhaa
