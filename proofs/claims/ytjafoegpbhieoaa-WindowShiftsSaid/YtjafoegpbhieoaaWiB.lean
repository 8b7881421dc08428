/- Stage 7: Give, Take, Shift, Most: the program's and the document's. -/
import Derived.Test.YtjafoegpbhieoaaWiA
import Derived.Test.YtjafoegpbhieoaaRows
import Derived.ProofKit
namespace Go.Proofs.Ytjafoegpbhieoaa
open Go.RowKit Go.Own Go.Win
set_option linter.unusedVariables false
set_option maxRecDepth 100000
def i64i (z : Int) : Prop := -9223372036854775808 ≤ z ∧ z ≤ 9223372036854775807
section
variable {W : World}
theorem isWin_c (w : Int) (b : Bool) (h : isW w = b) : Calls Try.prog 30 #[.int .i64 w] W fun e W' => e = .returned (.bool b) ∧ W' = W := by
  rcases isW_iff h with ⟨rfl, h1, h2⟩ | ⟨rfl, h1⟩ | ⟨rfl, h1, h2⟩
  · clear h
    go_enter Try.func30, Try.ntmps30
    go_wp2
    go_ret
    exact ⟨rfl, rfl⟩
  · have k1 : ¬ -2147483647 ≤ w := by omega
    clear h
    go_enter Try.func30, Try.ntmps30
    go_wp2
    go_ret
    exact ⟨rfl, rfl⟩
  · have k1 : -2147483647 ≤ w := by omega
    have k2 : ¬ w ≤ 2147483647 := by omega
    clear h
    go_enter Try.func30, Try.ntmps30
    go_wp2
    go_ret
    exact ⟨rfl, rfl⟩
theorem rbad_c (w : Int) (b : Bool) (h : isW w = b) (d : Bool) (hd : d = !b) : Calls Try.prog 32 #[.int .i64 w] W fun e W' => e = .returned (.bool d) ∧ W' = W := by
  subst hd
  rcases isW_iff h with ⟨rfl, h1, h2⟩ | ⟨rfl, h1⟩ | ⟨rfl, h1, h2⟩
  · have k1 : ¬ w < -2147483647 := by omega
    have k2 : ¬ 2147483647 < w := by omega
    clear h
    go_enter Try.func32, Try.ntmps32
    go_wp2
    go_ret
    exact ⟨rfl, rfl⟩
  all_goals
    clear h
    go_enter Try.func32, Try.ntmps32
    go_wp2
    go_ret
    exact ⟨rfl, rfl⟩
end
end Go.Proofs.Ytjafoegpbhieoaa
