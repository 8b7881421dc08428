/- Stage 9: the program's Step. -/
import Derived.Test.YtdpheliekdgnhaaNiA
import Derived.Test.YtdpheliekdgnhaaRows
import Derived.ProofKit
namespace Go.Proofs.Ytdpheliekdgnhaa
open Go.RowKit Go.Own Go.Sm
set_option linter.unusedVariables false
set_option linter.unusedSimpArgs false
set_option maxRecDepth 100000
/-- an answer of Step -/
abbrev ans9 (x : Ans) : Value := .tuple #[.int .i64 x.1, .int .i64 x.2.1, .int .u32 x.2.2]
section
variable {w : World}
theorem takes_c (n : Int) : Calls Try.prog 48 #[.int .i64 n] w fun r w' => r = .returned (.tuple #[.int .i64 n, .int .i64 0, .int .u32 0]) ∧ w' = w := by
  go_enter Try.func48, Try.ntmps48
  go_wp2
  refine bodyPost_ret ?_ rfl ⟨rfl, rfl⟩
  simp [results, Try.results48, go_sem]
theorem ignores_c (n : Int) : Calls Try.prog 53 #[.int .i64 n] w fun r w' => r = .returned (.tuple #[.int .i64 n, .int .i64 1, .int .u32 0]) ∧ w' = w := by
  go_enter Try.func53, Try.ntmps53
  go_wp2
  refine bodyPost_ret ?_ rfl ⟨rfl, rfl⟩
  simp [results, Try.results53, go_sem]
theorem resets_c : Calls Try.prog 54 #[] w fun r w' => r = .returned (.tuple #[.int .i64 5, .int .i64 2, .int .u32 5]) ∧ w' = w := by
  go_enter Try.func54, Try.ntmps54
  go_wp2
  refine bodyPost_ret ?_ rfl ⟨rfl, rfl⟩
  simp [results, Try.results54, go_sem]
theorem breaks_c (n x : Int) : Calls Try.prog 50 #[.int .i64 n, .int .u32 x] w fun r w' => r = .returned (.tuple #[.int .i64 n, .int .i64 3, .int .u32 x]) ∧ w' = w := by
  go_enter Try.func50, Try.ntmps50
  go_wp2
  refine bodyPost_ret ?_ rfl ⟨rfl, rfl⟩
  simp [results, Try.results50, go_sem]
theorem refuses_c (n : Int) : Calls Try.prog 32 #[.int .i64 n] w fun r w' => r = .returned (.tuple #[.int .i64 n, .int .i64 4, .int .u32 2]) ∧ w' = w := by
  go_enter Try.func32, Try.ntmps32
  go_wp2
  refine bodyPost_ret ?_ rfl ⟨rfl, rfl⟩
  simp [results, Try.results32, go_sem]
theorem choose_t (x y : Int) : Calls Try.prog 37 #[.bool true, .int .i64 x, .int .i64 y] w fun r w' => r = .returned (.int .i64 x) ∧ w' = w := by
  go_enter Try.func37, Try.ntmps37
  go_wp2
  go_ret
  exact ⟨rfl, rfl⟩
theorem choose_f (x y : Int) : Calls Try.prog 37 #[.bool false, .int .i64 x, .int .i64 y] w fun r w' => r = .returned (.int .i64 y) ∧ w' = w := by
  go_enter Try.func37, Try.ntmps37
  go_wp2
  go_ret
  exact ⟨rfl, rfl⟩
set_option maxHeartbeats 2000000 in
theorem getMsg_c (s : Int) (hs : 0 ≤ s ∧ s ≤ 6) (fin : Bool) (x : Ans) (h : getMsgV s fin = x) : Calls Try.prog 49 #[.int .i64 s, .bool fin] w fun r w' => r = .returned (ans9 x) ∧ w' = w := by
  subst h
  rcases seven hs with rfl | rfl | rfl | rfl | rfl | rfl | rfl <;> clear hs <;> cases fin
  all_goals
    simp [getMsgV, takesV, ignoresV, resetsV, breaksV, refusesV, ans9]
    go_enter Try.func49, Try.ntmps49
    go_wp2_with (first
      | (go_at_call 48; (with_reducible refine (takes_c _).mono ?_); rintro r w1 ⟨rfl, rfl⟩)
      | (go_at_call 53; (with_reducible refine (ignores_c _).mono ?_); rintro r w1 ⟨rfl, rfl⟩)
      | (go_at_call 54; (with_reducible refine (resets_c).mono ?_); rintro r w1 ⟨rfl, rfl⟩)
      | (go_at_call 50; (with_reducible refine (breaks_c _ _).mono ?_); rintro r w1 ⟨rfl, rfl⟩)
      | (go_at_call 32; (with_reducible refine (refuses_c _).mono ?_); rintro r w1 ⟨rfl, rfl⟩)
      | (go_at_call 37; (with_reducible refine (choose_t _ _).mono ?_); rintro r w1 ⟨rfl, rfl⟩)
      | (go_at_call 37; (with_reducible refine (choose_f _ _).mono ?_); rintro r w1 ⟨rfl, rfl⟩))
    refine bodyPost_ret ?_ rfl ⟨rfl, rfl⟩
    simp [results, Try.results49, go_sem]
set_option maxHeartbeats 2000000 in
theorem getReset_c (s : Int) (hs : 0 ≤ s ∧ s ≤ 6) (x : Ans) (h : getResetV s = x) : Calls Try.prog 51 #[.int .i64 s] w fun r w' => r = .returned (ans9 x) ∧ w' = w := by
  subst h
  rcases seven hs with rfl | rfl | rfl | rfl | rfl | rfl | rfl <;> clear hs
  all_goals
    simp [getResetV, takesV, ignoresV, resetsV, breaksV, refusesV, ans9]
    go_enter Try.func51, Try.ntmps51
    go_wp2_with (first
      | (go_at_call 48; (with_reducible refine (takes_c _).mono ?_); rintro r w1 ⟨rfl, rfl⟩)
      | (go_at_call 53; (with_reducible refine (ignores_c _).mono ?_); rintro r w1 ⟨rfl, rfl⟩)
      | (go_at_call 54; (with_reducible refine (resets_c).mono ?_); rintro r w1 ⟨rfl, rfl⟩)
      | (go_at_call 50; (with_reducible refine (breaks_c _ _).mono ?_); rintro r w1 ⟨rfl, rfl⟩)
      | (go_at_call 32; (with_reducible refine (refuses_c _).mono ?_); rintro r w1 ⟨rfl, rfl⟩)
      | (go_at_call 37; (with_reducible refine (choose_t _ _).mono ?_); rintro r w1 ⟨rfl, rfl⟩)
      | (go_at_call 37; (with_reducible refine (choose_f _ _).mono ?_); rintro r w1 ⟨rfl, rfl⟩))
    refine bodyPost_ret ?_ rfl ⟨rfl, rfl⟩
    simp [results, Try.results51, go_sem]
set_option maxHeartbeats 2000000 in
theorem getUpd_c (s : Int) (hs : 0 ≤ s ∧ s ≤ 6) (x : Ans) (h : getUpdV s = x) : Calls Try.prog 52 #[.int .i64 s] w fun r w' => r = .returned (ans9 x) ∧ w' = w := by
  subst h
  rcases seven hs with rfl | rfl | rfl | rfl | rfl | rfl | rfl <;> clear hs
  all_goals
    simp [getUpdV, takesV, ignoresV, resetsV, breaksV, refusesV, ans9]
    go_enter Try.func52, Try.ntmps52
    go_wp2_with (first
      | (go_at_call 48; (with_reducible refine (takes_c _).mono ?_); rintro r w1 ⟨rfl, rfl⟩)
      | (go_at_call 53; (with_reducible refine (ignores_c _).mono ?_); rintro r w1 ⟨rfl, rfl⟩)
      | (go_at_call 54; (with_reducible refine (resets_c).mono ?_); rintro r w1 ⟨rfl, rfl⟩)
      | (go_at_call 50; (with_reducible refine (breaks_c _ _).mono ?_); rintro r w1 ⟨rfl, rfl⟩)
      | (go_at_call 32; (with_reducible refine (refuses_c _).mono ?_); rintro r w1 ⟨rfl, rfl⟩)
      | (go_at_call 37; (with_reducible refine (choose_t _ _).mono ?_); rintro r w1 ⟨rfl, rfl⟩)
      | (go_at_call 37; (with_reducible refine (choose_f _ _).mono ?_); rintro r w1 ⟨rfl, rfl⟩))
    refine bodyPost_ret ?_ rfl ⟨rfl, rfl⟩
    simp [results, Try.results52, go_sem]
set_option maxHeartbeats 2000000 in
theorem sendMsg_c (s : Int) (hs : 0 ≤ s ∧ s ≤ 6) (fin : Bool) (x : Ans) (h : sendMsgV s fin = x) : Calls Try.prog 46 #[.int .i64 s, .bool fin] w fun r w' => r = .returned (ans9 x) ∧ w' = w := by
  subst h
  rcases seven hs with rfl | rfl | rfl | rfl | rfl | rfl | rfl <;> clear hs <;> cases fin
  all_goals
    simp [sendMsgV, takesV, ignoresV, resetsV, breaksV, refusesV, ans9]
    go_enter Try.func46, Try.ntmps46
    go_wp2_with (first
      | (go_at_call 48; (with_reducible refine (takes_c _).mono ?_); rintro r w1 ⟨rfl, rfl⟩)
      | (go_at_call 53; (with_reducible refine (ignores_c _).mono ?_); rintro r w1 ⟨rfl, rfl⟩)
      | (go_at_call 54; (with_reducible refine (resets_c).mono ?_); rintro r w1 ⟨rfl, rfl⟩)
      | (go_at_call 50; (with_reducible refine (breaks_c _ _).mono ?_); rintro r w1 ⟨rfl, rfl⟩)
      | (go_at_call 32; (with_reducible refine (refuses_c _).mono ?_); rintro r w1 ⟨rfl, rfl⟩)
      | (go_at_call 37; (with_reducible refine (choose_t _ _).mono ?_); rintro r w1 ⟨rfl, rfl⟩)
      | (go_at_call 37; (with_reducible refine (choose_f _ _).mono ?_); rintro r w1 ⟨rfl, rfl⟩))
    refine bodyPost_ret ?_ rfl ⟨rfl, rfl⟩
    simp [results, Try.results46, go_sem]
set_option maxHeartbeats 2000000 in
theorem sendLiv_c (s : Int) (hs : 0 ≤ s ∧ s ≤ 6) (n : Int) (x : Ans) (h : sendLivV s n = x) : Calls Try.prog 47 #[.int .i64 s, .int .i64 n] w fun r w' => r = .returned (ans9 x) ∧ w' = w := by
  subst h
  rcases seven hs with rfl | rfl | rfl | rfl | rfl | rfl | rfl <;> clear hs
  all_goals
    simp [sendLivV, takesV, ignoresV, resetsV, breaksV, refusesV, ans9]
    go_enter Try.func47, Try.ntmps47
    go_wp2_with (first
      | (go_at_call 48; (with_reducible refine (takes_c _).mono ?_); rintro r w1 ⟨rfl, rfl⟩)
      | (go_at_call 53; (with_reducible refine (ignores_c _).mono ?_); rintro r w1 ⟨rfl, rfl⟩)
      | (go_at_call 54; (with_reducible refine (resets_c).mono ?_); rintro r w1 ⟨rfl, rfl⟩)
      | (go_at_call 50; (with_reducible refine (breaks_c _ _).mono ?_); rintro r w1 ⟨rfl, rfl⟩)
      | (go_at_call 32; (with_reducible refine (refuses_c _).mono ?_); rintro r w1 ⟨rfl, rfl⟩)
      | (go_at_call 37; (with_reducible refine (choose_t _ _).mono ?_); rintro r w1 ⟨rfl, rfl⟩)
      | (go_at_call 37; (with_reducible refine (choose_f _ _).mono ?_); rintro r w1 ⟨rfl, rfl⟩))
    refine bodyPost_ret ?_ rfl ⟨rfl, rfl⟩
    simp [results, Try.results47, go_sem]
end
end Go.Proofs.Ytdpheliekdgnhaa
