/- Stage 9: the program's get, send and Step, whole. -/
import Derived.Test.YtdpheliekdgnhaaNiB
namespace Go.Proofs.Ytdpheliekdgnhaa
open Go.RowKit Go.Own Go.Sm
set_option linter.unusedVariables false
set_option linter.unusedSimpArgs false
set_option maxRecDepth 100000
section
variable {w : World}
theorem kinds9 (k : Int) : k = 1 ∨ k = 0 ∨ k = 3 ∨ k = 8 ∨ k = 5 ∨ (¬ k = 1 ∧ ¬ k = 0 ∧ ¬ k = 3 ∧ ¬ k = 8 ∧ ¬ k = 5) := by omega
set_option maxHeartbeats 4000000 in
theorem get_c (s : Int) (hs : 0 ≤ s ∧ s ≤ 6) (k : Int) (fin : Bool) (x : Ans) (h : getV s k fin = x) : Calls Try.prog 34 #[.int .i64 s, .int .i64 k, .bool fin] w fun r w' => r = .returned (ans9 x) ∧ w' = w := by
  have HS := Lib.hid hs
  rcases kinds9 k with rfl | rfl | rfl | rfl | rfl | ⟨k1, k2, k3, k4, k5⟩
  · have HX : Hid (getMsgV s fin = x) := by unfold Hid; rw [← h]; rfl
    clear h hs
    go_enter Try.func34, Try.ntmps34
    go_wp2_with (first
      | (go_at_call 49; (with_reducible refine (getMsg_c s HS.out fin _ HX.out).mono ?_); rintro r w1 ⟨rfl, rfl⟩))
    refine bodyPost_ret ?_ rfl ⟨rfl, rfl⟩
    simp [results, Try.results34, go_sem]
  · by_cases h0 : s = 0
    · subst h0
      have e : x = breaksV 0 1 := by rw [← h]; rfl
      subst e
      clear h hs
      go_enter Try.func34, Try.ntmps34
      go_wp2_with (first
        | (go_at_call 50; (with_reducible refine (breaks_c _ _).mono ?_); rintro r w1 ⟨rfl, rfl⟩))
      refine bodyPost_ret ?_ rfl ⟨rfl, rfl⟩
      simp [results, Try.results34, go_sem, breaksV, refusesV, ans9]
    · have HX : Hid (getMsgV s fin = x) := by unfold Hid; rw [← h]; unfold getV; rw [if_neg (by decide), if_pos rfl, if_neg h0]
      clear h hs
      go_enter Try.func34, Try.ntmps34
      go_wp2_with (first
        | (go_at_call 49; (with_reducible refine (getMsg_c s HS.out fin _ HX.out).mono ?_); rintro r w1 ⟨rfl, rfl⟩))
      refine bodyPost_ret ?_ rfl ⟨rfl, rfl⟩
      simp [results, Try.results34, go_sem]
  · have HX : Hid (getResetV s = x) := by unfold Hid; rw [← h]; rfl
    clear h hs
    go_enter Try.func34, Try.ntmps34
    go_wp2_with (first
      | (go_at_call 51; (with_reducible refine (getReset_c s HS.out _ HX.out).mono ?_); rintro r w1 ⟨rfl, rfl⟩))
    refine bodyPost_ret ?_ rfl ⟨rfl, rfl⟩
    simp [results, Try.results34, go_sem]
  · have HX : Hid (getUpdV s = x) := by unfold Hid; rw [← h]; rfl
    clear h hs
    go_enter Try.func34, Try.ntmps34
    go_wp2_with (first
      | (go_at_call 52; (with_reducible refine (getUpd_c s HS.out _ HX.out).mono ?_); rintro r w1 ⟨rfl, rfl⟩))
    refine bodyPost_ret ?_ rfl ⟨rfl, rfl⟩
    simp [results, Try.results34, go_sem]
  · have e : x = breaksV s 1 := by rw [← h]; unfold getV; simp
    subst e
    clear h hs
    go_enter Try.func34, Try.ntmps34
    go_wp2_with (first
      | (go_at_call 50; (with_reducible refine (breaks_c _ _).mono ?_); rintro r w1 ⟨rfl, rfl⟩))
    refine bodyPost_ret ?_ rfl ⟨rfl, rfl⟩
    simp [results, Try.results34, go_sem, breaksV, refusesV, takesV, ans9]
  · have e : x = takesV s := by rw [← h]; unfold getV; simp [k1, k2, k3, k4, k5]
    subst e
    clear h hs
    go_enter Try.func34, Try.ntmps34
    go_wp2_with (first
      | (go_at_call 48; (with_reducible refine (takes_c _).mono ?_); rintro r w1 ⟨rfl, rfl⟩))
    refine bodyPost_ret ?_ rfl ⟨rfl, rfl⟩
    simp [results, Try.results34, go_sem, breaksV, refusesV, takesV, ans9]
set_option maxHeartbeats 4000000 in
theorem send_c (s : Int) (hs : 0 ≤ s ∧ s ≤ 6) (k : Int) (fin : Bool) (x : Ans) (h : sendV s k fin = x) : Calls Try.prog 33 #[.int .i64 s, .int .i64 k, .bool fin] w fun r w' => r = .returned (ans9 x) ∧ w' = w := by
  have HS := Lib.hid hs
  rcases kinds9 k with rfl | rfl | rfl | rfl | rfl | ⟨k1, k2, k3, k4, k5⟩
  · have HX : Hid (sendMsgV s fin = x) := by unfold Hid; rw [← h]; rfl
    clear h hs
    go_enter Try.func33, Try.ntmps33
    go_wp2_with (first
      | (go_at_call 46; (with_reducible refine (sendMsg_c s HS.out fin _ HX.out).mono ?_); rintro r w1 ⟨rfl, rfl⟩))
    refine bodyPost_ret ?_ rfl ⟨rfl, rfl⟩
    simp [results, Try.results33, go_sem]
  · by_cases h0 : s = 0
    · subst h0
      have e : x = refusesV 0 := by rw [← h]; rfl
      subst e
      clear h hs
      go_enter Try.func33, Try.ntmps33
      go_wp2_with (first
        | (go_at_call 32; (with_reducible refine (refuses_c _).mono ?_); rintro r w1 ⟨rfl, rfl⟩))
      refine bodyPost_ret ?_ rfl ⟨rfl, rfl⟩
      simp [results, Try.results33, go_sem, breaksV, refusesV, ans9]
    · have HX : Hid (sendMsgV s fin = x) := by unfold Hid; rw [← h]; unfold sendV; rw [if_neg (by decide), if_pos rfl, if_neg h0]
      clear h hs
      go_enter Try.func33, Try.ntmps33
      go_wp2_with (first
        | (go_at_call 46; (with_reducible refine (sendMsg_c s HS.out fin _ HX.out).mono ?_); rintro r w1 ⟨rfl, rfl⟩))
      refine bodyPost_ret ?_ rfl ⟨rfl, rfl⟩
      simp [results, Try.results33, go_sem]
  · have HX : Hid (sendLivV s 5 = x) := by unfold Hid; rw [← h]; rfl
    clear h hs
    go_enter Try.func33, Try.ntmps33
    go_wp2_with (first
      | (go_at_call 47; (with_reducible refine (sendLiv_c s HS.out 5 _ HX.out).mono ?_); rintro r w1 ⟨rfl, rfl⟩))
    refine bodyPost_ret ?_ rfl ⟨rfl, rfl⟩
    simp [results, Try.results33, go_sem]
  · have HX : Hid (sendLivV s s = x) := by unfold Hid; rw [← h]; rfl
    clear h hs
    go_enter Try.func33, Try.ntmps33
    go_wp2_with (first
      | (go_at_call 47; (with_reducible refine (sendLiv_c s HS.out s _ HX.out).mono ?_); rintro r w1 ⟨rfl, rfl⟩))
    refine bodyPost_ret ?_ rfl ⟨rfl, rfl⟩
    simp [results, Try.results33, go_sem]
  · have e : x = refusesV s := by rw [← h]; unfold sendV; simp
    subst e
    clear h hs
    go_enter Try.func33, Try.ntmps33
    go_wp2_with (first
      | (go_at_call 32; (with_reducible refine (refuses_c _).mono ?_); rintro r w1 ⟨rfl, rfl⟩))
    refine bodyPost_ret ?_ rfl ⟨rfl, rfl⟩
    simp [results, Try.results33, go_sem, breaksV, refusesV, takesV, ans9]
  · have e : x = takesV s := by rw [← h]; unfold sendV; simp [k1, k2, k3, k4, k5]
    subst e
    clear h hs
    go_enter Try.func33, Try.ntmps33
    go_wp2_with (first
      | (go_at_call 48; (with_reducible refine (takes_c _).mono ?_); rintro r w1 ⟨rfl, rfl⟩))
    refine bodyPost_ret ?_ rfl ⟨rfl, rfl⟩
    simp [results, Try.results33, go_sem, breaksV, refusesV, takesV, ans9]
theorem isState_c (s : Int) (b : Bool) (h : isStV s = b) : Calls Try.prog 31 #[.int .i64 s] w fun r w' => r = .returned (.bool b) ∧ w' = w := by
  rcases isSt_iff h with ⟨rfl, h1, h2⟩ | ⟨rfl, h1⟩ | ⟨rfl, h1, h2⟩
  · clear h
    go_enter Try.func31, Try.ntmps31
    go_wp2
    go_ret
    exact ⟨rfl, rfl⟩
  · have k1 : ¬ 0 ≤ s := by omega
    clear h
    go_enter Try.func31, Try.ntmps31
    go_wp2
    go_ret
    exact ⟨rfl, rfl⟩
  · have k1 : 0 ≤ s := by omega
    have k2 : ¬ s ≤ 6 := by omega
    clear h
    go_enter Try.func31, Try.ntmps31
    go_wp2
    go_ret
    exact ⟨rfl, rfl⟩
set_option maxHeartbeats 4000000 in
theorem step_c (s : Int) (b : Bool) (k : Int) (fin : Bool) (x : Ans) (h : stepV s b k fin = x) : Calls Try.prog 10 #[.int .i64 s, .bool b, .int .i64 k, .bool fin] w fun r w' => r = .returned (ans9 x) ∧ w' = w := by
  obtain ⟨i, hi⟩ : ∃ i, isStV s = i := ⟨_, rfl⟩
  have HI := Lib.hid hi
  unfold stepV at h
  rw [hi] at h
  rcases isSt_iff hi with ⟨rfl, h1, h2⟩ | hn
  · have HS : Hid (0 ≤ s ∧ s ≤ 6) := ⟨h1, h2⟩
    simp only [Bool.true_eq_false, if_false] at h
    cases b
    · have HX : Hid (getV s k fin = x) := h
      clear h hi h1 h2
      go_enter Try.func10, Try.ntmps10
      go_wp2_with (first
        | (go_at_call 31; (with_reducible refine (isState_c _ _ HI.out).mono ?_); rintro r w1 ⟨rfl, rfl⟩)
        | (go_at_call 34; (with_reducible refine (get_c s HS.out k fin _ HX.out).mono ?_); rintro r w1 ⟨rfl, rfl⟩))
      refine bodyPost_ret ?_ rfl ⟨rfl, rfl⟩
      simp [results, Try.results10, go_sem]
    · have HX : Hid (sendV s k fin = x) := h
      clear h hi h1 h2
      go_enter Try.func10, Try.ntmps10
      go_wp2_with (first
        | (go_at_call 31; (with_reducible refine (isState_c _ _ HI.out).mono ?_); rintro r w1 ⟨rfl, rfl⟩)
        | (go_at_call 33; (with_reducible refine (send_c s HS.out k fin _ HX.out).mono ?_); rintro r w1 ⟨rfl, rfl⟩))
      refine bodyPost_ret ?_ rfl ⟨rfl, rfl⟩
      simp [results, Try.results10, go_sem]
  · have e : i = false := by rcases hn with h | h <;> exact h.1
    subst e
    simp only [if_true] at h
    subst h
    clear hi hn
    go_enter Try.func10, Try.ntmps10
    go_wp2_with (first
      | (go_at_call 31; (with_reducible refine (isState_c _ _ HI.out).mono ?_); rintro r w1 ⟨rfl, rfl⟩)
      | (go_at_call 32; (with_reducible refine (refuses_c _).mono ?_); rintro r w1 ⟨rfl, rfl⟩))
    refine bodyPost_ret ?_ rfl ⟨rfl, rfl⟩
    simp [results, Try.results10, go_sem, refusesV, ans9]
end
end Go.Proofs.Ytdpheliekdgnhaa
