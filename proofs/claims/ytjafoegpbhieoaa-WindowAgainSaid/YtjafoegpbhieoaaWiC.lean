/- Stage 7: upToBounds, isFirst, Give, Take, Shift, Most: the program's and the document's. -/
import Derived.Test.YtjafoegpbhieoaaWiB
namespace Go.Proofs.Ytjafoegpbhieoaa
open Go.RowKit Go.Own Go.Win Go
set_option linter.unusedVariables false
set_option maxRecDepth 100000
section
variable {W : World}
theorem upTo_c (w : Int) (x e : Int) (h : (if isW w = false then ((0, 8) : Int × Int) else (w, 0)) = (x, e)) : Calls Try.prog 31 #[.int .i64 w] W fun r W' => r = .returned (.tuple #[.int .i64 x, .int .i64 e]) ∧ W' = W := by
  obtain ⟨b, hb⟩ : ∃ b, isW w = b := ⟨_, rfl⟩
  rw [hb] at h
  have HB := Lib.hid hb
  clear hb
  cases b
  all_goals
    simp only [if_true, if_false, Bool.true_eq_false, Prod.mk.injEq] at h
    obtain ⟨rfl, rfl⟩ := h
    go_enter Try.func31, Try.ntmps31
    go_wp2_with (first
      | (go_at_call 30; (with_reducible refine (isWin_c _ _ HB.out).mono ?_); rintro e w1 ⟨rfl, rfl⟩))
    refine bodyPost_ret ?_ rfl ⟨rfl, rfl⟩
    simp [results, Try.results31, go_sem]
theorem isFirst_c (n : Int) (b : Bool) (h : decide (0 ≤ n ∧ n ≤ 2147483647) = b) : Calls Try.prog 33 #[.int .i64 n] W fun e W' => e = .returned (.bool b) ∧ W' = W := by
  subst h
  have key : (decide (0 ≤ n ∧ n ≤ 2147483647) = true ∧ ¬ n < 0 ∧ ¬ 2147483647 < n) ∨ (decide (0 ≤ n ∧ n ≤ 2147483647) = false ∧ n < 0) ∨ (decide (0 ≤ n ∧ n ≤ 2147483647) = false ∧ ¬ n < 0 ∧ 2147483647 < n) := by
    simp only [decide_eq_true_eq, decide_eq_false_iff_not]
    omega
  rcases key with ⟨h0, h1, h2⟩ | ⟨h0, h1⟩ | ⟨h0, h1, h2⟩
  · have k1 : 0 ≤ n := by omega
    have k2 : n ≤ 2147483647 := by omega
    rw [h0]
    clear h0
    go_enter Try.func33, Try.ntmps33
    go_wp2
    go_ret
    exact ⟨rfl, rfl⟩
  · have k1 : ¬ 0 ≤ n := by omega
    rw [h0]
    clear h0
    go_enter Try.func33, Try.ntmps33
    go_wp2
    go_ret
    exact ⟨rfl, rfl⟩
  · have k1 : 0 ≤ n := by omega
    have k2 : ¬ n ≤ 2147483647 := by omega
    rw [h0]
    clear h0
    go_enter Try.func33, Try.ntmps33
    go_wp2
    all_goals
      go_ret
      exact ⟨rfl, rfl⟩
theorem give_c (w a : Int) (hw : i64i w) (ha : i64i a) (x e : Int) (h : giveV w a = (x, e)) : Calls Try.prog 10 #[.int .i64 w, .int .i64 a] W fun r W' => r = .returned (.tuple #[.int .i64 x, .int .i64 e]) ∧ W' = W := by
  obtain ⟨b, hb⟩ : ∃ b, isW w = b := ⟨_, rfl⟩
  unfold giveV at h
  rw [hb] at h
  have hb2 := isW_iff hb
  have key : (b = false ∧ x = 0 ∧ e = 1) ∨ (b = true ∧ a < 1 ∧ x = 0 ∧ e = 1) ∨ (b = true ∧ ¬ a < 1 ∧ 2147483647 < a ∧ x = 0 ∧ e = 1) ∨
      (b = true ∧ ¬ a < 1 ∧ ¬ 2147483647 < a ∧ (if isW (w + a) = false then ((0, 8) : Int × Int) else (w + a, 0)) = (x, e) ∧ IntKind.i64.wrap (w + a) = w + a) := by
    cases b
    · left; simp at h; exact ⟨rfl, h.1.symm, h.2.symm⟩
    · right
      have hw3 : -2147483647 ≤ w ∧ w ≤ 2147483647 := by rcases hb2 with h | h | h <;> simp at h; exact h
      by_cases h1 : a < 1
      · left; rw [if_pos (.inr (.inl h1))] at h; cases h; exact ⟨rfl, h1, rfl, rfl⟩
      · right
        by_cases h2 : 2147483647 < a
        · left; rw [if_pos (.inr (.inr h2))] at h; cases h; exact ⟨rfl, h1, h2, rfl, rfl⟩
        · right
          rw [if_neg (by simp; omega)] at h
          refine ⟨rfl, h1, h2, ?_, by rw [IntKind.wrap_i64]; omega⟩
          rw [← h]
          unfold isW
          by_cases h3 : 2147483647 < w + a
          · rw [if_pos h3, if_pos (by rw [decide_eq_false_iff_not]; omega)]
          · rw [if_neg h3, if_neg (by rw [decide_eq_false_iff_not]; omega)]
  have HB := Lib.hid hb
  clear h hb hb2
  rcases key with ⟨rfl, rfl, rfl⟩ | ⟨rfl, h1, rfl, rfl⟩ | ⟨rfl, h1, h2, rfl, rfl⟩ | ⟨rfl, h1, h2, h3, h4⟩
  rotate_right 1
  · have H3 := Lib.hid h3
    clear h3
    go_enter Try.func10, Try.ntmps10
    go_wp2_with (first
      | (go_at_call 30; (with_reducible refine (isWin_c _ _ HB.out).mono ?_); rintro e w1 ⟨rfl, rfl⟩)
      | (go_at_call 31; (with_reducible refine (upTo_c _ _ _ H3.out).mono ?_); rintro e w1 ⟨rfl, rfl⟩))
    refine bodyPost_ret ?_ rfl ⟨rfl, rfl⟩
    simp [results, Try.results10, go_sem]
  all_goals
    go_enter Try.func10, Try.ntmps10
    go_wp2_with (first
      | (go_at_call 30; (with_reducible refine (isWin_c _ _ HB.out).mono ?_); rintro e w1 ⟨rfl, rfl⟩))
    refine bodyPost_ret ?_ rfl ⟨rfl, rfl⟩
    simp [results, Try.results10, go_sem]
theorem rgive_c (w a : Int) (hw : i64i w) (ha : i64i a) (x e : Int) (h : giveV w a = (x, e)) : Calls Try.prog 11 #[.int .i64 w, .int .i64 a] W fun r W' => r = .returned (.tuple #[.int .i64 x, .int .i64 e]) ∧ W' = W := by
  obtain ⟨b, hb⟩ : ∃ b, isW w = b := ⟨_, rfl⟩
  unfold giveV at h
  rw [hb] at h
  have hb2 := isW_iff hb
  have key : (b = false ∧ x = 0 ∧ e = 1) ∨ (b = true ∧ a < 1 ∧ x = 0 ∧ e = 1) ∨ (b = true ∧ ¬ a < 1 ∧ 2147483647 < a ∧ x = 0 ∧ e = 1) ∨
      (b = true ∧ ¬ a < 1 ∧ ¬ 2147483647 < a ∧ IntKind.i64.wrap (w + a) = w + a ∧ ((2147483647 < w + a ∧ x = 0 ∧ e = 8) ∨ (¬ 2147483647 < w + a ∧ x = w + a ∧ e = 0))) := by
    cases b
    · left; simp at h; exact ⟨rfl, h.1.symm, h.2.symm⟩
    · right
      have hw3 : -2147483647 ≤ w ∧ w ≤ 2147483647 := by rcases hb2 with h | h | h <;> simp at h; exact h
      by_cases h1 : a < 1
      · left; rw [if_pos (.inr (.inl h1))] at h; cases h; exact ⟨rfl, h1, rfl, rfl⟩
      · right
        by_cases h2 : 2147483647 < a
        · left; rw [if_pos (.inr (.inr h2))] at h; cases h; exact ⟨rfl, h1, h2, rfl, rfl⟩
        · right
          rw [if_neg (by simp; omega)] at h
          refine ⟨rfl, h1, h2, by rw [IntKind.wrap_i64]; omega, ?_⟩
          by_cases h3 : 2147483647 < w + a
          · rw [if_pos h3] at h; cases h; exact .inl ⟨h3, rfl, rfl⟩
          · rw [if_neg h3] at h; cases h; exact .inr ⟨h3, rfl, rfl⟩
  have HB := Lib.hid hb
  clear h hb hb2
  rcases key with ⟨rfl, rfl, rfl⟩ | ⟨rfl, h1, rfl, rfl⟩ | ⟨rfl, h1, h2, rfl, rfl⟩ | ⟨rfl, h1, h2, h3, ⟨h4, rfl, rfl⟩ | ⟨h4, rfl, rfl⟩⟩
  all_goals
    go_enter Try.func11, Try.ntmps11
    go_wp2_with (first
      | (go_at_call 32; (with_reducible refine (rbad_c _ _ HB.out _ rfl).mono ?_); rintro e w1 ⟨rfl, rfl⟩))
    refine bodyPost_ret ?_ rfl ⟨rfl, rfl⟩
    simp [results, Try.results11, go_sem]
theorem take_key {w n x e : Int} {b : Bool} (hb : isW w = b) (hn : i64i n) (h : takeV w n = (x, e)) : (b = false ∧ x = 0 ∧ e = 1) ∨ (b = true ∧ n < 0 ∧ x = 0 ∧ e = 1) ∨
    (b = true ∧ ¬ n < 0 ∧ 0 < n ∧ w < n ∧ x = 0 ∧ e = 8 ∧ ((w < 0 ∧ 0 < n) ∨ (¬ w < 0 ∧ w < n))) ∨
    (b = true ∧ ¬ n < 0 ∧ x = w - n ∧ e = 0 ∧ IntKind.i64.wrap (w - n) = w - n ∧ RowKit.wrap64 w = w ∧ ((n = 0 ∧ w < 0) ∨ (¬ w < 0 ∧ ¬ w < n ∧ n = 0) ∨ (¬ w < 0 ∧ ¬ w < n ∧ 0 < n))) := by
  have hb2 := isW_iff hb
  obtain ⟨n1, n2⟩ := hn
  unfold takeV at h
  rw [hb] at h
  cases b
  · left; simp at h; exact ⟨rfl, h.1.symm, h.2.symm⟩
  · right
    have hw3 : -2147483647 ≤ w ∧ w ≤ 2147483647 := by rcases hb2 with h | h | h <;> simp at h; exact h
    by_cases h1 : n < 0
    · left; rw [if_pos (.inr h1)] at h; cases h; exact ⟨rfl, h1, rfl, rfl⟩
    · right
      rw [if_neg (by simp; omega)] at h
      by_cases h2 : 0 < n ∧ w < n
      · left; rw [if_pos h2] at h; cases h; exact ⟨rfl, h1, h2.1, h2.2, rfl, rfl, by omega⟩
      · right; rw [if_neg h2] at h; cases h
        refine ⟨rfl, h1, rfl, rfl, by rw [IntKind.wrap_i64]; omega, IntWalk.wrap64_in _ (by omega), by omega⟩
theorem take_c (w n : Int) (hn : i64i n) (x e : Int) (h : takeV w n = (x, e)) : Calls Try.prog 12 #[.int .i64 w, .int .i64 n] W fun r W' => r = .returned (.tuple #[.int .i64 x, .int .i64 e]) ∧ W' = W := by
  obtain ⟨b, hb⟩ : ∃ b, isW w = b := ⟨_, rfl⟩
  have key := take_key hb hn h
  have HB := Lib.hid hb
  clear h hb
  rcases key with ⟨rfl, rfl, rfl⟩ | ⟨rfl, h1, rfl, rfl⟩ | ⟨rfl, h1, h2, h2b, rfl, rfl, ⟨h3, h4⟩ | ⟨h3, h4⟩⟩ | ⟨rfl, h1, rfl, rfl, h5, hww, ⟨rfl, h4⟩ | ⟨h3, h4, rfl⟩ | ⟨h3, h4, h6⟩⟩
  all_goals
    go_enter Try.func12, Try.ntmps12
    go_wp2_with (first
      | (go_at_call 30; (with_reducible refine (isWin_c _ _ HB.out).mono ?_); rintro e w1 ⟨rfl, rfl⟩))
    refine bodyPost_ret ?_ rfl ⟨rfl, rfl⟩
    simp [results, Try.results12, go_sem]
    try exact hww
theorem rtake_c (w n : Int) (hn : i64i n) (x e : Int) (h : takeV w n = (x, e)) : Calls Try.prog 13 #[.int .i64 w, .int .i64 n] W fun r W' => r = .returned (.tuple #[.int .i64 x, .int .i64 e]) ∧ W' = W := by
  obtain ⟨b, hb⟩ : ∃ b, isW w = b := ⟨_, rfl⟩
  have key := take_key hb hn h
  have HB := Lib.hid hb
  clear h hb
  rcases key with ⟨rfl, rfl, rfl⟩ | ⟨rfl, h1, rfl, rfl⟩ | ⟨rfl, h1, h2, h2b, rfl, rfl, ⟨h3, h4⟩ | ⟨h3, h4⟩⟩ | ⟨rfl, h1, rfl, rfl, h5, hww, ⟨rfl, h4⟩ | ⟨h3, h4, rfl⟩ | ⟨h3, h4, h6⟩⟩
  all_goals
    go_enter Try.func13, Try.ntmps13
    go_wp2_with (first
      | (go_at_call 32; (with_reducible refine (rbad_c _ _ HB.out _ rfl).mono ?_); rintro e w1 ⟨rfl, rfl⟩))
    refine bodyPost_ret ?_ rfl ⟨rfl, rfl⟩
    simp [results, Try.results13, go_sem]
    try exact hww
end
end Go.Proofs.Ytjafoegpbhieoaa
