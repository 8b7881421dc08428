/- Stage 7: Shift, Most: the program's and the document's. -/
import Derived.Test.YtjafoegpbhieoaaWiC
namespace Go.Proofs.Ytjafoegpbhieoaa
open Go.RowKit Go.Own Go.Win
set_option linter.unusedVariables false
set_option maxRecDepth 100000
section
variable {W : World}
theorem shift_key {w was is x e : Int} (h : shiftV w was is = (x, e)) : (isW w = false ∧ x = 0 ∧ e = 1) ∨
    (isW w = true ∧ decide (0 ≤ was ∧ was ≤ 2147483647) = false ∧ x = 0 ∧ e = 1 ∧ (was < 0 ∨ (¬ was < 0 ∧ 2147483647 < was))) ∨
    (isW w = true ∧ decide (0 ≤ was ∧ was ≤ 2147483647) = true ∧ ¬ was < 0 ∧ ¬ 2147483647 < was ∧ decide (0 ≤ is ∧ is ≤ 2147483647) = false ∧ x = 0 ∧ e = 1 ∧ (is < 0 ∨ (¬ is < 0 ∧ 2147483647 < is))) ∨
    (isW w = true ∧ decide (0 ≤ was ∧ was ≤ 2147483647) = true ∧ ¬ was < 0 ∧ ¬ 2147483647 < was ∧ decide (0 ≤ is ∧ is ≤ 2147483647) = true ∧ ¬ is < 0 ∧ ¬ 2147483647 < is ∧
      IntKind.i64.wrap (w - was) = w - was ∧ IntKind.i64.wrap (w - was + is) = w - was + is ∧ (if isW (w - was + is) = false then ((0, 8) : Int × Int) else (w - was + is, 0)) = (x, e)) := by
  unfold shiftV at h
  cases hb : isW w with
  | false => left; rw [hb] at h; simp at h; exact ⟨rfl, h.1.symm, h.2.symm⟩
  | true =>
    right
    have hw3 : -2147483647 ≤ w ∧ w ≤ 2147483647 := by rcases isW_iff hb with h | h | h <;> simp at h; exact h
    by_cases h1 : was < 0
    · left; rw [if_pos (.inr (.inl h1))] at h; cases h; exact ⟨rfl, by rw [decide_eq_false_iff_not]; omega, rfl, rfl, .inl h1⟩
    by_cases h2 : 2147483647 < was
    · left; rw [if_pos (.inr (.inr (.inl h2)))] at h; cases h; exact ⟨rfl, by rw [decide_eq_false_iff_not]; omega, rfl, rfl, .inr ⟨h1, h2⟩⟩
    right
    have hd : decide (0 ≤ was ∧ was ≤ 2147483647) = true := by rw [decide_eq_true_iff]; omega
    by_cases h3 : is < 0
    · left; rw [if_pos (.inr (.inr (.inr (.inl h3))))] at h; cases h; exact ⟨rfl, hd, h1, h2, by rw [decide_eq_false_iff_not]; omega, rfl, rfl, .inl h3⟩
    by_cases h4 : 2147483647 < is
    · left; rw [if_pos (.inr (.inr (.inr (.inr h4))))] at h; cases h; exact ⟨rfl, hd, h1, h2, by rw [decide_eq_false_iff_not]; omega, rfl, rfl, .inr ⟨h3, h4⟩⟩
    right
    rw [hb, if_neg (by simp; omega)] at h
    exact ⟨rfl, hd, h1, h2, by rw [decide_eq_true_iff]; omega, h3, h4, by rw [IntKind.wrap_i64]; omega, by rw [IntKind.wrap_i64]; omega, h⟩
theorem shift_c (w was is : Int) (x e : Int) (h : shiftV w was is = (x, e)) : Calls Try.prog 14 #[.int .i64 w, .int .i64 was, .int .i64 is] W fun r W' => r = .returned (.tuple #[.int .i64 x, .int .i64 e]) ∧ W' = W := by
  rcases shift_key h with ⟨h0, rfl, rfl⟩ | ⟨h0, h1, rfl, rfl, _⟩ | ⟨h0, h1, _, _, h2, rfl, rfl, _⟩ | ⟨h0, h1, _, _, h2, _, _, h3, h4, h5⟩
  · have H0 := Lib.hid h0
    clear h h0
    go_enter Try.func14, Try.ntmps14
    go_wp2_with (first
      | (go_at_call 30; (with_reducible refine (isWin_c _ _ H0.out).mono ?_); rintro e w1 ⟨rfl, rfl⟩))
    refine bodyPost_ret ?_ rfl ⟨rfl, rfl⟩
    simp [results, Try.results14, go_sem]
  · have H0 := Lib.hid h0
    have H1 := Lib.hid h1
    clear h h0 h1
    go_enter Try.func14, Try.ntmps14
    go_wp2_with (first
      | (go_at_call 30; (with_reducible refine (isWin_c _ _ H0.out).mono ?_); rintro e w1 ⟨rfl, rfl⟩)
      | (go_at_call 33; (with_reducible refine (isFirst_c _ _ H1.out).mono ?_); rintro e w1 ⟨rfl, rfl⟩))
    refine bodyPost_ret ?_ rfl ⟨rfl, rfl⟩
    simp [results, Try.results14, go_sem]
  · have H0 := Lib.hid h0
    have H1 := Lib.hid h1
    have H2 := Lib.hid h2
    clear h h0 h1 h2
    go_enter Try.func14, Try.ntmps14
    go_wp2_with (first
      | (go_at_call 30; (with_reducible refine (isWin_c _ _ H0.out).mono ?_); rintro e w1 ⟨rfl, rfl⟩)
      | (go_at_call 33; (with_reducible refine (isFirst_c _ _ H1.out).mono ?_); rintro e w1 ⟨rfl, rfl⟩)
      | (go_at_call 33; (with_reducible refine (isFirst_c _ _ H2.out).mono ?_); rintro e w1 ⟨rfl, rfl⟩))
    refine bodyPost_ret ?_ rfl ⟨rfl, rfl⟩
    simp [results, Try.results14, go_sem]
  · have H0 := Lib.hid h0
    have H1 := Lib.hid h1
    have H2 := Lib.hid h2
    have H5 := Lib.hid h5
    clear h h0 h1 h2 h5
    go_enter Try.func14, Try.ntmps14
    go_wp2_with (first
      | (go_at_call 30; (with_reducible refine (isWin_c _ _ H0.out).mono ?_); rintro e w1 ⟨rfl, rfl⟩)
      | (go_at_call 33; (with_reducible refine (isFirst_c _ _ H1.out).mono ?_); rintro e w1 ⟨rfl, rfl⟩)
      | (go_at_call 33; (with_reducible refine (isFirst_c _ _ H2.out).mono ?_); rintro e w1 ⟨rfl, rfl⟩)
      | (go_at_call 31; (with_reducible refine (upTo_c _ _ _ H5.out).mono ?_); rintro e w1 ⟨rfl, rfl⟩))
    refine bodyPost_ret ?_ rfl ⟨rfl, rfl⟩
    simp [results, Try.results14, go_sem]
theorem rshift_c (w was is : Int) (x e : Int) (h : shiftV w was is = (x, e)) : Calls Try.prog 15 #[.int .i64 w, .int .i64 was, .int .i64 is] W fun r W' => r = .returned (.tuple #[.int .i64 x, .int .i64 e]) ∧ W' = W := by
  rcases shift_key h with ⟨h0, rfl, rfl⟩ | ⟨h0, h1, rfl, rfl, h2 | ⟨h2, h3⟩⟩ | ⟨h0, h1, h2, h3, h4, rfl, rfl, h5 | ⟨h5, h6⟩⟩ | ⟨h0, h1, h2, h3, h4, h5, h6, h7, h8, h9⟩
  rotate_right 1
  · obtain ⟨b, hb⟩ : ∃ b, isW (w - was + is) = b := ⟨_, rfl⟩
    rw [hb] at h9
    have H0 := Lib.hid h0
    have H9 := Lib.hid hb
    clear h h0 h1 h4 hb
    cases b
    all_goals
      simp only [if_true, if_false, Bool.true_eq_false, Prod.mk.injEq] at h9
      obtain ⟨rfl, rfl⟩ := h9
      go_enter Try.func15, Try.ntmps15
      go_wp2_with (first
        | (go_at_call 32; (with_reducible refine (rbad_c _ _ H0.out _ rfl).mono ?_); rintro e w1 ⟨rfl, rfl⟩)
        | (go_at_call 32; (with_reducible refine (rbad_c _ _ H9.out _ rfl).mono ?_); rintro e w1 ⟨rfl, rfl⟩))
      refine bodyPost_ret ?_ rfl ⟨rfl, rfl⟩
      simp [results, Try.results15, go_sem]
  · have H0 := Lib.hid h0
    clear h h0
    go_enter Try.func15, Try.ntmps15
    go_wp2_with (first
      | (go_at_call 32; (with_reducible refine (rbad_c _ _ H0.out _ rfl).mono ?_); rintro e w1 ⟨rfl, rfl⟩))
    refine bodyPost_ret ?_ rfl ⟨rfl, rfl⟩
    simp [results, Try.results15, go_sem]
  all_goals
    have H0 := Lib.hid h0
    clear h h0 h1
    try clear h4
    go_enter Try.func15, Try.ntmps15
    go_wp2_with (first
      | (go_at_call 32; (with_reducible refine (rbad_c _ _ H0.out _ rfl).mono ?_); rintro e w1 ⟨rfl, rfl⟩))
    refine bodyPost_ret ?_ rfl ⟨rfl, rfl⟩
    simp [results, Try.results15, go_sem]
theorem run_min_int4 {P : Program} {w : World} (ts : Array TypeId) (t : TypeId) (x y z u : Int) : (Builtin.min_ ts t #[.int .i64 x, .int .i64 y, .int .i64 z, .int .i64 u]).run P w = .ok (.int .i64 (min (min x y) (min z u))) w := by
  have key : (if u < (if z < (if y < x then y else x) then z else (if y < x then y else x)) then u else (if z < (if y < x then y else x) then z else (if y < x then y else x))) = min (min x y) (min z u) := by
    repeat' split
    all_goals omega
  rw [← key]
  simp [Builtin.min_, Builtin.min2]
attribute [local go_sem] run_min_int4
theorem most_c (a b c d : Int) (x : Int) (hm : mostV a b c d = x) : Calls Try.prog 16 #[.int .i64 a, .int .i64 b, .int .i64 c, .int .i64 d] W fun r W' => r = .returned (.int .i64 x) ∧ W' = W := by
  go_enter Try.func16, Try.ntmps16
  go_wp2
  all_goals
    go_ret
    refine ⟨ret_int ?_, rfl⟩
    unfold mostV at hm
    omega
theorem rmost_c (a b c d : Int) (x : Int) (hm : mostV a b c d = x) : Calls Try.prog 17 #[.int .i64 a, .int .i64 b, .int .i64 c, .int .i64 d] W fun r W' => r = .returned (.int .i64 x) ∧ W' = W := by
  go_enter Try.func17, Try.ntmps17
  go_wp2
  all_goals
    go_ret
    refine ⟨ret_int ?_, rfl⟩
    unfold mostV at hm
    omega
end
end Go.Proofs.Ytjafoegpbhieoaa
