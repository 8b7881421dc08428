/- The laws WindowTells, WindowShifts, WindowMost: the walks. -/
import Derived.Test.YtjafoegpbhieoaaWiG
namespace Go.Proofs.Ytjafoegpbhieoaa
open Go.RowKit Go.Own Go.Win
set_option linter.unusedVariables false
set_option maxRecDepth 100000
set_option maxHeartbeats 4000000 in
theorem lawTells {w0 : World} (w : Int) (hw : i64i w) (a : Int) (ha : i64i a) (b : Int) (hb : i64i b) (c : Int) (hc : i64i c) :
    Calls Try.prog 3 #[.int .i64 w, .int .i64 a, .int .i64 b, .int .i64 c] w0 fun e w' => e = .returned (.bool true) ∧ Below w0.heap.size w0 w' := by
  obtain ⟨x1, e1, h1⟩ : ∃ x e, giveV w a = (x, e) := ⟨_, _, rfl⟩
  obtain ⟨x2, e2, h2⟩ : ∃ x e, takeV w a = (x, e) := ⟨_, _, rfl⟩
  obtain ⟨x3, e3, h3⟩ : ∃ x e, shiftV w a b = (x, e) := ⟨_, _, rfl⟩
  obtain ⟨x4, h4⟩ : ∃ x, mostV w a b c = x := ⟨_, rfl⟩
  have H1 := Lib.hid h1
  have H2 := Lib.hid h2
  have H3 := Lib.hid h3
  have H4 := Lib.hid h4
  have HW := Lib.hid hw
  have HA := Lib.hid ha
  clear h1 h2 h3 h4 hw ha hb hc
  go_enter Try.func3, Try.ntmps3
  go_wp2_with (first
    | (go_at_call 9; (with_reducible refine (shown_c _).mono ?_); rintro e w1 ⟨rfl, b1⟩; have B1 := Lib.hid b1; clear b1)
    | (go_at_call 10; (with_reducible refine (give_c w a HW.out HA.out x1 e1 H1.out).mono ?_); rintro e w2 ⟨rfl, rfl⟩)
    | (go_at_call 11; (with_reducible refine (rgive_c w a HW.out HA.out x1 e1 H1.out).mono ?_); rintro e w2 ⟨rfl, rfl⟩)
    | (go_at_call 12; (with_reducible refine (take_c w a HA.out x2 e2 H2.out).mono ?_); rintro e w2 ⟨rfl, rfl⟩)
    | (go_at_call 13; (with_reducible refine (rtake_c w a HA.out x2 e2 H2.out).mono ?_); rintro e w2 ⟨rfl, rfl⟩)
    | (go_at_call 14; (with_reducible refine (shift_c w a b x3 e3 H3.out).mono ?_); rintro e w2 ⟨rfl, rfl⟩)
    | (go_at_call 15; (with_reducible refine (rshift_c w a b x3 e3 H3.out).mono ?_); rintro e w2 ⟨rfl, rfl⟩)
    | (go_at_call 16; (with_reducible refine (most_c w a b c x4 H4.out).mono ?_); rintro e w2 ⟨rfl, rfl⟩)
    | (go_at_call 17; (with_reducible refine (rmost_c w a b c x4 H4.out).mono ?_); rintro e w2 ⟨rfl, rfl⟩))
  go_ret
  exact ⟨rfl, B1.out⟩
theorem shift_see {w was is x e : Int} (h : shiftV w was is = (x, e)) : e ≠ 0 ∨ (e = 0 ∧ x = w - was + is ∧ isW x = true ∧ isW w = true ∧ 0 ≤ was ∧ was ≤ 2147483647 ∧ 0 ≤ is ∧ is ≤ 2147483647) := by
  rcases shift_key h with ⟨_, _, rfl⟩ | ⟨_, _, _, rfl, _⟩ | ⟨_, _, _, _, _, _, rfl, _⟩ | ⟨h0, _, h1, h2, _, h3, h4, _, _, h5⟩
  · left; decide
  · left; decide
  · left; decide
  · cases hb : isW (w - was + is) with
    | false => rw [hb, if_pos rfl] at h5; cases h5; left; decide
    | true => rw [hb, if_neg (by decide)] at h5; cases h5; right; exact ⟨rfl, rfl, hb, h0, by omega, by omega, by omega, by omega⟩
theorem shift_eq {w was is : Int} (h0 : isW w = true) (h1 : 0 ≤ was ∧ was ≤ 2147483647) (h2 : 0 ≤ is ∧ is ≤ 2147483647) (h3 : isW (w - was + is) = true) : shiftV w was is = (w - was + is, 0) := by
  unfold shiftV
  rw [if_neg (by rw [h0]; simp; omega), h3, if_neg (by decide)]
theorem take_see {w n x e : Int} (hn : i64i n) (h : takeV w n = (x, e)) : e ≠ 0 ∨ (e = 0 ∧ x = w - n ∧ isW w = true ∧ 0 ≤ n ∧ (n = 0 ∨ n ≤ w)) := by
  obtain ⟨b, hb⟩ : ∃ b, isW w = b := ⟨_, rfl⟩
  rcases take_key hb hn h with ⟨_, _, rfl⟩ | ⟨_, _, _, rfl⟩ | ⟨_, _, _, _, _, rfl, _⟩ | ⟨rfl, h1, rfl, rfl, _, _, h2⟩
  · left; decide
  · left; decide
  · left; decide
  · right; exact ⟨rfl, rfl, hb, by omega, by omega⟩
theorem isW_of {w : Int} (h : -2147483647 ≤ w ∧ w ≤ 2147483647) : isW w = true := by unfold isW; rw [decide_eq_true_iff]; exact h
theorem of_isW {w : Int} (h : isW w = true) : -2147483647 ≤ w ∧ w ≤ 2147483647 := by unfold isW at h; rwa [decide_eq_true_iff] at h
set_option maxHeartbeats 4000000 in
theorem lawShifts {w0 : World} (w : Int) (hw : i64i w) (was : Int) (hwas : i64i was) (is : Int) (his : i64i is) (n : Int) (hn : i64i n) :
    Calls Try.prog 4 #[.int .i64 w, .int .i64 was, .int .i64 is, .int .i64 n] w0 fun e w' => e = .returned (.bool true) ∧ Below w0.heap.size w0 w' := by
  obtain ⟨x, e1, h1⟩ : ∃ x e, shiftV w was is = (x, e) := ⟨_, _, rfl⟩
  obtain ⟨a, g, h2⟩ : ∃ x e, takeV w n = (x, e) := ⟨_, _, rfl⟩
  obtain ⟨b, h, h3⟩ : ∃ y e, takeV x n = (y, e) := ⟨_, _, rfl⟩
  have HN := Lib.hid hn
  have H1 := Lib.hid h1
  have H2 := Lib.hid h2
  have H3 := Lib.hid h3
  have key : (¬ e1 = 0) ∨ (e1 = 0 ∧ ¬ g = 0 ∧ shiftV x is was = (w, 0)) ∨ (e1 = 0 ∧ g = 0 ∧ ¬ h = 0 ∧ shiftV x is was = (w, 0)) ∨ (e1 = 0 ∧ g = 0 ∧ h = 0 ∧ shiftV x is was = (w, 0) ∧ shiftV a was is = (b, 0)) := by
    rcases shift_see h1 with h | ⟨rfl, rfl, k1, k2, k3, k4, k5, k6⟩
    · exact .inl h
    · right
      have hb : shiftV (w - was + is) is was = (w, 0) := by
        rw [shift_eq k1 ⟨k5, k6⟩ ⟨k3, k4⟩ (by rw [show w - was + is - is + was = w by omega]; exact k2), show w - was + is - is + was = w by omega]
      rcases take_see hn h2 with h | ⟨rfl, rfl, _, n1, n2⟩
      · exact .inl ⟨rfl, h, hb⟩
      · right
        rcases take_see hn h3 with h | ⟨rfl, rfl, _, n3, n4⟩
        · exact .inl ⟨rfl, rfl, h, hb⟩
        · right
          have w1 := of_isW k1
          have w2 := of_isW k2
          refine ⟨rfl, rfl, rfl, hb, ?_⟩
          have e : w - n - was + is = w - was + is - n := by omega
          rw [shift_eq (isW_of (by omega)) ⟨k3, k4⟩ ⟨k5, k6⟩ (isW_of (by omega)), e]
  clear h1 h2 h3 hn hw hwas his
  rcases key with h1 | ⟨rfl, h1, h2⟩ | ⟨rfl, rfl, h1, h2⟩ | ⟨rfl, rfl, rfl, h1, h2⟩
  · go_enter Try.func4, Try.ntmps4
    go_wp2_with (first
      | (go_at_call 9; (with_reducible refine (shown_c _).mono ?_); rintro e w1 ⟨rfl, b1⟩; have B1 := Lib.hid b1; clear b1)
      | (go_at_call 14; (with_reducible refine (shift_c w was is x e1 H1.out).mono ?_); rintro e w2 ⟨rfl, rfl⟩)
      | (go_at_call 12; (with_reducible refine (take_c w n HN.out a g H2.out).mono ?_); rintro e w2 ⟨rfl, rfl⟩)
      | (go_at_call 12; (with_reducible refine (take_c x n HN.out b h H3.out).mono ?_); rintro e w2 ⟨rfl, rfl⟩))
    go_ret
    exact ⟨rfl, B1.out⟩
  · have H4 := Lib.hid h2
    clear h2
    go_enter Try.func4, Try.ntmps4
    go_wp2_with (first
      | (go_at_call 9; (with_reducible refine (shown_c _).mono ?_); rintro e w1 ⟨rfl, b1⟩; have B1 := Lib.hid b1; clear b1)
      | (go_at_call 14; (with_reducible refine (shift_c w was is x 0 H1.out).mono ?_); rintro e w2 ⟨rfl, rfl⟩)
      | (go_at_call 14; (with_reducible refine (shift_c x is was w 0 H4.out).mono ?_); rintro e w2 ⟨rfl, rfl⟩)
      | (go_at_call 12; (with_reducible refine (take_c w n HN.out a g H2.out).mono ?_); rintro e w2 ⟨rfl, rfl⟩)
      | (go_at_call 12; (with_reducible refine (take_c x n HN.out b h H3.out).mono ?_); rintro e w2 ⟨rfl, rfl⟩))
    go_ret
    exact ⟨rfl, B1.out⟩
  · have H4 := Lib.hid h2
    clear h2
    go_enter Try.func4, Try.ntmps4
    go_wp2_with (first
      | (go_at_call 9; (with_reducible refine (shown_c _).mono ?_); rintro e w1 ⟨rfl, b1⟩; have B1 := Lib.hid b1; clear b1)
      | (go_at_call 14; (with_reducible refine (shift_c w was is x 0 H1.out).mono ?_); rintro e w2 ⟨rfl, rfl⟩)
      | (go_at_call 14; (with_reducible refine (shift_c x is was w 0 H4.out).mono ?_); rintro e w2 ⟨rfl, rfl⟩)
      | (go_at_call 12; (with_reducible refine (take_c w n HN.out a 0 H2.out).mono ?_); rintro e w2 ⟨rfl, rfl⟩)
      | (go_at_call 12; (with_reducible refine (take_c x n HN.out b h H3.out).mono ?_); rintro e w2 ⟨rfl, rfl⟩))
    go_ret
    exact ⟨rfl, B1.out⟩
  · have H4 := Lib.hid h1
    have H5 := Lib.hid h2
    clear h1 h2
    go_enter Try.func4, Try.ntmps4
    go_wp2_with (first
      | (go_at_call 9; (with_reducible refine (shown_c _).mono ?_); rintro e w1 ⟨rfl, b1⟩; have B1 := Lib.hid b1; clear b1)
      | (go_at_call 14; (with_reducible refine (shift_c w was is x 0 H1.out).mono ?_); rintro e w2 ⟨rfl, rfl⟩)
      | (go_at_call 14; (with_reducible refine (shift_c x is was w 0 H4.out).mono ?_); rintro e w2 ⟨rfl, rfl⟩)
      | (go_at_call 12; (with_reducible refine (take_c w n HN.out a 0 H2.out).mono ?_); rintro e w2 ⟨rfl, rfl⟩)
      | (go_at_call 12; (with_reducible refine (take_c x n HN.out b 0 H3.out).mono ?_); rintro e w2 ⟨rfl, rfl⟩)
      | (go_at_call 14; (with_reducible refine (shift_c a was is b 0 H5.out).mono ?_); rintro e w2 ⟨rfl, rfl⟩))
    go_ret
    exact ⟨rfl, B1.out⟩
set_option maxHeartbeats 4000000 in
theorem lawMost {w0 : World} (a : Int) (ha : i64i a) (b : Int) (hb : i64i b) (c : Int) (hc : i64i c) (d : Int) (hd : i64i d) :
    Calls Try.prog 7 #[.int .i64 a, .int .i64 b, .int .i64 c, .int .i64 d] w0 fun e w' => e = .returned (.bool true) ∧ Below w0.heap.size w0 w' := by
  obtain ⟨n, hn⟩ : ∃ x, mostV a b c d = x := ⟨_, rfl⟩
  have H4 := Lib.hid hn
  have key : (a < 0 ∧ n = 0) ∨ (¬ a < 0 ∧ b < 0 ∧ n = 0) ∨ (¬ a < 0 ∧ ¬ b < 0 ∧ c < 0 ∧ n = 0) ∨ (¬ a < 0 ∧ ¬ b < 0 ∧ ¬ c < 0 ∧ d < 0 ∧ n = 0) ∨
      (¬ a < 0 ∧ ¬ b < 0 ∧ ¬ c < 0 ∧ ¬ d < 0 ∧ n ≤ a ∧ n ≤ b ∧ n ≤ c ∧ n ≤ d ∧ (n = a ∨ (¬ n = a ∧ n = b) ∨ (¬ n = a ∧ ¬ n = b ∧ n = c) ∨ (¬ n = a ∧ ¬ n = b ∧ ¬ n = c ∧ n = d))) := by
    unfold mostV at hn
    omega
  clear hn ha hb hc hd
  rcases key with ⟨h1, h9⟩ | ⟨h1, h2, h9⟩ | ⟨h1, h2, h3, h9⟩ | ⟨h1, h2, h3, h4, h9⟩ | ⟨h1, h2, h3, h4, h5, h6, h7, h8, h9 | ⟨h9, h10⟩ | ⟨h9, h10, h11⟩ | ⟨h9, h10, h11, h12⟩⟩
  all_goals
    go_enter Try.func7, Try.ntmps7
    go_wp2_with (first
      | (go_at_call 9; (with_reducible refine (shown_c _).mono ?_); rintro e w1 ⟨rfl, b1⟩; have B1 := Lib.hid b1; clear b1)
      | (go_at_call 16; (with_reducible refine (most_c a b c d n H4.out).mono ?_); rintro e w2 ⟨rfl, rfl⟩))
    go_ret
    exact ⟨rfl, B1.out⟩
end Go.Proofs.Ytjafoegpbhieoaa
