/- HintsWrites' walk: whatever the octet, the prefix and the number, true. -/
import Derived.Test.YtdmheinepkeglaaDoorHShown
import Derived.Test.YtdmheinepkeglaaDoorHRef
namespace Go.Proofs.YtdmheinepkeglaaDoor
open Go.RowKit Go.Own Go.Huf Go.Hin
set_option linter.unusedVariables false

theorem wf_u8 {x : Int} (h : (Lit.int .u8 x).wf = true) : 0 ≤ x ∧ x ≤ 255 := by
  have hmin : IntKind.u8.min = 0 := rfl
  have hmax : IntKind.u8.max = 255 := rfl
  simp only [Lit.wf, Bool.and_eq_true, decide_eq_true_eq] at h
  omega
theorem wf_i64 {x : Int} (h : (Lit.int .i64 x).wf = true) : -9223372036854775808 ≤ x ∧ x ≤ 9223372036854775807 := by
  have hmin : IntKind.i64.min = -9223372036854775808 := rfl
  have hmax : IntKind.i64.max = 9223372036854775807 := rfl
  simp only [Lit.wf, Bool.and_eq_true, decide_eq_true_eq] at h
  omega
theorem conv_nil (w : World) : (convert 23 9 (.slice none 0 0)).run Tryd.prog w = .ok (.string ⟨#[]⟩) w := conv_str (xs := []) (Rd.nil w 1 none)
set_option maxRecDepth 100000 in
set_option maxHeartbeats 4000000 in
theorem writes_walk {x m v : Int} {W : World} (wx : (Lit.int .u8 x).wf = true) (wm : (Lit.int .i64 m).wf = true) (wv : (Lit.int .i64 v).wf = true) (hC : Cnt W) :
    Calls Tryd.prog 3 #[.int .u8 x, .int .i64 m, .int .i64 v] W fun e w' => e = .returned (.bool true) ∧ Below W.heap.size W w' := by
  have hx := wf_u8 wx
  have HC := Lib.hid hC
  clear wx wm wv hC
  by_cases h : (1 ≤ m ∧ m ≤ 8) ∧ 0 ≤ v ∧ v ≤ 2147483647
  · obtain ⟨x', rfl⟩ := Int.eq_ofNat_of_zero_le hx.1
    obtain ⟨m', rfl⟩ := Int.eq_ofNat_of_zero_le (show 0 ≤ m by omega)
    obtain ⟨v', rfl⟩ := Int.eq_ofNat_of_zero_le h.2.1
    have q1 : x' < 256 := by omega
    have q2 : 1 ≤ m' := by omega
    have q3 : m' ≤ 8 := by omega
    have q4 : v' ≤ 2147483647 := by omega
    obtain ⟨L, hL⟩ : ∃ L, putB (2 ^ m' - 1) (topOf x' m') v' = L := ⟨_, rfl⟩
    obtain ⟨N, hN⟩ : ∃ N, L.length = N := ⟨_, rfl⟩
    have HL := Lib.hid hL
    have HN := Lib.hid hN
    clear h hx hL hN
    go_enter Tryd.func3, Tryd.ntmps3
    go_wp2_with (first
      | (go_at_call 9; (with_reducible refine (shown_any _ HC.out).mono ?_); rintro e w1 ⟨rfl, hb1⟩; have H1 := Lib.hid hb1; clear hb1)
      | (go_at_call 10; (with_reducible refine (PutInt_n x' m' v' q1 q2 q3 q4 L HL.out N HN.out _ rfl _ rfl _ rfl _).mono ?_); rintro e w2 ⟨A, c, rfl, hr, _, _, hb2⟩; have H2 := Lib.hid (H1.out.trans (hb2.mono H1.out.size)); have R2 := Lib.hid hr; clear hb2 hr)
      | (go_at_call 11; (with_reducible refine (rPutInt_ok x' m' v' q1 q2 q3 q4 L HL.out _ rfl _ rfl _).mono ?_); rintro e w3 ⟨rfl, hb3⟩; have H3 := Lib.hid (H2.out.trans (hb3.mono H2.out.size)); have hcv := conv_str (c := c) (R2.out.below hb3); clear hb3))
    go_ret
    exact ⟨rfl, H3.out⟩
  · have h2 : ¬ (1 ≤ m ∧ m ≤ 8) ∨ v < 0 ∨ 2147483647 < v := by omega
    have H2 := Lib.hid h2
    clear h h2 hx
    go_enter Tryd.func3, Tryd.ntmps3
    go_wp2_with (first
      | (go_at_call 9; (with_reducible refine (shown_any _ HC.out).mono ?_); rintro e w1 ⟨rfl, hb1⟩; have H1 := Lib.hid hb1; clear hb1)
      | (go_at_call 10; (with_reducible refine (PutInt_no x m v H2.out _).mono ?_); rintro e w2 ⟨rfl, hb2⟩; have H3 := Lib.hid (H1.out.trans (hb2.mono H1.out.size)); have hcv := conv_nil w2; clear hb2)
      | (go_at_call 11; (with_reducible refine (rPutInt_no x m v H2.out _).mono ?_); rintro e w3 ⟨rfl, rfl⟩))
    go_ret
    exact ⟨rfl, H3.out⟩
end Go.Proofs.YtdmheinepkeglaaDoor
