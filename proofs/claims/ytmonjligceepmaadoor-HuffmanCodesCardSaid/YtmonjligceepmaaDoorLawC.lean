/- HuffmanCodes' walk: whatever the number, true. -/
import Derived.Test.YtmonjligceepmaaDoorRefC
namespace Go.Proofs.YtmonjligceepmaaDoor
open Go.RowKit Go.Own Go.Huf
set_option linter.unusedVariables false

theorem Code_n (s c n : Nat) (hs : s < 257) (hc : code s = (c, n)) (w : World) (hC : Cnt w) : Calls Tryd.prog 12 #[.int .i64 (s : Int)] w fun e w' => e = .returned (.tuple #[.int .u32 (c : Int), .int .i64 (n : Int)]) ∧ Below w.heap.size w w' := by
  have := Code_yes s hs w hC
  rw [hc] at this
  exact this
theorem rBits_00 (w : World) : Calls Tryd.prog 14 #[.int .u32 0, .int .i64 0] w fun e w' => e = .returned (.string ⟨#[]⟩) ∧ Below w.heap.size w w' := rBits_any 0 0 w (by omega) (by omega)
set_option maxRecDepth 100000 in
set_option maxHeartbeats 4000000 in
theorem codes_walk {W : World} {a0 : Int} (w0 : (Lit.int .i64 a0).wf = true) (hC : Cnt W) :
    Calls Tryd.prog 3 #[.int .i64 a0] W fun e w' => e = .returned (.bool true) ∧ Below W.heap.size W w' := by
  clear w0
  have HC := Lib.hid hC
  clear hC
  by_cases hin : 0 ≤ a0 ∧ a0 < 257
  · obtain ⟨s, rfl⟩ := Int.eq_ofNat_of_zero_le hin.1
    have hs : s < 257 := by omega
    clear hin
    obtain ⟨c, n, hc⟩ : ∃ c n, code s = (c, n) := ⟨_, _, rfl⟩
    have b := code_sym s hs
    have d := code_lt s hs
    rw [hc] at b d
    have n1 := b.2.2.2.1
    have n2 := b.2.2.2.2
    simp only at n1 n2 d
    obtain ⟨T, hT⟩ : ∃ T, bstr (bitsN n c) = T := ⟨_, rfl⟩
    have hcb : bstr (cbits s) = T := by rw [← hT, cbits, hc]
    have hsz : T.size = n := by rw [← hT, bstr_size, bitsN_length]
    have p30 : (2 : Nat) ^ n ≤ 2 ^ 30 := Nat.pow_le_pow_right (by omega) n2
    have hcl : c < 1073741824 := by omega
    have hz : ((c : Int) / 2 ^ n) = 0 := by
      have e : ((c : Int) / 2 ^ n) = ((c / 2 ^ n : Nat) : Int) := by simp
      rw [e, Nat.div_eq_of_lt d]; rfl
    have hmin : min n 31 = n := by omega
    have hmin2 : min n 32 = n := by omega
    have Hc := Lib.hid hc
    have HT := Lib.hid hT
    have Hcb := Lib.hid hcb
    clear hc b d hT hcb p30
    go_enter Tryd.func3, Tryd.ntmps3
    go_wp2_with (first
      | (go_at_call 11; (with_reducible refine (shown_any _ HC.out).mono ?_); rintro e w1 ⟨rfl, hb1⟩; have H1 := Lib.hid hb1; clear hb1)
      | (go_at_call 12; (with_reducible refine (Code_n s c n hs Hc.out _ (HC.out.below H1.out)).mono ?_); rintro e w2 ⟨rfl, hb2⟩; have H2 := Lib.hid (H1.out.trans (hb2.mono H1.out.size)); clear hb2)
      | (go_at_call 13; (with_reducible refine (rCode_yes s hs _).mono ?_); rw [Hcb.out]; rintro e w3 ⟨rfl, hb3⟩; have H3 := Lib.hid (H2.out.trans (hb3.mono H2.out.size)); clear hb3)
      | (go_at_call 14; (with_reducible refine (rBits_any c n _ (by omega) (by omega)).mono ?_); rw [HT.out]; rintro e w4 ⟨rfl, hb4⟩; have H4 := Lib.hid (H3.out.trans (hb4.mono H3.out.size)); clear hb4))
    go_ret
    exact ⟨rfl, H4.out⟩
  · have hno : a0 < 0 ∨ 257 ≤ a0 := by omega
    clear hin
    go_enter Tryd.func3, Tryd.ntmps3
    go_wp2_with (first
      | (go_at_call 11; (with_reducible refine (shown_any _ HC.out).mono ?_); rintro e w1 ⟨rfl, hb1⟩; have H1 := Lib.hid hb1; clear hb1)
      | (go_at_call 12; (with_reducible refine (Code_no _ hno _).mono ?_); rintro e w' ⟨rfl, rfl⟩)
      | (go_at_call 13; (with_reducible refine (rCode_no _ hno _).mono ?_); rintro e w3 ⟨rfl, hb3⟩; have H3 := Lib.hid (H1.out.trans (hb3.mono H1.out.size)); clear hb3)
      | (go_at_call 14; (with_reducible refine (rBits_00 _).mono ?_); rintro e w4 ⟨rfl, hb4⟩; have H4 := Lib.hid (H3.out.trans (hb4.mono H3.out.size)); clear hb4))
    go_ret
    exact ⟨rfl, H4.out⟩
end Go.Proofs.YtmonjligceepmaaDoor
