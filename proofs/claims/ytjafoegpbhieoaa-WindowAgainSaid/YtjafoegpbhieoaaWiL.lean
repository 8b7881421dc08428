/- The law WindowAgain: the walk. -/
import Derived.Test.YtjafoegpbhieoaaWiJ
import Derived.Test.YtjafoegpbhieoaaWiM
namespace Go.Win
set_option linter.unusedVariables false
/-- a credit of W of which nothing is held -/
def mg (W came given : Int) : Cr := ⟨W + given - came, 0, came - given⟩
def Inv2 (W : Int) (k : Nat) (came given : Int) : Prop := 1 ≤ W ∧ W ≤ 65535 ∧ 0 ≤ given ∧ given ≤ came ∧ 2 * (came - given) < W ∧ came ≤ 65535 * (k : Int) ∧ k ≤ 300
theorem Inv2.ok {W : Int} {k : Nat} {came given : Int} (h : Inv2 W k came given) : (mg W came given).ok := by
  obtain ⟨h1, h2, h3, h4, h5, h6, h7⟩ := h
  unfold mg
  refine ⟨?_, ?_, ?_, ?_, ?_⟩ <;> simp only <;> omega
theorem again_no {W : Int} {k : Nat} {came given : Int} (h : Inv2 W k came given) (hk : k < 300) (x : Int) (h0 : 0 ≤ x) (hx : W + given - came < x) :
    gotE (mg W came given) x = 8 ∧ gotS (mg W came given) x = mg W came given ∧ Inv2 W (k + 1) came given := by
  obtain ⟨h1, h2, h3, h4, h5, h6, h7⟩ := h
  have hn : ¬ x < 0 := by omega
  have hx' : (mg W came given).left < x := hx
  unfold gotE gotS
  rw [if_neg hn, if_neg hn, if_pos hx', if_pos hx']
  exact ⟨rfl, rfl, h1, h2, h3, h4, h5, by omega, by omega⟩
theorem again_yes {W : Int} {k : Nat} {came given : Int} (h : Inv2 W k came given) (hk : k < 300) (x : Int) (h0 : 0 ≤ x) (hx : ¬ W + given - came < x) :
    ∃ c1 c2 : Cr, ∃ D : Int, gotE (mg W came given) x = 0 ∧ gotS (mg W came given) x = c1 ∧ c1.ok ∧ freeE c1 x = 0 ∧ freeS c1 x = c2 ∧ c2.ok ∧ dueV c2 = D ∧ giveS c2 = mg W (came + x) (given + D) ∧ Inv2 W (k + 1) (came + x) (given + D) := by
  have hok := h.ok
  obtain ⟨h1, h2, h3, h4, h5, h6, h7⟩ := h
  have e : (mg W came given).left = W + given - came := rfl
  have e1 : gotS (mg W came given) x = ⟨W + given - came - x, 0 + x, came - given⟩ := by
    unfold gotS
    rw [if_neg (by omega), e, if_neg hx]
    rfl
  have o1 := (gotS_ok hok x).1
  rw [e1] at o1
  have e2 : freeS ⟨W + given - came - x, 0 + x, came - given⟩ x = ⟨W + given - came - x, 0 + x - x, came - given + x⟩ := by
    unfold freeS
    rw [if_neg (by omega), if_neg (by simp only; omega)]
  have o2 := (freeS_ok o1 x).1
  rw [e2] at o2
  obtain ⟨D, hD⟩ : ∃ D, dueV ⟨W + given - came - x, 0 + x - x, came - given + x⟩ = D := ⟨_, rfl⟩
  have hDv : (2 * (came - given + x) < W ∧ D = 0) ∨ (¬ 2 * (came - given + x) < W ∧ D = came - given + x) := by
    rw [← hD]
    unfold dueV
    simp only
    have : W + given - came - x + (0 + x - x) + (came - given + x) = W := by omega
    rw [this]
    by_cases g : 2 * (came - given + x) < W
    · rw [if_pos g]; exact .inl ⟨g, rfl⟩
    · rw [if_neg g]; exact .inr ⟨g, rfl⟩
  refine ⟨_, _, D, ?_, e1, o1, ?_, e2, o2, hD, ?_, h1, h2, by omega, by omega, by omega, by omega, by omega⟩
  · unfold gotE
    rw [if_neg (by omega), e, if_neg hx]
  · unfold freeE
    rw [if_neg (by omega), if_neg (by simp only; omega)]
  · unfold giveS mg
    rw [hD]
    simp only
    congr 1 <;> omega
end Go.Win
namespace Go.Proofs.Ytjafoegpbhieoaa
open Go.RowKit Go.Own Go.Win
set_option linter.unusedVariables false
set_option maxRecDepth 100000
set_option maxHeartbeats 8000000 in
theorem lawAgain {w : World} (z : Int) (hz : i64i z) {A : Option Addr} {n c : Nat} (hl : HoldsT Try.prog w 9 41 [.slice A n c]) :
    Calls Try.prog 8 #[.int .i64 z, .slice A n c] w fun e w' => e = .returned (.bool true) ∧ Below w.heap.size w w' := by
  have hbd := and_bd z 65534 (by omega) 65534 rfl
  obtain ⟨y, hy⟩ : ∃ y, bits .and .i64 z 65534 = y := ⟨_, rfl⟩
  rw [hy] at hbd
  obtain ⟨W, hW⟩ : ∃ W, 1 + y = W := ⟨_, rfl⟩
  have hw1 : IntKind.i64.wrap W = W := wrap_in (by omega)
  have hc0 : newC W = mg W 0 0 := by
    unfold newC mg
    congr 1 <;> omega
  have h0 : Inv2 W 0 0 0 := ⟨by omega, by omega, by omega, by omega, by omega, by omega, by omega⟩
  have H0 := Lib.hid h0
  have HC := Lib.hid hc0
  have HL := Lib.hid hl
  obtain ⟨hnc, hcm, _⟩ := HoldsT.slice (d := 8) Try.underlying41 hl
  clear h0 hc0 hl hz hbd
  go_enter Try.func8, Try.ntmps8
  go_wp2_with (first
    | (go_at_call 9; (with_reducible refine (shown_c _).mono ?_); rintro e w1 ⟨rfl, b1⟩; have B1 := Lib.hid b1; clear b1)
    | (go_at_call 18; (with_reducible refine (new_c W _ HC.out).mono ?_); rintro e w2 ⟨p, rfl, s2⟩
       have S2 := Lib.hid s2
       clear s2))
  go_loopg [7, 8, 9] (min n 300) (fun gh a1 a3 i w' => ∃ (k : Nat) (came given : Int), gh + k = min n 300 ∧ a1 = .int .i64 came ∧ a3 = .int .i64 given ∧ i = .int .i64 (k : Int) ∧ Inv2 W k came given ∧ St (fun _ => False) w1 w' [CrO p (mg W came given)])
  case atStart => exact ⟨0, 0, 0, by omega, rfl, rfl, rfl, H0.out, S2.out⟩
  case round =>
    obtain ⟨k, came, given, hk, rfl, rfl, rfl, hinv, hs⟩ := hrel
    have HS := Lib.hid hs
    have HI := Lib.hid hinv
    have HO := Lib.hid hinv.ok
    have b2 := B1.out.trans (hs.below.mono B1.out.size)
    have B2 := Lib.hid b2
    clear hs
    cases gk with
    | zero =>
      have hk2 : (k = n ∧ ¬ k < n) ∨ (k < n ∧ k = 300) := by omega
      clear hk b2 hinv
      rcases hk2 with ⟨rfl, h1⟩ | ⟨h1, rfl⟩
      all_goals
        go_wp2
        go_ret
        exact ⟨rfl, B2.out⟩
    | succ g1 =>
      have k1 : k < n := by omega
      have k2 : k < 300 := by omega
      obtain ⟨b, o, kd, rfl, d0, hkd⟩ := int_at HL.out (i := k) k1
      have e0 := cell_to b2 d0
      have hxb := and_bd kd 65535 (by omega) 65535 rfl
      obtain ⟨x, hx⟩ : ∃ x, bits .and .i64 kd 65535 = x := ⟨_, rfl⟩
      rw [hx] at hxb
      have HX : Hid (i64i x) := ⟨by omega, by omega⟩
      obtain ⟨i1, i2, i3, i4, i5, i6, i7⟩ := hinv
      by_cases hlt : W + given - came < x
      · obtain ⟨g1', g2, g3⟩ := again_no HI.out k2 x hxb.1 hlt
        have HE := Lib.hid g1'
        have HG := Lib.hid g2
        have HJ := Lib.hid g3
        have ML : Hid ((mg W came given).left = W + given - came) := rfl
        have t1 : ¬ x ≤ W + given - came := by omega
        clear g1' g2 g3 i1 i2 i3 i4 i5 i6 i7 b2 d0 hkd hxb
        go_wp2_with (first
          | (go_at_call 20; (with_reducible refine (got_s HS.out HO.out x HX.out _ _ HE.out HG.out).mono ?_); rintro e w4 ⟨rfl, s4⟩
             have S4 := Lib.hid s4
             clear s4)
          | (go_at_call 28; (with_reducible refine (le_s S4.out _ ML.out).mono ?_); rintro e w6 ⟨rfl, rfl⟩))
        go_roundg g1
        case measure => omega
        case rel => exact ⟨k + 1, came, given, by omega, rfl, rfl, by go_num, HJ.out, S4.out⟩
      · obtain ⟨c1, c2, D, g1', g2, o1, g4, g5, o2, g6, g7, g8⟩ := again_yes HI.out k2 x hxb.1 hlt
        obtain ⟨came1, hc1⟩ : ∃ c, came + x = c := ⟨_, rfl⟩
        obtain ⟨given1, hg1⟩ : ∃ c, given + D = c := ⟨_, rfl⟩
        rw [hc1, hg1] at g7 g8
        obtain ⟨j1, j2, j3, j4, j5, j6, j7⟩ := id g8
        have HE := Lib.hid g1'
        have HG := Lib.hid g2
        have O1 := Lib.hid o1
        have HE2 := Lib.hid g4
        have HG2 := Lib.hid g5
        have O2 := Lib.hid o2
        have HD := Lib.hid g6
        have HG3 := Lib.hid g7
        have HJ := Lib.hid g8
        have ML : Hid ((mg W came1 given1).left = W + given1 - came1) := rfl
        have MH : Hid ((mg W came1 given1).held = 0) := rfl
        have t1 : ¬ 2 * (W + given1 - came1) ≤ W := by omega
        have t2 : ¬ W ≤ came1 - given1 := by omega
        have t3 : ¬ came1 < given1 := by omega
        have u1 : IntKind.i64.wrap came1 = came1 := wrap_in (by omega)
        have u2 : IntKind.i64.wrap given1 = given1 := wrap_in (by omega)
        have u3 : IntKind.i64.wrap (2 * (W + given1 - came1)) = 2 * (W + given1 - came1) := wrap_in (by omega)
        have u4 : IntKind.i64.wrap (came1 - given1) = came1 - given1 := wrap_in (by omega)
        clear g1' g2 o1 g4 g5 o2 g6 g7 g8 i1 i2 i3 i4 i5 i6 i7 j1 j2 j3 j4 j5 j6 j7 b2 d0 hkd hxb hlt
        go_wp2_with (first
          | (go_at_call 20; (with_reducible refine (got_s HS.out HO.out x HX.out _ _ HE.out HG.out).mono ?_); rintro e w4 ⟨rfl, s4⟩
             have S4 := Lib.hid s4
             clear s4)
          | (go_at_call 22; (with_reducible refine (free_s S4.out O1.out x HX.out _ _ HE2.out HG2.out).mono ?_); rintro e w5 ⟨rfl, s5⟩
             have S5 := Lib.hid s5
             clear s5)
          | (go_at_call 26; (with_reducible refine (give_s S5.out O2.out D _ HD.out HG3.out).mono ?_); rintro e w6 ⟨rfl, s6⟩
             have S6 := Lib.hid s6
             clear s6)
          | (go_at_call 28; (with_reducible refine (le_s S6.out _ ML.out).mono ?_); rintro e w7 ⟨rfl, rfl⟩)
          | (go_at_call 29; (with_reducible refine (he_s S6.out _ MH.out).mono ?_); rintro e w8 ⟨rfl, rfl⟩))
        go_roundg g1
        case measure => omega
        case rel => exact ⟨k + 1, came1, given1, by omega, rfl, rfl, by go_num, HJ.out, S6.out⟩
end Go.Proofs.Ytjafoegpbhieoaa
