/- The law WindowNever: the walk. -/
import Derived.Test.YtjafoegpbhieoaaWiJ
import Derived.Test.YtjafoegpbhieoaaWiM
namespace Go.Win
set_option linter.unusedVariables false
/-- a credit of W of which came, freed and given are known -/
def mk (W came freed given : Int) : Cr := ⟨W + given - came, came - freed, freed - given⟩
def Inv (W : Int) (k : Nat) (came freed given : Int) : Prop := 1 ≤ W ∧ W ≤ 65535 ∧ 0 ≤ given ∧ given ≤ freed ∧ freed ≤ came ∧ came ≤ W + given ∧ came ≤ 65535 * (k : Int) ∧ k ≤ 300
theorem Inv.ok {W : Int} {k : Nat} {came freed given : Int} (h : Inv W k came freed given) : (mk W came freed given).ok := by
  obtain ⟨h1, h2, h3, h4, h5, h6, h7, h8⟩ := h
  unfold mk
  refine ⟨?_, ?_, ?_, ?_, ?_⟩ <;> simp only <;> omega
theorem never_got {W : Int} {k : Nat} {came freed given : Int} (h : Inv W k came freed given) (hk : k < 300) (x : Int) :
    (¬ gotE (mk W came freed given) x = 0 ∧ gotS (mk W came freed given) x = mk W came freed given ∧ Inv W (k + 1) came freed given) ∨
    (gotE (mk W came freed given) x = 0 ∧ gotS (mk W came freed given) x = mk W (came + x) freed given ∧ Inv W (k + 1) (came + x) freed given) := by
  obtain ⟨h1, h2, h3, h4, h5, h6, h7, h8⟩ := h
  unfold gotE gotS
  by_cases a : x < 0
  · rw [if_pos a, if_pos a]
    exact .inl ⟨by decide, rfl, h1, h2, h3, h4, h5, h6, by omega, by omega⟩
  · rw [if_neg a, if_neg a]
    by_cases b : (mk W came freed given).left < x
    · rw [if_pos b, if_pos b]
      exact .inl ⟨by decide, rfl, h1, h2, h3, h4, h5, h6, by omega, by omega⟩
    · rw [if_neg b, if_neg b]
      unfold mk at b ⊢
      simp only at b ⊢
      refine .inr ⟨trivial, ?_, h1, h2, h3, h4, by omega, by omega, by omega, by omega⟩
      congr 1 <;> omega
theorem never_free {W : Int} {k : Nat} {came freed given : Int} (h : Inv W k came freed given) (hk : k < 300) (x : Int) :
    (¬ freeE (mk W came freed given) x = 0 ∧ freeS (mk W came freed given) x = mk W came freed given ∧ Inv W (k + 1) came freed given) ∨
    (freeE (mk W came freed given) x = 0 ∧ freeS (mk W came freed given) x = mk W came (freed + x) given ∧ Inv W (k + 1) came (freed + x) given) := by
  obtain ⟨h1, h2, h3, h4, h5, h6, h7, h8⟩ := h
  unfold freeE freeS
  by_cases a : x < 0
  · rw [if_pos a, if_pos a]
    exact .inl ⟨by decide, rfl, h1, h2, h3, h4, h5, h6, by omega, by omega⟩
  · rw [if_neg a, if_neg a]
    by_cases b : (mk W came freed given).held < x
    · rw [if_pos b, if_pos b]
      exact .inl ⟨by decide, rfl, h1, h2, h3, h4, h5, h6, by omega, by omega⟩
    · rw [if_neg b, if_neg b]
      unfold mk at b ⊢
      simp only at b ⊢
      refine .inr ⟨trivial, ?_, h1, h2, h3, by omega, by omega, by omega, by omega, by omega⟩
      congr 1 <;> omega
theorem never_give {W : Int} {k : Nat} {came freed given : Int} (h : Inv W k came freed given) (hk : k < 300) :
    giveS (mk W came freed given) = mk W came freed (given + dueV (mk W came freed given)) ∧ Inv W (k + 1) came freed (given + dueV (mk W came freed given)) := by
  have hd := due_bd h.ok
  obtain ⟨h1, h2, h3, h4, h5, h6, h7, h8⟩ := h
  obtain ⟨D, hD⟩ : ∃ D, dueV (mk W came freed given) = D := ⟨_, rfl⟩
  unfold giveS
  rw [hD] at hd ⊢
  have e : (mk W came freed given).freed = freed - given := rfl
  rw [e] at hd
  refine ⟨?_, h1, h2, by omega, by omega, h5, by omega, by omega, by omega⟩
  unfold mk
  simp only
  congr 1 <;> omega
end Go.Win
namespace Go.Proofs.Ytjafoegpbhieoaa
open Go.RowKit Go.Own Go.Win
set_option linter.unusedVariables false
set_option maxRecDepth 100000
set_option maxHeartbeats 8000000 in
theorem lawNever {w : World} (z : Int) (hz : i64i z) {A : Option Addr} {n c : Nat} (hl : HoldsT Try.prog w 9 29 [.slice A n c]) :
    Calls Try.prog 6 #[.int .i64 z, .slice A n c] w fun e w' => e = .returned (.bool true) ∧ Below w.heap.size w w' := by
  have hbd := and_bd z 65534 (by omega) 65534 rfl
  obtain ⟨y, hy⟩ : ∃ y, bits .and .i64 z 65534 = y := ⟨_, rfl⟩
  rw [hy] at hbd
  obtain ⟨W, hW⟩ : ∃ W, 1 + y = W := ⟨_, rfl⟩
  have hw1 : IntKind.i64.wrap W = W := wrap_in (by omega)
  have hc0 : newC W = mk W 0 0 0 := by
    unfold newC mk
    congr 1 <;> omega
  have h0 : Inv W 0 0 0 0 := ⟨by omega, by omega, by omega, by omega, by omega, by omega, by omega, by omega⟩
  have H0 := Lib.hid h0
  have HC := Lib.hid hc0
  have HL := Lib.hid hl
  obtain ⟨hnc, hcm, _⟩ := HoldsT.slice (d := 8) Try.underlying29 hl
  clear h0 hc0 hl hz hbd
  go_enter Try.func6, Try.ntmps6
  go_wp2_with (first
    | (go_at_call 9; (with_reducible refine (shown_c _).mono ?_); rintro e w1 ⟨rfl, b1⟩; have B1 := Lib.hid b1; clear b1)
    | (go_at_call 18; (with_reducible refine (new_c W _ HC.out).mono ?_); rintro e w2 ⟨p, rfl, s2⟩
       have S2 := Lib.hid s2
       clear s2))
  go_loopg [7, 8, 9, 10] (min n 300) (fun gh a1 a2 a3 i w' => ∃ (k : Nat) (came freed given : Int), gh + k = min n 300 ∧ a1 = .int .i64 came ∧ a2 = .int .i64 freed ∧ a3 = .int .i64 given ∧ i = .int .i64 (k : Int) ∧ Inv W k came freed given ∧ St (fun _ => False) w1 w' [CrO p (mk W came freed given)])
  case atStart => exact ⟨0, 0, 0, 0, by omega, rfl, rfl, rfl, rfl, H0.out, S2.out⟩
  case round =>
    obtain ⟨k, came, freed, given, hk, rfl, rfl, rfl, rfl, hinv, hs⟩ := hrel
    have HS := Lib.hid hs
    have HI := Lib.hid hinv
    have HO := Lib.hid hinv.ok
    have b2 := B1.out.trans (hs.below.mono B1.out.size)
    have B2 := Lib.hid b2
    clear hs
    cases gk with
    | zero =>
      have hk2 : (k = n ∧ ¬ k < n) ∨ (k < n ∧ k = 300) := by omega
      clear hk b2 hinv
      rcases hk2 with ⟨rfl, h1⟩ | ⟨h1, rfl⟩
      all_goals
        go_wp2
        go_ret
        exact ⟨rfl, B2.out⟩
    | succ g1 =>
      have k1 : k < n := by omega
      have k2 : k < 300 := by omega
      obtain ⟨b, o, kd, x, rfl, d0, d1, hkd, hx⟩ := op_at HL.out (i := k) k1
      have e0 := cell_to b2 d0
      have e1 := cell_to b2 d1
      have e2 := cell_drew e1
      have HX := Lib.hid hx
      have HD := Lib.hid d1
      have HSd := Lib.hid (St.drew HS.out)
      obtain ⟨i1, i2, i3, i4, i5, i6, i7, i8⟩ := hinv
      have hways : (kd = 1 ∧ ¬ gotE (mk W came freed given) x = 0 ∧ gotS (mk W came freed given) x = mk W came freed given ∧ Inv W (k + 1) came freed given) ∨
          (kd = 1 ∧ gotE (mk W came freed given) x = 0 ∧ gotS (mk W came freed given) x = mk W (came + x) freed given ∧ Inv W (k + 1) (came + x) freed given) ∨
          (¬ kd = 1 ∧ kd = 2 ∧ ¬ freeE (mk W came freed given) x = 0 ∧ freeS (mk W came freed given) x = mk W came freed given ∧ Inv W (k + 1) came freed given) ∨
          (¬ kd = 1 ∧ kd = 2 ∧ freeE (mk W came freed given) x = 0 ∧ freeS (mk W came freed given) x = mk W came (freed + x) given ∧ Inv W (k + 1) came (freed + x) given) ∨
          (¬ kd = 1 ∧ ¬ kd = 2 ∧ giveS (mk W came freed given) = mk W came freed (given + dueV (mk W came freed given)) ∧ Inv W (k + 1) came freed (given + dueV (mk W came freed given))) := by
        by_cases h1 : kd = 1
        · rcases never_got HI.out k2 x with h | h
          · exact .inl ⟨h1, h⟩
          · exact .inr (.inl ⟨h1, h⟩)
        · by_cases h2 : kd = 2
          · rcases never_free HI.out k2 x with h | h
            · exact .inr (.inr (.inl ⟨h1, h2, h⟩))
            · exact .inr (.inr (.inr (.inl ⟨h1, h2, h⟩)))
          · exact .inr (.inr (.inr (.inr ⟨h1, h2, never_give HI.out k2⟩)))
      obtain ⟨E, hE⟩ : ∃ E, gotE (mk W came freed given) x = E := ⟨_, rfl⟩
      obtain ⟨E2, hE2⟩ : ∃ E, freeE (mk W came freed given) x = E := ⟨_, rfl⟩
      obtain ⟨D, hD⟩ : ∃ E, dueV (mk W came freed given) = E := ⟨_, rfl⟩
      rw [hE, hE2, hD] at hways
      have HE := Lib.hid hE
      have HE2 := Lib.hid hE2
      have HDv := Lib.hid hD
      clear hE hE2 hD hx d0 d1 hkd b2
      rcases hways with ⟨rfl, g1', g2, g3⟩ | ⟨rfl, rfl, g2, g3⟩ | ⟨h1, rfl, g1', g2, g3⟩ | ⟨h1, rfl, rfl, g2, g3⟩ | ⟨h1, h2, g2, g3⟩
      · have HG := Lib.hid g2
        have HJ := Lib.hid g3
        obtain ⟨j1, j2, j3, j4, j5, j6, j7, j8⟩ := g3
        clear g2 i1 i2 i3 i4 i5 i6 i7 i8
        have t1 : ¬ W + given < came := by omega
        have t2 : ¬ freed < given := by omega
        have t3 : ¬ came < freed := by omega
        have t4 : ¬ W < came - freed + (W + given - came) := by omega
        have u1 : IntKind.i64.wrap (W + given) = W + given := wrap_in (by omega)
        have u2 : IntKind.i64.wrap (came - freed) = came - freed := wrap_in (by omega)
        have u3 : IntKind.i64.wrap (W + given - came) = W + given - came := wrap_in (by omega)
        have u4 : IntKind.i64.wrap (came - freed + (W + given - came)) = came - freed + (W + given - came) := wrap_in (by omega)
        have ML : Hid ((mk W came freed given).left = W + given - came) := rfl
        have MH : Hid ((mk W came freed given).held = came - freed) := rfl
        clear j1 j2 j3 j4 j5 j6 j7 j8
        go_wp2_with (first
          | (go_at_call 20; (with_reducible refine (got_s HS.out HO.out x HX.out _ _ HE.out HG.out).mono ?_); rintro e w4 ⟨rfl, s4⟩
             have S4 := Lib.hid s4
             have e4 := cell_to (B1.out.trans (s4.below.mono B1.out.size)) HD.out
             clear s4)
          | (go_at_call 28; (with_reducible refine (le_s S4.out _ ML.out).mono ?_); rintro e w6 ⟨rfl, rfl⟩)
          | (go_at_call 29; (with_reducible refine (he_s S4.out _ MH.out).mono ?_); rintro e w6 ⟨rfl, rfl⟩))
        go_roundg g1
        case measure => omega
        case rel => exact ⟨k + 1, came, freed, given, by omega, rfl, rfl, rfl, by go_num, HJ.out, S4.out⟩
      · have HG := Lib.hid g2
        have HJ := Lib.hid g3
        obtain ⟨j1, j2, j3, j4, j5, j6, j7, j8⟩ := g3
        obtain ⟨came1, hcame1⟩ : ∃ c, came + x = c := ⟨_, rfl⟩
        have wc : IntKind.i64.wrap came1 = came1 := wrap_in (by omega)
        rw [hcame1] at HG HJ j5 j6 j7
        clear g2 i1 i2 i3 i4 i5 i6 i7 i8
        have t1 : ¬ W + given < came1 := by omega
        have t2 : ¬ freed < given := by omega
        have t3 : ¬ came1 < freed := by omega
        have t4 : ¬ W < came1 - freed + (W + given - came1) := by omega
        have u1 : IntKind.i64.wrap (W + given) = W + given := wrap_in (by omega)
        have u2 : IntKind.i64.wrap (came1 - freed) = came1 - freed := wrap_in (by omega)
        have u3 : IntKind.i64.wrap (W + given - came1) = W + given - came1 := wrap_in (by omega)
        have u4 : IntKind.i64.wrap (came1 - freed + (W + given - came1)) = came1 - freed + (W + given - came1) := wrap_in (by omega)
        have ML : Hid ((mk W came1 freed given).left = W + given - came1) := rfl
        have MH : Hid ((mk W came1 freed given).held = came1 - freed) := rfl
        clear j1 j2 j3 j4 j5 j6 j7 j8
        go_wp2_with (first
          | (go_at_call 20; (with_reducible refine (got_s HS.out HO.out x HX.out _ _ HE.out HG.out).mono ?_); rintro e w4 ⟨rfl, s4⟩
             have S4 := Lib.hid s4
             have e4 := cell_to (B1.out.trans (s4.below.mono B1.out.size)) HD.out
             clear s4)
          | (go_at_call 28; (with_reducible refine (le_s S4.out _ ML.out).mono ?_); rintro e w6 ⟨rfl, rfl⟩)
          | (go_at_call 29; (with_reducible refine (he_s S4.out _ MH.out).mono ?_); rintro e w6 ⟨rfl, rfl⟩))
        go_roundg g1
        case measure => omega
        case rel => exact ⟨k + 1, came1, freed, given, by omega, rfl, rfl, rfl, by go_num, HJ.out, S4.out⟩
      · have HG := Lib.hid g2
        have HJ := Lib.hid g3
        obtain ⟨j1, j2, j3, j4, j5, j6, j7, j8⟩ := g3
        clear g2 i1 i2 i3 i4 i5 i6 i7 i8
        have t1 : ¬ W + given < came := by omega
        have t2 : ¬ freed < given := by omega
        have t3 : ¬ came < freed := by omega
        have t4 : ¬ W < came - freed + (W + given - came) := by omega
        have u1 : IntKind.i64.wrap (W + given) = W + given := wrap_in (by omega)
        have u2 : IntKind.i64.wrap (came - freed) = came - freed := wrap_in (by omega)
        have u3 : IntKind.i64.wrap (W + given - came) = W + given - came := wrap_in (by omega)
        have u4 : IntKind.i64.wrap (came - freed + (W + given - came)) = came - freed + (W + given - came) := wrap_in (by omega)
        have ML : Hid ((mk W came freed given).left = W + given - came) := rfl
        have MH : Hid ((mk W came freed given).held = came - freed) := rfl
        clear j1 j2 j3 j4 j5 j6 j7 j8
        go_wp2_with (first
          | (go_at_call 22; (with_reducible refine (free_s HS.out HO.out x HX.out _ _ HE2.out HG.out).mono ?_); rintro e w4 ⟨rfl, s4⟩
             have S4 := Lib.hid s4
             have e4 := cell_to (B1.out.trans (s4.below.mono B1.out.size)) HD.out
             clear s4)
          | (go_at_call 28; (with_reducible refine (le_s S4.out _ ML.out).mono ?_); rintro e w6 ⟨rfl, rfl⟩)
          | (go_at_call 29; (with_reducible refine (he_s S4.out _ MH.out).mono ?_); rintro e w6 ⟨rfl, rfl⟩))
        go_roundg g1
        case measure => omega
        case rel => exact ⟨k + 1, came, freed, given, by omega, rfl, rfl, rfl, by go_num, HJ.out, S4.out⟩
      · have HG := Lib.hid g2
        have HJ := Lib.hid g3
        obtain ⟨j1, j2, j3, j4, j5, j6, j7, j8⟩ := g3
        obtain ⟨freed1, hfreed1⟩ : ∃ c, freed + x = c := ⟨_, rfl⟩
        have wc : IntKind.i64.wrap freed1 = freed1 := wrap_in (by omega)
        rw [hfreed1] at HG HJ j4 j5
        clear g2 i1 i2 i3 i4 i5 i6 i7 i8
        have t1 : ¬ W + given < came := by omega
        have t2 : ¬ freed1 < given := by omega
        have t3 : ¬ came < freed1 := by omega
        have t4 : ¬ W < came - freed1 + (W + given - came) := by omega
        have u1 : IntKind.i64.wrap (W + given) = W + given := wrap_in (by omega)
        have u2 : IntKind.i64.wrap (came - freed1) = came - freed1 := wrap_in (by omega)
        have u3 : IntKind.i64.wrap (W + given - came) = W + given - came := wrap_in (by omega)
        have u4 : IntKind.i64.wrap (came - freed1 + (W + given - came)) = came - freed1 + (W + given - came) := wrap_in (by omega)
        have ML : Hid ((mk W came freed1 given).left = W + given - came) := rfl
        have MH : Hid ((mk W came freed1 given).held = came - freed1) := rfl
        clear j1 j2 j3 j4 j5 j6 j7 j8
        go_wp2_with (first
          | (go_at_call 22; (with_reducible refine (free_s HS.out HO.out x HX.out _ _ HE2.out HG.out).mono ?_); rintro e w4 ⟨rfl, s4⟩
             have S4 := Lib.hid s4
             have e4 := cell_to (B1.out.trans (s4.below.mono B1.out.size)) HD.out
             clear s4)
          | (go_at_call 28; (with_reducible refine (le_s S4.out _ ML.out).mono ?_); rintro e w6 ⟨rfl, rfl⟩)
          | (go_at_call 29; (with_reducible refine (he_s S4.out _ MH.out).mono ?_); rintro e w6 ⟨rfl, rfl⟩))
        go_roundg g1
        case measure => omega
        case rel => exact ⟨k + 1, came, freed1, given, by omega, rfl, rfl, rfl, by go_num, HJ.out, S4.out⟩
      · have HG := Lib.hid g2
        have HJ := Lib.hid g3
        obtain ⟨j1, j2, j3, j4, j5, j6, j7, j8⟩ := g3
        obtain ⟨given1, hgiven1⟩ : ∃ c, given + D = c := ⟨_, rfl⟩
        have wc : IntKind.i64.wrap given1 = given1 := wrap_in (by omega)
        rw [hgiven1] at HG HJ j3 j4 j6
        clear g2 i1 i2 i3 i4 i5 i6 i7 i8
        go_upto_if 99 with (first
          | (go_at_call 26; (with_reducible refine (give_s HS.out HO.out D _ HDv.out HG.out).mono ?_); rintro e w4 ⟨rfl, s4⟩
             have S4 := Lib.hid s4
             clear s4))
        have t1 : ¬ W + given1 < came := by omega
        have t2 : ¬ freed < given1 := by omega
        have t3 : ¬ came < freed := by omega
        have t4 : ¬ W < came - freed + (W + given1 - came) := by omega
        have u1 : IntKind.i64.wrap (W + given1) = W + given1 := wrap_in (by omega)
        have u2 : IntKind.i64.wrap (came - freed) = came - freed := wrap_in (by omega)
        have u3 : IntKind.i64.wrap (W + given1 - came) = W + given1 - came := wrap_in (by omega)
        have u4 : IntKind.i64.wrap (came - freed + (W + given1 - came)) = came - freed + (W + given1 - came) := wrap_in (by omega)
        have ML : Hid ((mk W came freed given1).left = W + given1 - came) := rfl
        have MH : Hid ((mk W came freed given1).held = came - freed) := rfl
        clear j1 j2 j3 j4 j5 j6 j7 j8
        go_wp2_with (first
          | (go_at_call 28; (with_reducible refine (le_s S4.out _ ML.out).mono ?_); rintro e w6 ⟨rfl, rfl⟩)
          | (go_at_call 29; (with_reducible refine (he_s S4.out _ MH.out).mono ?_); rintro e w6 ⟨rfl, rfl⟩))
        go_roundg g1
        case measure => omega
        case rel => exact ⟨k + 1, came, freed, given1, by omega, rfl, rfl, rfl, by go_num, HJ.out, S4.out⟩
end Go.Proofs.Ytjafoegpbhieoaa
