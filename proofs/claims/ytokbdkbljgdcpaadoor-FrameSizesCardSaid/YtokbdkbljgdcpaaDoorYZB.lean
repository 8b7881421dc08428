/- Several texts in one: LwL1, LwL2. -/
import Derived.Test.YtokbdkbljgdcpaaDoorYZA
/- The law FrameSizes: a part of its walk. -/
namespace Go.Proofs.YtokbdkbljgdcpaaDoor
open Go.RowKit Go.Own Go.Frm
set_option linter.unusedVariables false
set_option maxRecDepth 100000
set_option maxHeartbeats 8000000 in
theorem sizes_big {w : World} (z1 : Int) (hz1 : -9223372036854775808 ≤ z1 ∧ z1 ≤ 9223372036854775807) (z2 : Int) (hz2 : -9223372036854775808 ≤ z2 ∧ z2 ≤ 9223372036854775807) (z3 : Int) (hz3 : -9223372036854775808 ≤ z3 ∧ z3 ≤ 9223372036854775807) {fz : Int} (hfz : (Lit.int .u8 fz).wf = true) (hbg : ∀ m nn : Nat, clampM z2 = m → (z3 % ((2 ^ 24 : Nat) : Int)).toNat = nn → m < nn) (hG : Gl w) :
    Calls Tryd.prog 10 #[.int .i64 z1, .int .i64 z2, .int .i64 z3, .int .u8 fz] w fun e w' => e = .returned (.bool true) ∧ Below w.heap.size w w' := by
  obtain ⟨hf0, hf1⟩ := u8_of hfz
  obtain ⟨fl, rfl⟩ : ∃ fl : Nat, fz = (fl : Int) := ⟨fz.toNat, by omega⟩
  have hfl : fl < 256 := by omega
  obtain ⟨fv, hfv⟩ : ∃ fv, fl ||| 1 = fv := ⟨_, rfl⟩
  have hfv2 : fv < 256 := by rw [← hfv]; exact Nat.or_lt_two_pow (n := 8) hfl (by omega)
  have hodd : fv % 2 = 1 := by rw [← hfv]; exact or1_odd fl
  have hor := u8_or1 fl hfl
  rw [hfv] at hor
  obtain ⟨k, hk⟩ : ∃ k : Nat, (z1 % ((2 ^ 8 : Nat) : Int)).toNat = k := ⟨_, rfl⟩
  have a1 := and_mask z1 8 (by omega) 255 rfl
  rw [hk] at a1
  have hk256 : k < 256 := by omega
  obtain ⟨nn, hnn⟩ : ∃ nn : Nat, (z3 % ((2 ^ 24 : Nat) : Int)).toNat = nn := ⟨_, rfl⟩
  have a2 := and_mask z3 24 (by omega) 16777215 rfl
  rw [hnn] at a2
  have hnn24 : nn < 16777216 := by omega
  obtain ⟨n6, hn6⟩ : ∃ n6 : Nat, (((nn : Nat) : Int) % ((2 ^ 6 : Nat) : Int)).toNat = n6 := ⟨_, rfl⟩
  have a3 := and_mask (nn : Int) 6 (by omega) 63 rfl
  rw [hn6] at a3
  have hn64 : n6 < 64 := by omega
  have hn6n : n6 ≤ nn := by omega
  obtain ⟨m, hm⟩ : ∃ m, clampM z2 = m := ⟨_, rfl⟩
  have hmb := clampM_bd z2
  rw [hm] at hmb
  obtain ⟨hmb1, hmb2⟩ := hmb
  have hm0 : (min (max z2 16384) 16777215) = (m : Int) := by unfold clampM at hm; omega
  obtain ⟨s, hs⟩ : ∃ s, szS k = s := ⟨_, rfl⟩
  have hs31 : s < 2147483648 := by rw [← hs]; exact szS_lt k
  have hs7 : s = bif onC k then 0 else 7 := hs.symm
  have HG := Lib.hid hG
  have HBG := Lib.hid (hbg _ _ hm hnn)
  have HM := Lib.hid hm
  have HM0 := Lib.hid hm0
  have HZ := Lib.hid hz2
  have HS := Lib.hid hs
  have HS7 := Lib.hid hs7
  have HODD := Lib.hid hodd
  clear hbg hG hm hm0 hz2 hs hs7 hodd hk hnn hn6 hfz hfv
  go_enter Tryd.func10, Tryd.ntmps10
  go_upto_region 7 with (first
    | (go_at_call 12; (with_reducible refine (shown_c HG.out).mono ?_); rintro e w1 ⟨rfl, hb1⟩
       have HB1 := Lib.hid hb1
       have HG1 := Lib.hid (HG.out.below HB1.out)
       clear hb1)
    | (go_at_call 17; (with_reducible refine (new_c z2 HZ.out).mono ?_); rintro e w3 ⟨p, rfl, s3⟩
       rw [HM.out] at s3
       have S3 := Lib.hid s3
       clear s3))
  go_cut [39] (fun s wx => s = .bool (onC k) ∧ wx = w3)
  case first =>
    by_cases h4 : k = 4
    · subst h4
      go_wp2
      go_meet
      case rel => exact ⟨rfl, rfl⟩
    · by_cases h6 : k = 6
      · subst h6
        go_wp2
        go_meet
        case rel => exact ⟨rfl, rfl⟩
      · have e4 : ((k : Int) == 4) = false := by simp; omega
        have e6 : ((k : Int) == 6) = false := by simp; omega
        by_cases h7 : k = 7
        · subst h7
          go_wp2
          go_meet
          case rel => exact ⟨rfl, rfl⟩
        · have e7 : ((k : Int) == 7) = false := by simp; omega
          have eo : onC k = false := by simp [onC, h4, h6, h7]
          go_wp2
          go_meet
          case rel => exact ⟨congrArg Value.bool eo.symm, rfl⟩
  case rest =>
    obtain ⟨rfl, rfl⟩ := hcut
    go_upto_if 39 with (fail)
    go_cut [11] (fun s' wx => s' = .int .i64 (s : Int) ∧ wx = wc)
    case first =>
      have h0 := HS7.out
      cases ho : onC k
      · rw [ho] at h0
        subst h0
        go_wp2
        go_meet
        case rel => exact ⟨rfl, rfl⟩
      · rw [ho] at h0
        subst h0
        go_wp2
        go_meet
        case rel => exact ⟨rfl, rfl⟩
    case rest =>
      obtain ⟨rfl, rfl⟩ := hcut
      go_upto_if 42 with (fail)
      go_cut [12] (fun s wx => s = .int .i64 (max z2 16384) ∧ wx = wc)
      case first =>
        by_cases h : z2 < 16384
        · go_wp2
          go_meet
          case rel => exact ⟨congrArg (Value.int .i64) (by omega), rfl⟩
        · go_wp2
          go_meet
          case rel => exact ⟨congrArg (Value.int .i64) (by omega), rfl⟩
      case rest =>
        obtain ⟨rfl, rfl⟩ := hcut
        go_upto_if 44 with (fail)
        go_cut [12] (fun s wx => s = .int .i64 (m : Int) ∧ wx = wc)
        case first =>
          have h0 := HM0.out
          by_cases h : 16777215 < max z2 16384
          · have e : (m : Int) = 16777215 := by omega
            go_wp2
            go_meet
            case rel => exact ⟨congrArg (Value.int .i64) e.symm, rfl⟩
          · have e : max z2 16384 = (m : Int) := by omega
            rw [e] at h ⊢
            go_wp2
            go_meet
            case rel => exact ⟨rfl, rfl⟩
        case rest =>
          obtain ⟨rfl, rfl⟩ := hcut
          have hbig : m < nn := HBG.out
          · have hbig' : (m : Int) < (nn : Int) := by omega
            have HT : Hid (nextP m ⟨headB nn k 0 s, false⟩ = (⟨zeroF, ⟨true, 6, 0⟩, true⟩, ⟨[], true⟩)) := told_big m nn k s hnn24 hbig hk256 hs31
            have HF : Hid (feedN m ⟨[], false⟩ 9 = 9) := by show min 9 (m + 9 - 0) = 9; omega
            have HP : Hid (feedP m ⟨[], false⟩ (headB nn k 0 s) = ⟨headB nn k 0 s, false⟩) := by
              show feedP m ⟨[], false⟩ (headB nn k 0 s) = _
              unfold feedP
              rw [headB_len, HF.out, List.take_of_length_le (by rw [headB_len]; omega), List.nil_append]
            go_wp2_with (first
              | (go_at_call 28; (with_reducible refine (head9_0 nn k s hnn24 hk256 hs31 _).mono ?_); rintro e w4 ⟨g4, rfl, o4, b4⟩
                 have S4 := Lib.hid (S3.out.add (St.made_own o4 b4))
                 have R4 := Lib.hid (Rd.of_own o4)
                 clear o4 b4)
              | (go_at_call 23; (with_reducible refine (feed_any S4.out R4.out (Nat.le_refl _) (by omega) 9 HF.out _ HP.out).mono ?_); rintro e w6 ⟨rfl, s6⟩
                 have S6 := Lib.hid s6
                 clear s6)
              | (go_at_call 21; (with_reducible refine (next_n S6.out HG1.out HT.out).mono ?_); rintro e w7 ⟨pv, lv, rfl, o7, s7, z7⟩
                 obtain ⟨Af, cf, Bf, df, rfl, rfl, _, _⟩ := o7
                 have S7 := Lib.hid (shB s7 (.cells #[.int .i64 zeroF.kind, .int .i64 zeroF.stream, .bool zeroF.fin, .bool zeroF.eh, .bool zeroF.ack, .bool zeroF.prio, .slice Af zeroF.pay.length cf, .int .i64 zeroF.flags, .int .i64 zeroF.pad, .int .i64 zeroF.depend, .bool zeroF.excl, .int .i64 zeroF.weight, .int .u32 (zeroF.code : Int), .slice Bf zeroF.list.length df, .int .i64 zeroF.last, .int .i64 zeroF.inc] 27) 46 [.bool true, .int .u32 6, .int .i64 0])
                 clear s7)
              | (go_at_call 25; (with_reducible refine (size_n S7.out 0 rfl).mono ?_); rintro e w8 ⟨rfl, rfl⟩))
            go_ret
            exact ⟨rfl, HB1.out.trans (S7.out.below.mono HB1.out.size)⟩
end Go.Proofs.YtokbdkbljgdcpaaDoor

/- The law FrameSizes: a part of its walk. -/
namespace Go.Proofs.YtokbdkbljgdcpaaDoor
open Go.RowKit Go.Own Go.Frm
set_option linter.unusedVariables false
set_option maxRecDepth 100000
set_option maxHeartbeats 8000000 in
theorem sizes_2 {w : World} (z1 : Int) (hz1 : -9223372036854775808 ≤ z1 ∧ z1 ≤ 9223372036854775807) (z2 : Int) (hz2 : -9223372036854775808 ≤ z2 ∧ z2 ≤ 9223372036854775807) (z3 : Int) (hz3 : -9223372036854775808 ≤ z3 ∧ z3 ≤ 9223372036854775807) {fz : Int} (hfz : (Lit.int .u8 fz).wf = true) (hbg : ∀ m nn : Nat, clampM z2 = m → (z3 % ((2 ^ 24 : Nat) : Int)).toNat = nn → ¬ m < nn) (hcl : ∀ k : Nat, (z1 % ((2 ^ 8 : Nat) : Int)).toNat = k → k = 0 ∨ k = 1 ∨ k = 9) (hG : Gl w) :
    Calls Tryd.prog 10 #[.int .i64 z1, .int .i64 z2, .int .i64 z3, .int .u8 fz] w fun e w' => e = .returned (.bool true) ∧ Below w.heap.size w w' := by
  obtain ⟨hf0, hf1⟩ := u8_of hfz
  obtain ⟨fl, rfl⟩ : ∃ fl : Nat, fz = (fl : Int) := ⟨fz.toNat, by omega⟩
  have hfl : fl < 256 := by omega
  obtain ⟨fv, hfv⟩ : ∃ fv, fl ||| 1 = fv := ⟨_, rfl⟩
  have hfv2 : fv < 256 := by rw [← hfv]; exact Nat.or_lt_two_pow (n := 8) hfl (by omega)
  have hodd : fv % 2 = 1 := by rw [← hfv]; exact or1_odd fl
  have hor := u8_or1 fl hfl
  rw [hfv] at hor
  obtain ⟨k, hk⟩ : ∃ k : Nat, (z1 % ((2 ^ 8 : Nat) : Int)).toNat = k := ⟨_, rfl⟩
  have a1 := and_mask z1 8 (by omega) 255 rfl
  rw [hk] at a1
  have hk256 : k < 256 := by omega
  obtain ⟨nn, hnn⟩ : ∃ nn : Nat, (z3 % ((2 ^ 24 : Nat) : Int)).toNat = nn := ⟨_, rfl⟩
  have a2 := and_mask z3 24 (by omega) 16777215 rfl
  rw [hnn] at a2
  have hnn24 : nn < 16777216 := by omega
  obtain ⟨n6, hn6⟩ : ∃ n6 : Nat, (((nn : Nat) : Int) % ((2 ^ 6 : Nat) : Int)).toNat = n6 := ⟨_, rfl⟩
  have a3 := and_mask (nn : Int) 6 (by omega) 63 rfl
  rw [hn6] at a3
  have hn64 : n6 < 64 := by omega
  have hn6n : n6 ≤ nn := by omega
  obtain ⟨m, hm⟩ : ∃ m, clampM z2 = m := ⟨_, rfl⟩
  have hmb := clampM_bd z2
  rw [hm] at hmb
  obtain ⟨hmb1, hmb2⟩ := hmb
  have hm0 : (min (max z2 16384) 16777215) = (m : Int) := by unfold clampM at hm; omega
  obtain ⟨s, hs⟩ : ∃ s, szS k = s := ⟨_, rfl⟩
  have hs31 : s < 2147483648 := by rw [← hs]; exact szS_lt k
  have hs7 : s = bif onC k then 0 else 7 := hs.symm
  have HG := Lib.hid hG
  have HBG := Lib.hid (hbg _ _ hm hnn)
  have HCL := Lib.hid (hcl _ hk)
  have HM := Lib.hid hm
  have HM0 := Lib.hid hm0
  have HZ := Lib.hid hz2
  have HS := Lib.hid hs
  have HS7 := Lib.hid hs7
  have HODD := Lib.hid hodd
  clear hbg hcl hG hm hm0 hz2 hs hs7 hodd hk hnn hn6 hfz hfv
  go_enter Tryd.func10, Tryd.ntmps10
  go_upto_region 7 with (first
    | (go_at_call 12; (with_reducible refine (shown_c HG.out).mono ?_); rintro e w1 ⟨rfl, hb1⟩
       have HB1 := Lib.hid hb1
       have HG1 := Lib.hid (HG.out.below HB1.out)
       clear hb1)
    | (go_at_call 17; (with_reducible refine (new_c z2 HZ.out).mono ?_); rintro e w3 ⟨p, rfl, s3⟩
       rw [HM.out] at s3
       have S3 := Lib.hid s3
       clear s3))
  go_cut [39] (fun s wx => s = .bool (onC k) ∧ wx = w3)
  case first =>
    by_cases h4 : k = 4
    · subst h4
      go_wp2
      go_meet
      case rel => exact ⟨rfl, rfl⟩
    · by_cases h6 : k = 6
      · subst h6
        go_wp2
        go_meet
        case rel => exact ⟨rfl, rfl⟩
      · have e4 : ((k : Int) == 4) = false := by simp; omega
        have e6 : ((k : Int) == 6) = false := by simp; omega
        by_cases h7 : k = 7
        · subst h7
          go_wp2
          go_meet
          case rel => exact ⟨rfl, rfl⟩
        · have e7 : ((k : Int) == 7) = false := by simp; omega
          have eo : onC k = false := by simp [onC, h4, h6, h7]
          go_wp2
          go_meet
          case rel => exact ⟨congrArg Value.bool eo.symm, rfl⟩
  case rest =>
    obtain ⟨rfl, rfl⟩ := hcut
    go_upto_if 39 with (fail)
    go_cut [11] (fun s' wx => s' = .int .i64 (s : Int) ∧ wx = wc)
    case first =>
      have h0 := HS7.out
      cases ho : onC k
      · rw [ho] at h0
        subst h0
        go_wp2
        go_meet
        case rel => exact ⟨rfl, rfl⟩
      · rw [ho] at h0
        subst h0
        go_wp2
        go_meet
        case rel => exact ⟨rfl, rfl⟩
    case rest =>
      obtain ⟨rfl, rfl⟩ := hcut
      go_upto_if 42 with (fail)
      go_cut [12] (fun s wx => s = .int .i64 (max z2 16384) ∧ wx = wc)
      case first =>
        by_cases h : z2 < 16384
        · go_wp2
          go_meet
          case rel => exact ⟨congrArg (Value.int .i64) (by omega), rfl⟩
        · go_wp2
          go_meet
          case rel => exact ⟨congrArg (Value.int .i64) (by omega), rfl⟩
      case rest =>
        obtain ⟨rfl, rfl⟩ := hcut
        go_upto_if 44 with (fail)
        go_cut [12] (fun s wx => s = .int .i64 (m : Int) ∧ wx = wc)
        case first =>
          have h0 := HM0.out
          by_cases h : 16777215 < max z2 16384
          · have e : (m : Int) = 16777215 := by omega
            go_wp2
            go_meet
            case rel => exact ⟨congrArg (Value.int .i64) e.symm, rfl⟩
          · have e : max z2 16384 = (m : Int) := by omega
            rw [e] at h ⊢
            go_wp2
            go_meet
            case rel => exact ⟨rfl, rfl⟩
        case rest =>
          obtain ⟨rfl, rfl⟩ := hcut
          have hbig : ¬ m < nn := HBG.out
          · have hbig' : ¬ (m : Int) < (nn : Int) := by omega
            obtain ⟨bb, hbb⟩ : ∃ bb, UInt8.ofNat fv = bb := ⟨_, rfl⟩
            have hbv : BV bb = .int .u8 (fv : Int) := by rw [← hbb]; exact bvn fv (fv : Int) (by omega)
            have hbo : bb.toNat % 2 = 1 := by
              have := HODD.out
              rw [← hbb]
              simp
              omega
            have hmk := run_make_zeros EB rfl .i64 .i64 (n6 : Int) n6 rfl (by omega) (by omega)
            have HBO := Lib.hid hbo
            have HBV := Lib.hid hbv
            clear hbb hbo hbv
            have S4 : Hid (St (fun _ => False) w1 (wc.alloc (.cells (zeros zeroB n6).toArray 5)) [PFo p m ⟨[], false⟩, BLo wc.heap.size 5 (zeros zeroB n6)]) := Lib.hid (S3.out.block 5 (zeros zeroB n6))
            obtain ⟨g, hgg⟩ : ∃ g, wc.heap.size = g := ⟨_, rfl⟩
            rw [hgg] at S4
            have HGG := Lib.hid hgg
            clear hgg
            go_wp2
            rw [HGG.out]
            go_loopg [17] n6 (fun gh i w' => ∃ j : Nat, gh + j = n6 ∧ i = .int .i64 (j : Int) ∧ St (fun _ => False) w1 w' [PFo p m ⟨[], false⟩, BLo g 5 (List.replicate j (.int .u8 (fv : Int)) ++ List.replicate (n6 - j) zeroB)])
            case atStart => exact ⟨0, by omega, rfl, S4.out⟩
            case round =>
              obtain ⟨j, hj, rfl, s5⟩ := hrel
              have S5 := Lib.hid s5
              clear s5
              cases gk with
              | succ g1 =>
                have hjn : j < n6 := by omega
                have k1 : (j : Int) < (n6 : Int) := by omega
                have hcell := (S5.out.blk1).cell j
                rw [rep_at n6 j _ _ hjn] at hcell
                have hfz := (S5.out.blk1).frozen j
                go_wp2
                go_roundg g1
                case measure => omega
                case rel =>
                  have s6 := S5.out.set1 j (.int .u8 (fv : Int))
                  rw [rep_set _ _ _ _ hjn] at s6
                  exact ⟨j + 1, by omega, by go_num, s6⟩
              | zero =>
                obtain rfl : j = n6 := by omega
                have hBB := (S5.out.blk1)
                rw [Nat.sub_self, List.replicate_zero, List.append_nil, ← HBV.out, ← List.map_replicate] at hBB
                have hlenB : (List.replicate j bb).length = j := List.length_replicate ..
                have R5 := Lib.hid (rd_blk hBB hlenB)
                have HF : Hid (feedN m ⟨[], false⟩ 9 = 9) := by show min 9 (m + 9 - 0) = 9; omega
                have HP : Hid (feedP m ⟨[], false⟩ (headB j k 0 s) = ⟨headB j k 0 s, false⟩) := by
                  show feedP m ⟨[], false⟩ (headB j k 0 s) = _
                  unfold feedP
                  rw [headB_len, HF.out, List.take_of_length_le (by rw [headB_len]; omega), List.nil_append]
                have HF2 : Hid (feedN m ⟨headB j k 0 s, false⟩ j = j) := by
                  show min j (m + 9 - (headB j k 0 s).length) = j
                  rw [headB_len]; omega
                have HP2 : Hid (feedP m ⟨headB j k 0 s, false⟩ (List.replicate j bb) = ⟨headB j k 0 s ++ List.replicate j bb, false⟩) := by
                  show feedP m ⟨headB j k 0 s, false⟩ (List.replicate j bb) = _
                  unfold feedP
                  rw [hlenB, HF2.out, List.take_of_length_le (by rw [hlenB]; omega)]
                obtain ⟨ff, hff⟩ : ∃ ff, (parseP k 0 s (List.replicate j bb)).1 = ff := ⟨_, rfl⟩
                obtain ⟨⟨xi, xc, xs⟩, hx⟩ : ∃ x, (parseP k 0 s (List.replicate j bb)).2 = x := ⟨_, rfl⟩
                have hxx := sz_parse k j bb HBO.out
                rw [HS.out, hx] at hxx
                have HX := Lib.hid hxx
                have HT : Hid (nextP m ⟨headB j k 0 s ++ List.replicate j bb, false⟩ = (⟨ff, ⟨xi, xc, xs⟩, true⟩, ⟨[], xi && xs == 0⟩)) := by
                  show nextP m ⟨headB j k 0 s ++ List.replicate j bb, false⟩ = _
                  rw [told_one m j k 0 s _ hlenB (by omega) hmb2 hk256 (by omega) hs31, settle_nil', hff, hx]
                clear hx hff hxx hBB hbig hbig' hmk
                go_upto_region 28 with (first
                  | (go_at_call 28; (with_reducible refine (head9_0 j k s (by omega) hk256 hs31 _).mono ?_); rintro e w4 ⟨g4, rfl, o4, b4⟩
                     have S4 := Lib.hid (S5.out.add (St.made_own o4 b4))
                     have R4 := Lib.hid (Rd.of_own o4)
                     have R6 := Lib.hid (R5.out.below b4)
                     clear o4 b4)
                  | (go_at_call 23; (with_reducible refine (feed_any S4.out R4.out (Nat.le_refl _) (by omega) 9 HF.out _ HP.out).mono ?_); rintro e w6 ⟨rfl, s6⟩
                     have hBB := (s6.blk1)
                     rw [Nat.sub_self, List.replicate_zero, List.append_nil, ← HBV.out, ← List.map_replicate] at hBB
                     have R7 := Lib.hid (rd_blk hBB hlenB)
                     have S6 := Lib.hid s6
                     clear s6 hBB S4 R4)
                  | (go_at_call 23; (with_reducible refine (feed_any S6.out R7.out (Nat.le_refl _) (by omega) j HF2.out _ HP2.out).mono ?_); rintro e w8 ⟨rfl, s8⟩
                     have S8 := Lib.hid s8
                     clear s8)
                  | (go_at_call 21; (with_reducible refine (next_n S8.out HG1.out HT.out).mono ?_); rintro e w7 ⟨pv, lv, rfl, o7, s7, z7⟩
                     obtain ⟨Af, cf, Bf, df, rfl, rfl, _, _⟩ := o7
                     have S7 := Lib.hid (shB s7 (.cells #[.int .i64 ff.kind, .int .i64 ff.stream, .bool ff.fin, .bool ff.eh, .bool ff.ack, .bool ff.prio, .slice Af ff.pay.length cf, .int .i64 ff.flags, .int .i64 ff.pad, .int .i64 ff.depend, .bool ff.excl, .int .i64 ff.weight, .int .u32 (ff.code : Int), .slice Bf ff.list.length df, .int .i64 ff.last, .int .i64 ff.inc] 27) 46 [.bool xi, .int .u32 (xc : Int), .int .i64 xs])
                     clear s7))
                obtain ⟨Bz, hBz⟩ : ∃ B, szB k j = B := ⟨_, rfl⟩
                have hx := HX.out
                rw [hBz] at hx
                have HB7 : Hid (Below w.heap.size w ((w7.alloc (.cells #[.int .i64 ff.kind, .int .i64 ff.stream, .bool ff.fin, .bool ff.eh, .bool ff.ack, .bool ff.prio, .slice Af ff.pay.length cf, .int .i64 ff.flags, .int .i64 ff.pad, .int .i64 ff.depend, .bool ff.excl, .int .i64 ff.weight, .int .u32 (ff.code : Int), .slice Bf ff.list.length df, .int .i64 ff.last, .int .i64 ff.inc] 27)).alloc (.cells #[.bool xi, .int .u32 (xc : Int), .int .i64 xs] 46))) := HB1.out.trans (S7.out.below.mono HB1.out.size)
                have HJ64 : Hid (j < 64) := hn64
                clear S7 S8 S6 S5 HT HX HP2 HF2 HP HF R5 HS HODD HBO HBV
                rcases HCL.out with rfl | rfl | rfl
                ·
                  cases Bz
                  · cases hx
                    clear hBz
                    go_wp2
                    go_ret
                    exact ⟨rfl, HB7.out.alloc HB7.out.size _⟩
                  · simp [szB] at hBz
                ·
                  cases Bz
                  · cases hx
                    clear hBz
                    go_wp2
                    go_ret
                    exact ⟨rfl, HB7.out.alloc HB7.out.size _⟩
                  · simp [szB] at hBz
                ·
                  cases Bz
                  · cases hx
                    clear hBz
                    go_wp2
                    go_ret
                    exact ⟨rfl, HB7.out.alloc HB7.out.size _⟩
                  · simp [szB] at hBz
end Go.Proofs.YtokbdkbljgdcpaaDoor
