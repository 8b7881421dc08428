/- Several texts in one: RnE, RfT, RnC. -/
import Derived.Test.YtokbdkbljgdcpaaDoorYRB
import Derived.Deep.DeepCutAuto
import Derived.Test.YtokbdkbljgdcpaaDoorYRA
/- The document's Next: what is told. -/
namespace Go.Proofs.YtokbdkbljgdcpaaDoor
open Go.RowKit Go.Own Go.Frm
set_option linter.unusedVariables false
set_option linter.unusedSimpArgs false
set_option maxRecDepth 100000
set_option maxHeartbeats 16000000 in
theorem rnx_told {w : World} {p m n k fl s : Nat} {xs : List UInt8} (hin : NxIn w p m xs n k fl s) (h1 : ¬ m < n) (h2 : ¬ xs.length < 9 + n) (h3 : stray k (s : Int) = false) (h4 : badSize k fl n = false) (h6 : PadOk k fl ((xs.drop 9).take n)) (F : Fm) (HRD : Hid (∀ w', Calls Tryd.prog 49 #[.int .i64 (k : Int), .int .i64 (fl : Int), .string ⟨((xs.drop 9).take n).toArray⟩] w' (ReadQ F w')))
    (h7 : ((k : Int) == 5) = false ∧ ((k : Int) == 8) = false ∨ ((k : Int) == 5) = true ∧ ((k : Int) == 8) = false ∧ (F.last == 0) = false ∨ ((k : Int) == 5) = false ∧ ((k : Int) == 8) = true ∧ (F.inc == 0) = false) : Calls Tryd.prog 22 #[.pointer (some ⟨p, 0, none⟩)] w (RNx p m { F with stream := s } noF true (xs.drop (9 + n)) false w) := by
  obtain ⟨hb, hx, hm, h9, hn, hk, hf, hs⟩ := hin
  have hlx : xs.length ≤ 140737488355328 := by omega
  obtain ⟨x3, h3⟩ : ∃ x, xs[3]? = some x := ⟨_, List.getElem?_eq_getElem (by omega)⟩
  obtain ⟨x4, h4⟩ : ∃ x, xs[4]? = some x := ⟨_, List.getElem?_eq_getElem (by omega)⟩
  have E3 : x3.toNat = k := by rw [← hk]; exact (nx_k xs 3 x3 h3).symm
  have E4 : x4.toNat = fl := by rw [← hf]; exact (nx_k xs 4 x4 h4).symm
  have k8 : k < 256 := by rw [← E3]; exact x3.toNat_lt
  have f8 : fl < 256 := by rw [← E4]; exact x4.toNat_lt
  have i3 := ba_el xs 3 x3 h3
  have i4 := ba_el xs 4 x4 h4
  have n24 : n < 16777216 := by rw [← hn]; exact num_take_lt _ 3
  obtain ⟨v, hv⟩ : ∃ v, num ((xs.drop 5).take 4) = v := ⟨_, rfl⟩
  have v32 : v < 4294967296 := by rw [← hv]; exact num_take_lt _ 4
  have hsv : low v = s := by rw [← hv]; exact hs
  have G1 : Hid (num ((xs.drop 0).take 3) = n) := hn
  have G2 := Lib.hid hv
  have G3 := Lib.hid hsv
  have HLX := Lib.hid hlx
  have N0 : Hid ((0 : Int) = ((0 : Nat) : Int)) := rfl
  have N3 : Hid ((3 : Int) = ((3 : Nat) : Int)) := rfl
  have N4 : Hid ((4 : Int) = ((4 : Nat) : Int)) := rfl
  have N5 : Hid ((5 : Int) = ((5 : Nat) : Int)) := rfl
  have H9 := Lib.hid h9
  have HX24 := Lib.hid hx
  have V64 : Hid (v < 18446744073709551616) := (by omega : v < 18446744073709551616)
  have w1 : IntKind.i64.wrap (n : Int) = (n : Int) := i64w (by omega)
  have w2 : IntKind.i64.wrap (k : Int) = (k : Int) := i64w (by omega)
  have w3 : IntKind.i64.wrap (fl : Int) = (fl : Int) := i64w (by omega)
  have w4 : IntKind.i64.wrap (9 + (n : Int)) = ((9 + n : Nat) : Int) := by rw [i64w (by omega)]; omega
  have t9 : ¬ xs.length < 9 := by omega
  have t3 : 3 < xs.length := by omega
  have t4 : 4 < xs.length := by omega
  have X2 := Lib.hid (blk_new1 w (.cells #[.bool false, .int .u32 0, .int .i64 0] 46) 27 [.int .i64 0, .int .i64 0, .bool false, .bool false, .bool false, .bool false, .slice none 0 0, .int .i64 0, .int .i64 0, .int .i64 0, .bool false, .int .i64 0, .int .u32 0, .slice none 0 0, .int .i64 0, .int .i64 0])
  have Y2 := Lib.hid (blk_new2 w (.cells #[.int .i64 0, .int .i64 0, .bool false, .bool false, .bool false, .bool false, .slice none 0 0, .int .i64 0, .int .i64 0, .int .i64 0, .bool false, .int .i64 0, .int .u32 0, .slice none 0 0, .int .i64 0, .int .i64 0] 27) 46 [.bool false, .int .u32 0, .int .i64 0])
  have K2 := Lib.hid ((hb.alloc (.cells #[.int .i64 0, .int .i64 0, .bool false, .bool false, .bool false, .bool false, .slice none 0 0, .int .i64 0, .int .i64 0, .int .i64 0, .bool false, .int .i64 0, .int .u32 0, .slice none 0 0, .int .i64 0, .int .i64 0] 27)).alloc (.cells #[.bool false, .int .u32 0, .int .i64 0] 46))
  have B2 := Lib.hid (((Below.refl _ w).alloc (Nat.le_refl _) (.cells #[.int .i64 0, .int .i64 0, .bool false, .bool false, .bool false, .bool false, .slice none 0 0, .int .i64 0, .int .i64 0, .int .i64 0, .bool false, .int .i64 0, .int .u32 0, .slice none 0 0, .int .i64 0, .int .i64 0] 27)).alloc (by simp) (.cells #[.bool false, .int .u32 0, .int .i64 0] 46))
  have hpl := Lib.hid hb.lt
  clear hb hn hk hf hs hv hsv h3 h4 hlx hx h9 hm
  go_enter Tryd.func22, Tryd.ntmps22
  go_upto_region 1 with (fail)
  generalize ((w.alloc (.cells #[.int .i64 0, .int .i64 0, .bool false, .bool false, .bool false, .bool false, .slice none 0 0, .int .i64 0, .int .i64 0, .int .i64 0, .bool false, .int .i64 0, .int .u32 0, .slice none 0 0, .int .i64 0, .int .i64 0] 27)).alloc (.cells #[.bool false, .int .u32 0, .int .i64 0] 46)) = u at K2 X2 Y2 B2 ⊢
  have HK := Lib.hid K2.out
  have HX := Lib.hid X2.out
  have HY := Lib.hid Y2.out
  have HF : Hid (Fr (· = p) w u) := Fr.of_below B2.out (fun i h1 h2 => absurd h1 (by omega))
  have z0 := HK.out.cell 0
  have z1 := HK.out.cell 1
  have z2 := HK.out.cell 2
  have hlu := HK.out.lt
  simp only [List.getElem?_cons_zero, List.getElem?_cons_succ] at z0 z1 z2
  clear K2 X2 Y2 B2
  have HSt := Lib.hid h3
  have hbad := Lib.hid h4
  clear h3 h4
  have h9n : 9 + n ≤ xs.length := by omega
  have h99 : 9 ≤ 9 + n := by omega
  obtain ⟨ss, hss⟩ : ∃ ss, (xs.drop 9).take n = ss := ⟨_, rfl⟩
  have esl : ({ data := xs.toArray } : ByteArray).extract 9 (9 + n) = ⟨ss.toArray⟩ := by rw [ba_ext, show 9 + n - 9 = n by omega, hss]
  have lss : ss.length = n := by rw [← hss, List.length_take, List.length_drop]; omega
  obtain ⟨M, hM⟩ : ∃ M, must k fl = M := ⟨_, rfl⟩
  obtain ⟨J, hJ⟩ : ∃ J, just k = J := ⟨_, rfl⟩
  obtain ⟨t0, ht0⟩ : ∃ t, fl.testBit 0 = t := ⟨_, rfl⟩
  have b0 : (bits .and .i64 (fl : Int) 1 != 0) = t0 := by rw [← ht0]; exact and_pow fl 0 (by omega) (by omega)
  have HM := Lib.hid hM
  have HJ := Lib.hid hJ
  have HT0 := Lib.hid ht0
  have HSS := Lib.hid hss
  clear hM hJ ht0 hss
  obtain ⟨rr, hrr⟩ : ∃ rr, xs.drop (9 + n) = rr := ⟨_, rfl⟩
  have esr : ({ data := xs.toArray } : ByteArray).extract (9 + n) xs.length = ⟨rr.toArray⟩ := by rw [ba_ext, ← hrr, List.take_of_length_le (by rw [List.length_drop]; omega)]
  obtain ⟨pB, hpB⟩ : ∃ b, hP k = b := ⟨_, rfl⟩
  obtain ⟨t8, ht8⟩ : ∃ b, fl.testBit 3 = b := ⟨_, rfl⟩
  have b8 : (bits .and .i64 (fl : Int) 8 != 0) = t8 := by rw [← ht8]; exact and_pow fl 3 (by omega) (by omega)
  have HP := Lib.hid hpB
  have HT8 := Lib.hid ht8
  have hpd : padded k fl = (pB && t8) := by unfold padded; rw [hpB, ht8]
  clear hpB ht8
  rw [HSS.out] at HRD
  obtain ⟨pt, hpt⟩ : ∃ q, (pB && t8) = q := ⟨_, rfl⟩
  rw [hpt] at hpd
  have HPT := Lib.hid hpt
  have hMn : M ≤ n := by
    have h4 := hbad.out
    rw [← HM.out]
    unfold badSize at h4
    simp at h4
    omega
  have wd : IntKind.i64.wrap ((n : Int) - (M : Int)) = ((n - M : Nat) : Int) := by rw [i64w (by omega)]; omega
  have hpk : pt = false ∨ (pt = true ∧ ∃ y0 yn, ss[0]? = some y0 ∧ y0.toNat = yn ∧ yn ≤ n - M) := by
    cases hc : pt with
    | false => exact .inl rfl
    | true =>
      right
      have h := h6 (by rw [hpd, hc])
      rw [HSS.out, lss, HM.out] at h
      have hbase : 0 < ss.length := by
        rcases Nat.eq_zero_or_pos ss.length with h0 | h0
        · exfalso
          have hM1 : 1 ≤ M := by
            rw [← HM.out]
            unfold must
            rw [hpd, hc]
            simp
            omega
          omega
        · exact h0
      obtain ⟨y, hy⟩ : ∃ y, ss[0]? = some y := ⟨_, List.getElem?_eq_getElem hbase⟩
      have e : ss.headD 0 = y := by rw [List.headD_eq_head?_getD, List.head?_eq_getElem?, hy]; rfl
      rw [e] at h
      exact ⟨rfl, y, _, hy, rfl, h⟩
  have HPK := Lib.hid hpk
  clear hpk h6 hpd hpt
  have H7 := Lib.hid h7
  clear h7
  go_upto_region 15 with (first
    | (go_at_call 42; (with_reducible refine (get_w xs 0 3 _ _ N0.out N3.out (by have := H9.out; omega) HLX.out (by omega) n G1.out _).mono ?_); rintro e w9 ⟨rfl, hw9⟩; rw [hw9]; clear hw9)
    | (go_at_call 42; (with_reducible refine (get_w xs 5 4 _ _ N5.out N4.out (by have := H9.out; omega) HLX.out (by omega) v G2.out _).mono ?_); rintro e w9 ⟨rfl, hw9⟩; rw [hw9]; clear hw9)
    | (go_at_call 43; (with_reducible refine (low_w v s G3.out V64.out _).mono ?_); rintro e w9 ⟨rfl, hw9⟩; rw [hw9]; clear hw9)
    | (go_at_call 45; (with_reducible refine (stray_w k s _ HSt.out _).mono ?_); rintro e w9 ⟨rfl, hw9⟩; rw [hw9]; clear hw9)
    | (go_at_call 46; (with_reducible refine (least_w k fl k8 f8 M J HM.out HJ.out _).mono ?_); rintro e w7 ⟨rfl, hb⟩
       have hK' := blk_below HK.out hb
       have hX' := blk_below HX.out hb
       have hY' := blk_below HY.out hb
       have hF' : Fr (· = p) w w7 := HF.out.trans (Fr.of_below (S := (· = p)) hb (fun i h1 h2 => absurd h1 (by omega))) (fun _ _ h => h)
       clear HK HX HY HF z0 z1 z2 hlu hb
       have HK := Lib.hid hK'
       have HX := Lib.hid hX'
       have HY := Lib.hid hY'
       have HF := Lib.hid hF'
       clear hK' hX' hY' hF'
       have z0 := HK.out.cell 0
       have z1 := HK.out.cell 1
       have z2 := HK.out.cell 2
       have hlu := HK.out.lt
       simp only [List.getElem?_cons_zero, List.getElem?_cons_succ] at z0 z1 z2))
  go_cut [122] (fun s wx => s = .bool false ∧ wx = w7)
  case first =>
    as_aux_lemma =>
      have r6 : (n : Int).tmod 6 = ((n % 6 : Nat) : Int) := by rw [Int.tmod_eq_emod_of_nonneg (by omega)]; omega
      have ways := bad_ways HM.out HJ.out HT0.out hbad.out
      clear HM HJ HT0 hbad HF HK HX HY z0 z1 z2 hlu HSt HSS esl lss h99 h9n i3 i4 E3 E4 w1 w2 w3 w4 t9 t3 t4 h1 h2
      rcases ways with ⟨c1, c2⟩ | ⟨c1, rfl, c2, c3⟩ | ⟨c1, rfl | ⟨rfl, rfl⟩, c3, c4⟩ | ⟨c1, rfl, c3, c4, c5⟩ | ⟨c1, rfl, c3, c4, rfl, c5, c6⟩ | ⟨c1, rfl, c3, c4, rfl, c5, c6⟩ | ⟨c1, rfl, c3, c4, rfl, c5⟩
      · go_wp2
        go_meet
        case rel => first | exact ⟨rfl, rfl⟩ | cases c2
      · have e1 : (n != M) = true := by simpa using c2
        have e2 : ((n : Int) != (M : Int)) = true := by simp; omega
        clear r6 c2
        go_wp2
        go_meet
        case rel => first | exact ⟨rfl, rfl⟩ | cases c3
      · have e1 : ((k : Int) == 4) = false := by simp; omega
        clear r6 c3
        go_wp2
        go_meet
        case rel => first | exact ⟨rfl, rfl⟩ | cases c4
      · have e1 : ((k : Int) == 4) = false := by simp; omega
        clear r6 c3
        go_wp2
        go_meet
        case rel => first | exact ⟨rfl, rfl⟩ | cases c4
      · have e1 : ((k : Int) == 4) = true := by simp; omega
        obtain ⟨q6, hq6⟩ : ∃ q, n % 6 = q := ⟨_, rfl⟩
        rw [hq6] at c4 r6
        have r7 : (n : Int) % 6 = (q6 : Int) := by omega
        have e2 : ((q6 : Int) != 0) = true := by simp; omega
        have e3 : (q6 != 0) = true := by simpa using c4
        clear c3 hq6
        go_wp2
        go_meet
        case rel => first | exact ⟨rfl, rfl⟩ | cases c5
      · have e1 : ((k : Int) == 4) = true := by simp; omega
        have e2 : (n : Int).tmod 6 = 0 := by rw [r6, c4]; rfl
        have r7 : (n : Int) % 6 = 0 := by omega
        have e4 : (0 : Int) < (n : Int) := by omega
        have e5 : decide (0 < n) = true := decide_eq_true c5
        clear c3 c4 r6
        go_wp2
        go_meet
        case rel => first | exact ⟨rfl, rfl⟩ | exact ⟨by rw [e5], rfl⟩ | cases c6
      · have e1 : ((k : Int) == 4) = true := by simp; omega
        have e2 : (n : Int).tmod 6 = 0 := by rw [r6, c4]; rfl
        have r7 : (n : Int) % 6 = 0 := by omega
        have e3 : ¬ 0 < n := by omega
        clear c3 c4 r6 c5
        go_wp2
        go_meet
        case rel => first | exact ⟨rfl, rfl⟩ | cases c6
      · have e1 : ((k : Int) == 4) = true := by simp; omega
        have e2 : (n : Int).tmod 6 = 0 := by rw [r6, c4]; rfl
        have r7 : (n : Int) % 6 = 0 := by omega
        clear c3 c4 r6
        go_wp2
        go_meet
        case rel => first | exact ⟨rfl, rfl⟩ | cases c5
  case' rest => obtain ⟨rfl, hw⟩ := hcut; rw [hw]; clear hw
  go_upto_region 20 with (fail)
  go_cut [12] (fun t wx => t = .bool pt ∧ Below w7.heap.size w7 wx)
  case first =>
    clear HM HJ HT0 hbad HF HX HY HSt HSS h99 h9n i3 i4 E3 E4 w1 w2 w3 w4 t9 t3 t4 h1 h2 HRD esr
    as_aux_lemma =>
      have h := HPT.out
      clear HPK
      cases pB <;> cases t8 <;> subst h
      all_goals
        go_wp2_with (first
          | (go_at_call 48; (with_reducible refine (has_c k _).mono ?_); rintro e w6 ⟨rfl, hb⟩
             have HBB := Lib.hid hb
             clear hb)
          | (go_at_call 47; (with_reducible refine (ltr_p k _ HP.out _).mono ?_); rintro e w5 ⟨rfl, hw5⟩; rw [hw5]; clear hw5))
        go_meet
        case rel => exact ⟨rfl, HBB.out⟩
  case' rest => obtain ⟨rfl, hbc⟩ := hcut
  have hK' := blk_below HK.out hbc
  have hX' := blk_below HX.out hbc
  have hY' := blk_below HY.out hbc
  have hF' : Fr (· = p) w wc := HF.out.trans (Fr.of_below (S := (· = p)) hbc (fun i h1 h2 => absurd h1 (by omega))) (fun _ _ h => h)
  clear HK HX HY HF z0 z1 z2 hlu hbc
  have HK := Lib.hid hK'
  have HX := Lib.hid hX'
  have HY := Lib.hid hY'
  have HF := Lib.hid hF'
  clear hK' hX' hY' hF'
  have z0 := HK.out.cell 0
  have z1 := HK.out.cell 1
  have z2 := HK.out.cell 2
  have hlu := HK.out.lt
  simp only [List.getElem?_cons_zero, List.getElem?_cons_succ] at z0 z1 z2
  go_upto_region 21 with (fail)
  go_cut [160] (fun t wx => t = .bool false ∧ wx = wc)
  case first =>
    clear HM HJ HT0 hbad HF HX HY HSt HSS h99 h9n i3 i4 E3 E4 w1 w2 w3 w4 t9 t3 t4 h1 h2 HRD esr
    as_aux_lemma =>
      rcases HPK.out with rfl | ⟨rfl, y0, yn, hy0, hyn, hle⟩
      · go_wp2
        go_meet
        case rel => exact ⟨rfl, rfl⟩
      · have i0 := ba_el ss 0 y0 hy0
        have l0 : 0 < ss.length := (List.getElem?_eq_some_iff.1 hy0).1
        have y256 : yn < 256 := by rw [← hyn]; exact y0.toNat_lt
        have wy : IntKind.i64.wrap (yn : Int) = (yn : Int) := i64w (by omega)
        have h9 : ¬ ((n - M : Nat) : Int) < (yn : Int) := by omega
        have h9' : ¬ n - M < yn := by omega
        clear hy0 HPK
        go_wp2
        go_meet
        case rel => exact ⟨rfl, rfl⟩
  case' rest => obtain ⟨rfl, hw⟩ := hcut; rw [hw]; clear hw
  go_upto_region 25 with (first
    | (go_at_call 49; (with_reducible refine (HRD.out _).mono ?_); rintro e w4 ⟨A, c, B, d, rfl, ra, rb, hb, ga, gb⟩
       have lK := HK.out.lt
       have lX := HX.out.lt
       have lY := HY.out.lt
       have GA : Hid (∀ a, A = some a → a.block ≠ p ∧ a.block ≠ w.heap.size ∧ a.block ≠ w.heap.size + 1) := fun a ha => by have := ga a ha; omega
       have GB : Hid (∀ a, B = some a → a.block ≠ p ∧ a.block ≠ w.heap.size ∧ a.block ≠ w.heap.size + 1) := fun a ha => by have := gb a ha; omega
       clear ga gb lK lX lY
       have hK' := blk_below HK.out hb
       have hX' := blk_below HX.out hb
       have hY' := blk_below HY.out hb
       have hF' : Fr (· = p) w w4 := HF.out.trans (Fr.of_below (S := (· = p)) hb (fun i h1 h2 => absurd h1 (by omega))) (fun _ _ h => h)
       clear HK HX HY HF z0 z1 z2 hlu hb
       have HK := Lib.hid hK'
       have HX := Lib.hid hX'
       have HY := Lib.hid hY'
       have HF := Lib.hid hF'
       clear hK' hX' hY' hF'
       have z0 := HK.out.cell 0
       have z1 := HK.out.cell 1
       have z2 := HK.out.cell 2
       have hlu := HK.out.lt
       simp only [List.getElem?_cons_zero, List.getElem?_cons_succ] at z0 z1 z2
       have RA := Lib.hid ra
       have RB := Lib.hid rb
       clear ra rb))
  have hZ : Blk (w4.alloc (.cells #[.int .i64 F.kind, .int .i64 (s : Int), .bool F.fin, .bool F.eh, .bool F.ack, .bool F.prio, .slice A F.pay.length c, .int .i64 F.flags, .int .i64 F.pad, .int .i64 F.depend, .bool F.excl, .int .i64 F.weight, .int .u32 (F.code : Int), .slice B F.list.length d, .int .i64 F.last, .int .i64 F.inc] 27)) w4.heap.size 27 [.int .i64 F.kind, .int .i64 (s : Int), .bool F.fin, .bool F.eh, .bool F.ack, .bool F.prio, .slice A F.pay.length c, .int .i64 F.flags, .int .i64 F.pad, .int .i64 F.depend, .bool F.excl, .int .i64 F.weight, .int .u32 (F.code : Int), .slice B F.list.length d, .int .i64 F.last, .int .i64 F.inc] := Blk.new _ _ _
  have hK' := HK.out.alloc (.cells #[.int .i64 F.kind, .int .i64 (s : Int), .bool F.fin, .bool F.eh, .bool F.ack, .bool F.prio, .slice A F.pay.length c, .int .i64 F.flags, .int .i64 F.pad, .int .i64 F.depend, .bool F.excl, .int .i64 F.weight, .int .u32 (F.code : Int), .slice B F.list.length d, .int .i64 F.last, .int .i64 F.inc] 27)
  have hX' := HX.out.alloc (.cells #[.int .i64 F.kind, .int .i64 (s : Int), .bool F.fin, .bool F.eh, .bool F.ack, .bool F.prio, .slice A F.pay.length c, .int .i64 F.flags, .int .i64 F.pad, .int .i64 F.depend, .bool F.excl, .int .i64 F.weight, .int .u32 (F.code : Int), .slice B F.list.length d, .int .i64 F.last, .int .i64 F.inc] 27)
  have hY' := HY.out.alloc (.cells #[.int .i64 F.kind, .int .i64 (s : Int), .bool F.fin, .bool F.eh, .bool F.ack, .bool F.prio, .slice A F.pay.length c, .int .i64 F.flags, .int .i64 F.pad, .int .i64 F.depend, .bool F.excl, .int .i64 F.weight, .int .u32 (F.code : Int), .slice B F.list.length d, .int .i64 F.last, .int .i64 F.inc] 27)
  have hF' : Fr (· = p) w (w4.alloc (.cells #[.int .i64 F.kind, .int .i64 (s : Int), .bool F.fin, .bool F.eh, .bool F.ack, .bool F.prio, .slice A F.pay.length c, .int .i64 F.flags, .int .i64 F.pad, .int .i64 F.depend, .bool F.excl, .int .i64 F.weight, .int .u32 (F.code : Int), .slice B F.list.length d, .int .i64 F.last, .int .i64 F.inc] 27)) := HF.out.alloc _
  have ra' := RA.out.below ((Below.refl _ w4).alloc (Nat.le_refl _) (.cells #[.int .i64 F.kind, .int .i64 (s : Int), .bool F.fin, .bool F.eh, .bool F.ack, .bool F.prio, .slice A F.pay.length c, .int .i64 F.flags, .int .i64 F.pad, .int .i64 F.depend, .bool F.excl, .int .i64 F.weight, .int .u32 (F.code : Int), .slice B F.list.length d, .int .i64 F.last, .int .i64 F.inc] 27))
  have rb' := RB.out.below ((Below.refl _ w4).alloc (Nat.le_refl _) (.cells #[.int .i64 F.kind, .int .i64 (s : Int), .bool F.fin, .bool F.eh, .bool F.ack, .bool F.prio, .slice A F.pay.length c, .int .i64 F.flags, .int .i64 F.pad, .int .i64 F.depend, .bool F.excl, .int .i64 F.weight, .int .u32 (F.code : Int), .slice B F.list.length d, .int .i64 F.last, .int .i64 F.inc] 27))
  have np : ¬ w4.heap.size = p := by have := HK.out.lt; omega
  have nx1 : ¬ w4.heap.size = w.heap.size := by have := HX.out.lt; omega
  have nx2 : ¬ w4.heap.size = w.heap.size + 1 := by have := HY.out.lt; omega
  clear HK HX HY HF RA RB z0 z1 z2 hlu
  generalize w4.alloc (.cells #[.int .i64 F.kind, .int .i64 (s : Int), .bool F.fin, .bool F.eh, .bool F.ack, .bool F.prio, .slice A F.pay.length c, .int .i64 F.flags, .int .i64 F.pad, .int .i64 F.depend, .bool F.excl, .int .i64 F.weight, .int .u32 (F.code : Int), .slice B F.list.length d, .int .i64 F.last, .int .i64 F.inc] 27) = u3 at hZ hK' hX' hY' hF' ra' rb' ⊢
  generalize w4.heap.size = fb at hZ np nx1 nx2 ⊢
  have HK := Lib.hid hK'
  have HX := Lib.hid hX'
  have HY := Lib.hid hY'
  have HF := Lib.hid hF'
  have RA := Lib.hid ra'
  have RB := Lib.hid rb'
  have HZ := Lib.hid hZ
  clear hK' hX' hY' hF' ra' rb' hZ
  have z0 := HK.out.cell 0
  have z1 := HK.out.cell 1
  have z2 := HK.out.cell 2
  have hlu := HK.out.lt
  simp only [List.getElem?_cons_zero, List.getElem?_cons_succ] at z0 z1 z2
  have v0 := HZ.out.cell 0
  have v1 := HZ.out.cell 1
  have v2 := HZ.out.cell 2
  have v3 := HZ.out.cell 3
  have v4 := HZ.out.cell 4
  have v5 := HZ.out.cell 5
  have v6 := HZ.out.cell 6
  have v7 := HZ.out.cell 7
  have v8 := HZ.out.cell 8
  have v9 := HZ.out.cell 9
  have v10 := HZ.out.cell 10
  have v11 := HZ.out.cell 11
  have v12 := HZ.out.cell 12
  have v13 := HZ.out.cell 13
  have v14 := HZ.out.cell 14
  have v15 := HZ.out.cell 15
  simp only [List.getElem?_cons_zero, List.getElem?_cons_succ] at v0 v1 v2 v3 v4 v5 v6 v7 v8 v9 v10 v11 v12 v13 v14 v15
  have lz := HZ.out.lt
  go_cut [191] (fun t wx => t = .bool false ∧ wx = u3)
  case first =>
    try clear HM; try clear HJ; try clear HT0; try clear hbad; try clear HF; try clear HX; try clear HY; try clear HK; try clear HSt; try clear HSS; try clear h99; try clear h9n; try clear i3; try clear i4; try clear E3; try clear E4; try clear w1; try clear w2; try clear w3; try clear w4; try clear t9; try clear t3; try clear t4; try clear h1; try clear h2; try clear HRD; try clear esr; try clear esl; try clear lss; try clear GA; try clear GB; try clear RA; try clear RB; try clear HZ; try clear HPK; try clear HPT; try clear HP; try clear HT8; try clear wd; try clear hMn; try clear b0; try clear b8; try clear z0; try clear z1; try clear z2; try clear G1; try clear G2; try clear G3; try clear HLX; try clear H9; try clear HX24; try clear V64; try clear N0; try clear N3; try clear N4; try clear N5; try clear hss; try clear hrr; try clear np; try clear nx1; try clear nx2; try clear v0; try clear v1; try clear v2; try clear v3; try clear v4; try clear v5; try clear v6; try clear v7; try clear v8; try clear v9; try clear v10; try clear v11; try clear v12; try clear v13
    as_aux_lemma =>
      rcases H7.out with ⟨c1, c2⟩ | ⟨c1, c2, c3⟩ | ⟨c1, c2, c3⟩
      all_goals
        go_wp2
        go_meet
        case rel => exact ⟨rfl, rfl⟩
  case' rest => obtain ⟨rfl, hw⟩ := hcut; rw [hw]; clear hw
  have hfz := HK.out.frozen 0
  go_upto_region 28 with (fail)
  have hZ' := HZ.out.far (p := ⟨p, 0, none⟩) np (.string ⟨rr.toArray⟩)
  have ra' := RA.out.fr (S := (· = p)) (Fr.setCell (S := (· = p)) (Fr.refl _ _) (p := ⟨p, 0, none⟩) (.inl rfl) (.string ⟨rr.toArray⟩)) (fun a ha => (GA.out a ha).1)
  have rb' := RB.out.fr (S := (· = p)) (Fr.setCell (S := (· = p)) (Fr.refl _ _) (p := ⟨p, 0, none⟩) (.inl rfl) (.string ⟨rr.toArray⟩)) (fun a ha => (GB.out a ha).1)
  clear HZ RA RB v0 v1 v2 v3 v4 v5 v6 v7 v8 v9 v10 v11 v12 v13 v14 v15 lz
  have hK9 := HK.out
  have hK' : Blk (u3.setCell ⟨p, 0, none⟩ (.string ⟨rr.toArray⟩)) p 55 [.string ⟨rr.toArray⟩, .int .i64 (m : Int), .bool false] := HK.out.set_ 0 (.string ⟨rr.toArray⟩)
  have hX' := HX.out.far (p := ⟨p, 0, none⟩) (fun e => by have := hpl.out; have e' : w.heap.size = p := e; omega) (.string ⟨rr.toArray⟩)
  have hY' := HY.out.far (p := ⟨p, 0, none⟩) (fun e => by have := hpl.out; have e' : w.heap.size + 1 = p := e; omega) (.string ⟨rr.toArray⟩)
  have hF' : Fr (· = p) w (u3.setCell ⟨p, 0, none⟩ (.string ⟨rr.toArray⟩)) := HF.out.trans (Fr.setCell (S := (· = p)) (Fr.refl _ _) (p := ⟨p, 0, none⟩) (.inl rfl) _) (fun _ _ h => h)
  clear HK HX HY HF z0 z1 z2 hlu hfz
  generalize u3.setCell ⟨p, 0, none⟩ (.string ⟨rr.toArray⟩) = u4 at hK' hX' hY' hF' hZ' ra' rb' ⊢
  have HK := Lib.hid hK'
  have HX := Lib.hid hX'
  have HY := Lib.hid hY'
  have HF := Lib.hid hF'
  clear hK' hX' hY' hF'
  have HZ := Lib.hid hZ'
  have RA := Lib.hid ra'
  have RB := Lib.hid rb'
  clear hZ' ra' rb' hK9
  have v0 := HZ.out.cell 0
  have v1 := HZ.out.cell 1
  have v2 := HZ.out.cell 2
  have v3 := HZ.out.cell 3
  have v4 := HZ.out.cell 4
  have v5 := HZ.out.cell 5
  have v6 := HZ.out.cell 6
  have v7 := HZ.out.cell 7
  have v8 := HZ.out.cell 8
  have v9 := HZ.out.cell 9
  have v10 := HZ.out.cell 10
  have v11 := HZ.out.cell 11
  have v12 := HZ.out.cell 12
  have v13 := HZ.out.cell 13
  have v14 := HZ.out.cell 14
  have v15 := HZ.out.cell 15
  simp only [List.getElem?_cons_zero, List.getElem?_cons_succ] at v0 v1 v2 v3 v4 v5 v6 v7 v8 v9 v10 v11 v12 v13 v14 v15
  have lz := HZ.out.lt
  go_cut [213] (fun t wx => t = .bool false ∧ wx = u4)
  case first =>
    try clear HM; try clear HJ; try clear HT0; try clear hbad; try clear HF; try clear HX; try clear HY; try clear HK; try clear HSt; try clear HSS; try clear h99; try clear h9n; try clear i3; try clear i4; try clear E3; try clear E4; try clear w1; try clear w2; try clear w3; try clear w4; try clear t9; try clear t3; try clear t4; try clear h1; try clear h2; try clear HRD; try clear esr; try clear esl; try clear lss; try clear GA; try clear GB; try clear RA; try clear RB; try clear HZ; try clear HPK; try clear HPT; try clear HP; try clear HT8; try clear wd; try clear hMn; try clear b0; try clear b8; try clear z0; try clear z1; try clear z2; try clear G1; try clear G2; try clear G3; try clear HLX; try clear H9; try clear HX24; try clear V64; try clear N0; try clear N3; try clear N4; try clear N5; try clear hss; try clear hrr; try clear np; try clear nx1; try clear nx2; try clear v0; try clear v1; try clear v2; try clear v3; try clear v4; try clear v5; try clear v6; try clear v7; try clear v8; try clear v9; try clear v10; try clear v11; try clear v12; try clear v13
    as_aux_lemma =>
      rcases H7.out with ⟨c1, c2⟩ | ⟨c1, c2, c3⟩ | ⟨c1, c2, c3⟩
      all_goals
        go_wp2
        go_meet
        case rel => exact ⟨rfl, rfl⟩
  case' rest => obtain ⟨rfl, hw⟩ := hcut; rw [hw]; clear hw
  obtain ⟨r0, r1, r2, r3, r4, r5, r6, r7, r8, r9, r10, r11, r12, r13, r14, r15⟩ := cells16 (HX.out : Blk _ _ _ zero16)
  have q0 := HY.out.cell 0
  have q1 := HY.out.cell 1
  have q2 := HY.out.cell 2
  simp only [List.getElem?_cons_zero, List.getElem?_cons_succ] at q0 q1 q2
  have yf := fun i => HX.out.frozen i
  have yg := fun i => HY.out.frozen i
  have l1 := HX.out.lt
  have l2 := HY.out.lt
  go_wp2
  have hK2 : Blk u4 p 55 [.string ⟨(xs.drop (9 + n)).toArray⟩, .int .i64 (m : Int), .bool false] := by rw [hrr]; exact HK.out
  clear HK
  have HK := Lib.hid hK2
  obtain ⟨S1, S2⟩ := store16 (HX.out : Blk _ _ _ zero16) (.int .i64 F.kind) (.int .i64 (s : Int)) (.bool F.fin) (.bool F.eh) (.bool F.ack) (.bool F.prio) (.slice A F.pay.length c) (.int .i64 F.flags) (.int .i64 F.pad) (.int .i64 F.depend) (.bool F.excl) (.int .i64 F.weight) (.int .u32 (F.code : Int)) (.slice B F.list.length d) (.int .i64 F.last) (.int .i64 F.inc)
  obtain ⟨S3, S4⟩ := store3 (HY.out.fr S2 (fun e => by omega)) (.bool false) (.int .u32 0) (.int .i64 0)
  have s2 := S2.mono (S' := fun i => i = w.heap.size ∨ i = w.heap.size + 1) (fun i _ h => .inl h)
  have s4 := S4.mono (S' := fun i => i = w.heap.size ∨ i = w.heap.size + 1) (fun i _ h => .inr h)
  have hpl' := hpl.out
  exact bodyPost_ret (res_ffb (p := 2) (q := 3) (r := 4) rfl rfl rfl rfl rfl (S1.fr S4 (fun e => by omega)) S3) rfl ⟨A, c, B, d, rfl, (RA.out.fr S2 (fun a ha => (GA.out a ha).2.1)).fr S4 (fun a ha => (GA.out a ha).2.2), (RB.out.fr S2 (fun a ha => (GB.out a ha).2.1)).fr S4 (fun a ha => (GB.out a ha).2.2), (HK.out.fr S2 (fun e => by omega)).fr S4 (fun e => by omega), HF.out.trans (s2.trans s4 (fun _ _ h => h)) (fun i hi h => by rcases h with h | h <;> omega)⟩
end Go.Proofs.YtokbdkbljgdcpaaDoor

/- The document's read: kinds without a list. -/
namespace Go.Proofs.YtokbdkbljgdcpaaDoor
open Go.RowKit Go.Own Go.Frm
set_option linter.unusedVariables false
set_option linter.unusedSimpArgs false
set_option maxRecDepth 100000
set_option maxHeartbeats 16000000 in
theorem read_n (k fl : Nat) (hk : k < 256) (hk4 : hL k = false) (hfl : fl < 256) (xs : List UInt8) (hx : xs.length ≤ 16777215) (hsz : badSize k fl xs.length = false) (hpad : padded k fl = true → (xs.headD 0).toNat ≤ xs.length - must k fl) {w : World} :
    Calls Tryd.prog 49 #[.int .i64 (k : Int), .int .i64 (fl : Int), .string ⟨xs.toArray⟩] w fun e w' => ∃ A c B d, e = .returned (frV (readP k fl 0 xs) (.slice A (readP k fl 0 xs).pay.length c) (.slice B (readP k fl 0 xs).list.length d)) ∧
      Rd w' 1 A (readP k fl 0 xs).pay.length ((readP k fl 0 xs).pay.map BV) ∧ Rd w' 2 B (readP k fl 0 xs).list.length (scells (readP k fl 0 xs).list) ∧ Below w.heap.size w w' ∧ (∀ a, A = some a → w.heap.size ≤ a.block) ∧ ∀ a, B = some a → w.heap.size ≤ a.block := by
  obtain ⟨S1, h1⟩ : ∃ l, unpad (padded k fl) xs = l := ⟨_, rfl⟩
  obtain ⟨S2, h2⟩ : ∃ l, (bif withP k fl || hW k then S1.drop 5 else S1) = l := ⟨_, rfl⟩
  obtain ⟨S3, h3⟩ : ∃ l, (bif hT k then S2.drop 4 else S2) = l := ⟨_, rfl⟩
  obtain ⟨S4, h4⟩ : ∃ l, (bif hC k then S3.drop 4 else S3) = l := ⟨_, rfl⟩
  have hN := need_of k fl xs hsz hpad h1 h2 h3 h4
  have hF : readP k fl 0 xs = ⟨k, ((0 : Nat) : Int), hE k && fl.testBit 0, hH k && fl.testBit 2, hA k && fl.testBit 0, hR k && fl.testBit 5, bif hB k then S4 else [], bif hF k then (fl : Int) else 0, ((bif padded k fl then (xs.headD 0).toNat + 1 else 0 : Nat) : Int),
      bif withP k fl || hW k then (low (num (S1.take 4)) : Int) else 0, (withP k fl || hW k) && hi31 (num (S1.take 4)), bif withP k fl || hW k then ((S1.drop 4).headD 0).toNat + 1 else 0, bif hC k then num (S3.take 4) else 0, bif hL k then settsN (S4.length / 6) S4 else [],
      bif hT k then (low (num (S2.take 4)) : Int) else 0, bif hI k then (low (num (S4.take 4)) : Int) else 0⟩ := by
    subst h4 h3 h2 h1
    rfl
  rw [hF]
  clear hF hsz hpad
  have b0 : (bits .and .i64 (fl : Int) 1 != 0) = fl.testBit 0 := and_pow fl 0 (by omega) (by omega)
  have b2 : (bits .and .i64 (fl : Int) 4 != 0) = fl.testBit 2 := and_pow fl 2 (by omega) (by omega)
  have b3 : (bits .and .i64 (fl : Int) 8 != 0) = fl.testBit 3 := and_pow fl 3 (by omega) (by omega)
  have b5 : (bits .and .i64 (fl : Int) 32 != 0) = fl.testBit 5 := and_pow fl 5 (by omega) (by omega)
  obtain ⟨t0, ht0⟩ : ∃ b, fl.testBit 0 = b := ⟨_, rfl⟩
  obtain ⟨t2, ht2⟩ : ∃ b, fl.testBit 2 = b := ⟨_, rfl⟩
  obtain ⟨t3, ht3⟩ : ∃ b, fl.testBit 3 = b := ⟨_, rfl⟩
  obtain ⟨t5, ht5⟩ : ∃ b, fl.testBit 5 = b := ⟨_, rfl⟩
  have hpd : padded k fl = (hP k && t3) := by unfold padded; rw [ht3]
  have hwp : withP k fl = (hR k && t5) := by unfold withP; rw [ht5]
  rw [ht0] at b0
  rw [ht2] at b2
  rw [ht3] at b3
  rw [ht5] at b5
  rw [hpd, hwp, ht0, ht2, ht5]
  rw [hpd, hwp] at hN
  rw [hpd] at h1
  rw [hwp] at h2
  obtain ⟨ve, hve⟩ : ∃ b, hE k = b := ⟨_, rfl⟩
  have Ve := Lib.hid hve
  obtain ⟨vh, hvh⟩ : ∃ b, hH k = b := ⟨_, rfl⟩
  have Vh := Lib.hid hvh
  obtain ⟨va, hva⟩ : ∃ b, hA k = b := ⟨_, rfl⟩
  have Va := Lib.hid hva
  obtain ⟨vr, hvr⟩ : ∃ b, hR k = b := ⟨_, rfl⟩
  have Vr := Lib.hid hvr
  obtain ⟨vb, hvb⟩ : ∃ b, hB k = b := ⟨_, rfl⟩
  have Vb := Lib.hid hvb
  obtain ⟨vf, hvf⟩ : ∃ b, hF k = b := ⟨_, rfl⟩
  have Vf := Lib.hid hvf
  obtain ⟨vp, hvp⟩ : ∃ b, hP k = b := ⟨_, rfl⟩
  have Vp := Lib.hid hvp
  obtain ⟨vc, hvc⟩ : ∃ b, hC k = b := ⟨_, rfl⟩
  have Vc := Lib.hid hvc
  obtain ⟨vl, hvl⟩ : ∃ b, hL k = b := ⟨_, rfl⟩
  have Vl := Lib.hid hvl
  obtain ⟨vt, hvt⟩ : ∃ b, hT k = b := ⟨_, rfl⟩
  have Vt := Lib.hid hvt
  obtain ⟨vi, hvi⟩ : ∃ b, hI k = b := ⟨_, rfl⟩
  have Vi := Lib.hid hvi
  obtain ⟨vw, hvw⟩ : ∃ b, hW k = b := ⟨_, rfl⟩
  have Vw := Lib.hid hvw
  rw [hve, hvh, hva, hvr, hvb, hvf, hvp, hvw, hvc, hvl, hvt, hvi]
  have evl : vl = false := hvl.symm.trans hk4
  rw [hvp] at h1
  rw [hvr, hvw] at h2
  rw [hvt] at h3
  rw [hvc] at h4
  obtain ⟨n0, n1, n2, n3, n4, n5, le1, le2, le3, le4⟩ := hN
  rw [hvp] at n0
  rw [hvr, hvw] at n1
  rw [hvt] at n2
  rw [hvc] at n3
  rw [hvi] at n4
  rw [hvl] at n5
  subst evl
  have H1 := Lib.hid h1
  have H2 := Lib.hid h2
  have H3 := Lib.hid h3
  have H4 := Lib.hid h4
  have K0 := Lib.hid n0
  have K1 := Lib.hid n1
  have K2 := Lib.hid n2
  have K3 := Lib.hid n3
  have K4 := Lib.hid n4
  have K5 := Lib.hid n5
  have L1 := Lib.hid le1
  have L2 := Lib.hid le2
  have L3 := Lib.hid le3
  have L4 := Lib.hid le4
  have N0 : Hid ((0 : Int) = ((0 : Nat) : Int)) := rfl
  have N4 : Hid ((4 : Int) = ((4 : Nat) : Int)) := rfl
  have S0 := Lib.hid ((St.nil (fun _ => False) w).block 27 zero16)
  clear h1 h2 h3 h4 n0 n1 n2 n3 n4 n5 le1 le2 le3 le4 hpd hwp ht0 ht2 ht3 ht5 hve hvh hva hvr hvb hvf hvp hvc hvl hvt hvi hvw

  obtain ⟨x0, hx0⟩ : ∃ x, xs.headD 0 = x := ⟨_, rfl⟩
  obtain ⟨FLG, hFLG⟩ : ∃ z : Int, (bif vf then (fl : Int) else 0) = z := ⟨_, rfl⟩
  obtain ⟨PN, hPN⟩ : ∃ n : Nat, (bif vp && t3 then x0.toNat + 1 else 0) = n := ⟨_, rfl⟩
  obtain ⟨PR, hPR⟩ : ∃ b, (vr && t5) = b := ⟨_, rfl⟩
  rw [hPR] at H2 K1
  obtain ⟨wB, hwB⟩ : ∃ b, (PR || vw) = b := ⟨_, rfl⟩
  rw [hwB] at H2 K1
  obtain ⟨D, hD⟩ : ∃ n, num (S1.take 4) = n := ⟨_, rfl⟩
  obtain ⟨LD, hLD⟩ : ∃ n, low D = n := ⟨_, rfl⟩
  obtain ⟨x4, hx4⟩ : ∃ x, (S1.drop 4).headD 0 = x := ⟨_, rfl⟩
  obtain ⟨DEP, hDEP⟩ : ∃ z : Int, (bif wB then (LD : Int) else 0) = z := ⟨_, rfl⟩
  obtain ⟨EXC, hEXC⟩ : ∃ b, (wB && hi31 D) = b := ⟨_, rfl⟩
  obtain ⟨WEI, hWEI⟩ : ∃ z : Int, (bif wB then (x4.toNat : Int) + 1 else 0) = z := ⟨_, rfl⟩
  obtain ⟨DL, hDL⟩ : ∃ n, num (S2.take 4) = n := ⟨_, rfl⟩
  obtain ⟨LL, hLL⟩ : ∃ n, low DL = n := ⟨_, rfl⟩
  obtain ⟨LAS, hLAS⟩ : ∃ z : Int, (bif vt then (LL : Int) else 0) = z := ⟨_, rfl⟩
  obtain ⟨DC, hDC⟩ : ∃ n, num (S3.take 4) = n := ⟨_, rfl⟩
  obtain ⟨COD, hCOD⟩ : ∃ n, (bif vc then DC else 0) = n := ⟨_, rfl⟩
  obtain ⟨DI, hDI⟩ : ∃ n, num (S4.take 4) = n := ⟨_, rfl⟩
  obtain ⟨LI, hLI⟩ : ∃ n, low DI = n := ⟨_, rfl⟩
  obtain ⟨LST, hLST⟩ : ∃ l, (bif false then settsN (S4.length / 6) S4 else []) = l := ⟨_, rfl⟩
  obtain ⟨LN, hLN⟩ : ∃ n, LST.length = n := ⟨_, rfl⟩
  obtain ⟨PAY, hPAY⟩ : ∃ l, (bif vb then S4 else []) = l := ⟨_, rfl⟩
  obtain ⟨PL, hPL⟩ : ∃ n, PAY.length = n := ⟨_, rfl⟩
  obtain ⟨INC, hINC⟩ : ∃ z : Int, (bif vi then (LI : Int) else 0) = z := ⟨_, rfl⟩
  have hS2 : (bif wB then S1.drop 5 else S1) = S2 := H2.out
  have hGW : (PR = true ∧ wB = true) ∨ (PR = false ∧ k = 2 ∧ wB = true) ∨ (PR = false ∧ ¬ k = 2 ∧ wB = false) := by
    have h := Vw.out
    cases PR
    · right
      by_cases h2 : k = 2
      · left; refine ⟨rfl, h2, ?_⟩; rw [← hwB, ← h, h2]; rfl
      · right; refine ⟨rfl, h2, ?_⟩; rw [← hwB, ← h]; simp [hW, h2]
    · left; exact ⟨rfl, by rw [← hwB]; rfl⟩
  have GW := Lib.hid hGW
  rw [hx0, hFLG, hPN, hPR, hwB, hD, hLD, hx4, hDEP, hEXC, hDL, hLL, hLAS, hDC, hCOD, hDI, hLI, hINC, hLST, hPAY]
  have e1 : ((bif wB then x4.toNat + 1 else 0 : Nat) : Int) = WEI := by rw [← hWEI]; cases wB <;> simp
  have Qx0 := Lib.hid hx0
  have QFLG := Lib.hid hFLG
  have QPN := Lib.hid hPN
  have QPR := Lib.hid hPR
  have QD := Lib.hid hD
  have QLD := Lib.hid hLD
  have Qx4 := Lib.hid hx4
  have QDEP := Lib.hid hDEP
  have QEXC := Lib.hid hEXC
  have QWEI := Lib.hid hWEI
  have QDL := Lib.hid hDL
  have QLL := Lib.hid hLL
  have QLAS := Lib.hid hLAS
  have QDC := Lib.hid hDC
  have QCOD := Lib.hid hCOD
  have QDI := Lib.hid hDI
  have QLI := Lib.hid hLI
  have QINC := Lib.hid hINC
  have QLST := Lib.hid hLST
  have QLN := Lib.hid hLN
  have QPAY := Lib.hid hPAY
  have QPL := Lib.hid hPL
  clear hx0 hFLG hPN hPR hwB hD hLD hx4 hDEP hEXC hWEI hDL hLL hLAS hDC hCOD hDI hLI hINC hS2 hGW hLST hLN hPAY hPL
  go_enter Tryd.func49, Tryd.ntmps49
  go_upto_region 3 with (first
    | (go_at_call 48; (with_reducible refine (has_c k _).mono ?_); rintro e w1 ⟨rfl, hb⟩
       have SH := Lib.hid (S0.out.next hb)
       clear hb
       have SG := Lib.hid (SH.out.block 27 [(.int .i64 (k : Int)), (.int .i64 0), (.bool false), (.bool false), (.bool false), (.bool false), (.slice none 0 0), (.int .i64 0), (.int .i64 0), (.int .i64 0), (.bool false), (.int .i64 0), (.int .u32 0), (.slice none 0 0), (.int .i64 0), (.int .i64 0)])
       clear SH S0))
  generalize w1.alloc (.cells ([(.int .i64 (k : Int)), (.int .i64 0), (.bool false), (.bool false), (.bool false), (.bool false), (.slice none 0 0), (.int .i64 0), (.int .i64 0), (.int .i64 0), (.bool false), (.int .i64 0), (.int .u32 0), (.slice none 0 0), (.int .i64 0), (.int .i64 0)] : List Value).toArray 27) = w2 at SG ⊢
  generalize w1.heap.size = g at SG ⊢
  have HS : Hid (St (fun _ => False) w w2 [BLo w.heap.size 27 zero16, BLo g 27 [(.int .i64 (k : Int)), (.int .i64 0), (.bool false), (.bool false), (.bool false), (.bool false), (.slice none 0 0), (.int .i64 0), (.int .i64 0), (.int .i64 0), (.bool false), (.int .i64 0), (.int .u32 0), (.slice none 0 0), (.int .i64 0), (.int .i64 0)]]) := SG
  clear SG
  go_cut [2] (fun s wx => s = .string ⟨xs.toArray⟩ ∧ St (fun _ => False) w wx [BLo w.heap.size 27 zero16, BLo g 27 [(.int .i64 (k : Int)), (.int .i64 0), (.bool (ve && t0)), (.bool false), (.bool false), (.bool false), (.slice none 0 0), (.int .i64 0), (.int .i64 0), (.int .i64 0), (.bool false), (.int .i64 0), (.int .u32 0), (.slice none 0 0), (.int .i64 0), (.int .i64 0)]])
  case first =>
    as_aux_lemma =>
      have hb := St.blk1 HS.out
      have hlt := hb.lt
      have hf2 := hb.frozen 2
      have hc2 := hb.cell 2
      simp only [List.getElem?_cons_zero, List.getElem?_cons_succ] at hc2
      clear hb
      cases ve
      · have HS2 := Lib.hid (St.set1 HS.out 2 (.bool false))
        go_wp2_with (first
          | (go_at_call 47; (with_reducible refine (ltr_e k _ Ve.out _).mono ?_); rintro e w2 ⟨rfl, rfl⟩))
        go_meet
        case rel => exact ⟨rfl, HS2.out⟩
      · have HS2 := Lib.hid (St.set1 HS.out 2 (.bool t0))
        go_wp2_with (first
          | (go_at_call 47; (with_reducible refine (ltr_e k _ Ve.out _).mono ?_); rintro e w2 ⟨rfl, rfl⟩))
        go_meet
        case rel => exact ⟨rfl, HS2.out⟩
  case rest =>
  obtain ⟨rfl, hs⟩ := hcut
  clear HS
  have HS := Lib.hid hs
  clear hs
  go_step
  go_step
  go_cut [2] (fun s wx => s = .string ⟨xs.toArray⟩ ∧ St (fun _ => False) w wx [BLo w.heap.size 27 zero16, BLo g 27 [(.int .i64 (k : Int)), (.int .i64 0), (.bool (ve && t0)), (.bool false), (.bool (va && t0)), (.bool false), (.slice none 0 0), (.int .i64 0), (.int .i64 0), (.int .i64 0), (.bool false), (.int .i64 0), (.int .u32 0), (.slice none 0 0), (.int .i64 0), (.int .i64 0)]])
  case first =>
    as_aux_lemma =>
      have hb := St.blk1 HS.out
      have hlt := hb.lt
      have hf4 := hb.frozen 4
      have hc4 := hb.cell 4
      simp only [List.getElem?_cons_zero, List.getElem?_cons_succ] at hc4
      clear hb
      cases va
      · have HS2 := Lib.hid (St.set1 HS.out 4 (.bool false))
        go_wp2_with (first
          | (go_at_call 47; (with_reducible refine (ltr_a k _ Va.out _).mono ?_); rintro e w2 ⟨rfl, rfl⟩))
        go_meet
        case rel => exact ⟨rfl, HS2.out⟩
      · have HS2 := Lib.hid (St.set1 HS.out 4 (.bool t0))
        go_wp2_with (first
          | (go_at_call 47; (with_reducible refine (ltr_a k _ Va.out _).mono ?_); rintro e w2 ⟨rfl, rfl⟩))
        go_meet
        case rel => exact ⟨rfl, HS2.out⟩
  case rest =>
  obtain ⟨rfl, hs⟩ := hcut
  clear HS
  have HS := Lib.hid hs
  clear hs
  go_step
  go_step
  go_cut [2] (fun s wx => s = .string ⟨xs.toArray⟩ ∧ St (fun _ => False) w wx [BLo w.heap.size 27 zero16, BLo g 27 [(.int .i64 (k : Int)), (.int .i64 0), (.bool (ve && t0)), (.bool (vh && t2)), (.bool (va && t0)), (.bool false), (.slice none 0 0), (.int .i64 0), (.int .i64 0), (.int .i64 0), (.bool false), (.int .i64 0), (.int .u32 0), (.slice none 0 0), (.int .i64 0), (.int .i64 0)]])
  case first =>
    as_aux_lemma =>
      have hb := St.blk1 HS.out
      have hlt := hb.lt
      have hf3 := hb.frozen 3
      have hc3 := hb.cell 3
      simp only [List.getElem?_cons_zero, List.getElem?_cons_succ] at hc3
      clear hb
      cases vh
      · have HS2 := Lib.hid (St.set1 HS.out 3 (.bool false))
        go_wp2_with (first
          | (go_at_call 47; (with_reducible refine (ltr_h k _ Vh.out _).mono ?_); rintro e w2 ⟨rfl, rfl⟩))
        go_meet
        case rel => exact ⟨rfl, HS2.out⟩
      · have HS2 := Lib.hid (St.set1 HS.out 3 (.bool t2))
        go_wp2_with (first
          | (go_at_call 47; (with_reducible refine (ltr_h k _ Vh.out _).mono ?_); rintro e w2 ⟨rfl, rfl⟩))
        go_meet
        case rel => exact ⟨rfl, HS2.out⟩
  case rest =>
  obtain ⟨rfl, hs⟩ := hcut
  clear HS
  have HS := Lib.hid hs
  clear hs
  go_step
  go_step
  go_cut [2] (fun s wx => s = .string ⟨xs.toArray⟩ ∧ St (fun _ => False) w wx [BLo w.heap.size 27 zero16, BLo g 27 [(.int .i64 (k : Int)), (.int .i64 0), (.bool (ve && t0)), (.bool (vh && t2)), (.bool (va && t0)), (.bool PR), (.slice none 0 0), (.int .i64 0), (.int .i64 0), (.int .i64 0), (.bool false), (.int .i64 0), (.int .u32 0), (.slice none 0 0), (.int .i64 0), (.int .i64 0)]])
  case first =>
    as_aux_lemma =>
      have hb := St.blk1 HS.out
      have hlt := hb.lt
      have hf5 := hb.frozen 5
      have hc5 := hb.cell 5
      simp only [List.getElem?_cons_zero, List.getElem?_cons_succ] at hc5
      clear hb
      cases vr
      · have HS2 := Lib.hid (St.set1 HS.out 5 (.bool false))
        have h := QPR.out
        subst h
        go_wp2_with (first
          | (go_at_call 47; (with_reducible refine (ltr_r k _ Vr.out _).mono ?_); rintro e w2 ⟨rfl, rfl⟩))
        go_meet
        case rel => exact ⟨rfl, HS2.out⟩
      · have HS2 := Lib.hid (St.set1 HS.out 5 (.bool t5))
        have h := QPR.out
        subst h
        go_wp2_with (first
          | (go_at_call 47; (with_reducible refine (ltr_r k _ Vr.out _).mono ?_); rintro e w2 ⟨rfl, rfl⟩))
        go_meet
        case rel => exact ⟨rfl, HS2.out⟩
  case rest =>
  obtain ⟨rfl, hs⟩ := hcut
  clear HS
  have HS := Lib.hid hs
  clear hs
  go_step
  go_step
  go_cut [2] (fun s wx => s = .string ⟨xs.toArray⟩ ∧ St (fun _ => False) w wx [BLo w.heap.size 27 zero16, BLo g 27 [(.int .i64 (k : Int)), (.int .i64 0), (.bool (ve && t0)), (.bool (vh && t2)), (.bool (va && t0)), (.bool PR), (.slice none 0 0), (.int .i64 FLG), (.int .i64 0), (.int .i64 0), (.bool false), (.int .i64 0), (.int .u32 0), (.slice none 0 0), (.int .i64 0), (.int .i64 0)]])
  case first =>
    as_aux_lemma =>
      have hb := St.blk1 HS.out
      have hlt := hb.lt
      have hf7 := hb.frozen 7
      have hc7 := hb.cell 7
      simp only [List.getElem?_cons_zero, List.getElem?_cons_succ] at hc7
      clear hb
      cases vf
      · have h := QFLG.out
        subst h
        go_wp2_with (first
          | (go_at_call 47; (with_reducible refine (ltr_f k _ Vf.out _).mono ?_); rintro e w2 ⟨rfl, rfl⟩))
        go_meet
        case rel => exact ⟨rfl, HS.out⟩
      · have h := QFLG.out
        subst h
        have HS2 := Lib.hid (St.set1 HS.out 7 (.int .i64 (fl : Int)))
        go_wp2_with (first
          | (go_at_call 47; (with_reducible refine (ltr_f k _ Vf.out _).mono ?_); rintro e w2 ⟨rfl, rfl⟩))
        go_meet
        case rel => exact ⟨rfl, HS2.out⟩
  case rest =>
  obtain ⟨rfl, hs⟩ := hcut
  clear HS
  have HS := Lib.hid hs
  clear hs
  go_step
  go_step
  go_cut [2] (fun s wx => s = .string ⟨S1.toArray⟩ ∧ St (fun _ => False) w wx [BLo w.heap.size 27 zero16, BLo g 27 [(.int .i64 (k : Int)), (.int .i64 0), (.bool (ve && t0)), (.bool (vh && t2)), (.bool (va && t0)), (.bool PR), (.slice none 0 0), (.int .i64 FLG), (.int .i64 (PN : Int)), (.int .i64 0), (.bool false), (.int .i64 0), (.int .u32 0), (.slice none 0 0), (.int .i64 0), (.int .i64 0)]])
  case first =>
    as_aux_lemma =>
      have hb := St.blk1 HS.out
      have hlt := hb.lt
      have hf8 := hb.frozen 8
      have hc8 := hb.cell 8
      simp only [List.getElem?_cons_zero, List.getElem?_cons_succ] at hc8
      clear hb
      cases vp
      · have h := QPN.out
        subst h
        have hrel : xs = S1 := H1.out
        have HREL := Lib.hid hrel
        clear hrel
        go_wp2_with (first
          | (go_at_call 47; (with_reducible refine (ltr_p k _ Vp.out _).mono ?_); rintro e w2 ⟨rfl, rfl⟩))
        go_meet
        case rel => exact ⟨st_eq (by rw [HREL.out]), HS.out⟩
      · cases t3
        · have h := QPN.out
          subst h
          have hrel : xs = S1 := H1.out
          have HREL := Lib.hid hrel
          clear hrel
          go_wp2_with (first
            | (go_at_call 47; (with_reducible refine (ltr_p k _ Vp.out _).mono ?_); rintro e w2 ⟨rfl, rfl⟩))
          go_meet
          case rel => exact ⟨st_eq (by rw [HREL.out]), HS.out⟩
        · have h := QPN.out
          obtain ⟨q1, q2⟩ := K0.out rfl
          rw [Qx0.out] at q2
          have hx0 : xs[0]? = some x0 := by
            have e := Qx0.out
            cases xs with
            | nil => simp at q1
            | cons a l => simp at e; simp [e]
          have hel := ba_el xs 0 x0 hx0
          have hl8 := x0.toNat_lt
          have u1 : IntKind.i64.wrap (x0.toNat : Int) = (x0.toNat : Int) := i64w (by omega)
          have u2 : IntKind.i64.wrap ((x0.toNat : Int) + 1) = (PN : Int) := by rw [← h, i64w (by omega)]; rfl
          obtain ⟨q, hq⟩ : ∃ q, xs.length - x0.toNat = q := ⟨_, rfl⟩
          have e3 : (xs.length : Int) - (x0.toNat : Int) = (q : Int) := by omega
          have u3 : IntKind.i64.wrap (q : Int) = (q : Int) := i64w (by omega)
          have q3 : 1 ≤ q := by omega
          have q4 : q ≤ xs.length := by omega
          have hrel : (xs.drop 1).take (q - 1) = S1 := by
            have e := H1.out
            unfold unpad at e
            rw [Qx0.out] at e
            rw [← e, ← hq, show xs.length - x0.toNat - 1 = xs.length - 1 - x0.toNat by omega]
            rfl
          have HREL := Lib.hid hrel
          have HS2 := Lib.hid (St.set1 HS.out 8 (.int .i64 (PN : Int)))
          clear h hx0 hl8 hq hrel q2
          go_wp2_with (first
            | (go_at_call 47; (with_reducible refine (ltr_p k _ Vp.out _).mono ?_); rintro e w2 ⟨rfl, rfl⟩))
          go_meet
          case rel => exact ⟨st_eq (by rw [ba_ext, HREL.out]), HS2.out⟩
  case rest =>
  obtain ⟨rfl, hs⟩ := hcut
  clear HS
  have HS := Lib.hid hs
  clear hs
  go_step
  go_step
  go_cut [2] (fun s wx => s = .string ⟨S2.toArray⟩ ∧ St (fun _ => False) w wx [BLo w.heap.size 27 zero16, BLo g 27 [(.int .i64 (k : Int)), (.int .i64 0), (.bool (ve && t0)), (.bool (vh && t2)), (.bool (va && t0)), (.bool PR), (.slice none 0 0), (.int .i64 FLG), (.int .i64 (PN : Int)), (.int .i64 DEP), (.bool EXC), (.int .i64 WEI), (.int .u32 0), (.slice none 0 0), (.int .i64 0), (.int .i64 0)]])
  case first =>
    as_aux_lemma =>
      have hb := St.blk1 HS.out
      have hlt := hb.lt
      have hf5 := hb.frozen 5
      have hc5 := hb.cell 5
      have hf9 := hb.frozen 9
      have hc9 := hb.cell 9
      have hf10 := hb.frozen 10
      have hc10 := hb.cell 10
      have hf11 := hb.frozen 11
      have hc11 := hb.cell 11
      simp only [List.getElem?_cons_zero, List.getElem?_cons_succ] at hc5 hc9 hc10 hc11
      clear hb
      rcases GW.out with ⟨rfl, rfl⟩ | ⟨rfl, h2, rfl⟩ | ⟨rfl, h2, rfl⟩
      · skip
        obtain ⟨hlow, hl5⟩ : LD < 2147483648 ∧ 5 ≤ S1.length := ⟨by rw [← QLD.out]; exact Nat.mod_lt _ (by omega), K1.out rfl⟩
        have HL : Hid (0 + 4 ≤ S1.length) := by show _ ≤ _; omega
        have D0 : Hid (num ((S1.drop 0).take 4) = D) := QD.out
        have Db : Hid (D < 18446744073709551616) := by
          have h := num_take_lt S1 4
          rw [QD.out] at h
          show D < _
          omega
        have SX : Hid (S1.length ≤ 140737488355328) := by have := L1.out; show _ ≤ _; omega
        have hx4 : S1[4]? = some x4 := by
          have e := Qx4.out
          rw [List.headD_eq_head?_getD, List.head?_drop] at e
          rw [List.getElem?_eq_getElem (by omega)] at e ⊢
          simpa using e
        have hel := ba_el S1 4 x4 hx4
        have h4l : 4 < S1.length := by omega
        have hx8 := x4.toNat_lt
        have u1 : IntKind.i64.wrap (x4.toNat : Int) = (x4.toNat : Int) := i64w (by omega)
        have hW := QWEI.out
        have u2 : IntKind.i64.wrap ((x4.toNat : Int) + 1) = WEI := by rw [← hW, i64w (by omega)]; rfl
        have hX := QEXC.out
        have u3 : decide ((2147483648 : Int) ≤ (D : Int)) = EXC := by rw [← hX]; simp [hi31]; omega
        have u4 : decide (2147483648 ≤ D) = EXC := by rw [← hX]; rfl
        have hDE : (LD : Int) = DEP := QDEP.out
        have hrel : (S1.drop 5).take (S1.length - 5) = S2 := by
          have e : S1.drop 5 = S2 := H2.out
          rw [List.take_of_length_le (by rw [List.length_drop]; exact Nat.le_refl _), e]
        have HREL := Lib.hid hrel
        subst hDE
        have HS2 := Lib.hid (St.set1 (St.set1 (St.set1 HS.out 9 (.int .i64 (LD : Int))) 10 (.bool EXC)) 11 (.int .i64 WEI))
        clear hx4 hx8 hW hX hrel
        go_wp2_with (first
          | (go_at_call 42; (with_reducible refine (get_w S1 0 4 _ _ N0.out N4.out HL.out SX.out (by omega) D D0.out _).mono ?_); rintro e w3 ⟨rfl, rfl⟩)
          | (go_at_call 43; (with_reducible refine (low_w D LD QLD.out Db.out _).mono ?_); rintro e w4 ⟨rfl, rfl⟩))
        go_meet
        case rel => exact ⟨st_eq (by rw [ba_ext, HREL.out]), HS2.out⟩
      · have hq : ((k : Int) == 2) = true := by simp; omega
        clear h2
        obtain ⟨hlow, hl5⟩ : LD < 2147483648 ∧ 5 ≤ S1.length := ⟨by rw [← QLD.out]; exact Nat.mod_lt _ (by omega), K1.out rfl⟩
        have HL : Hid (0 + 4 ≤ S1.length) := by show _ ≤ _; omega
        have D0 : Hid (num ((S1.drop 0).take 4) = D) := QD.out
        have Db : Hid (D < 18446744073709551616) := by
          have h := num_take_lt S1 4
          rw [QD.out] at h
          show D < _
          omega
        have SX : Hid (S1.length ≤ 140737488355328) := by have := L1.out; show _ ≤ _; omega
        have hx4 : S1[4]? = some x4 := by
          have e := Qx4.out
          rw [List.headD_eq_head?_getD, List.head?_drop] at e
          rw [List.getElem?_eq_getElem (by omega)] at e ⊢
          simpa using e
        have hel := ba_el S1 4 x4 hx4
        have h4l : 4 < S1.length := by omega
        have hx8 := x4.toNat_lt
        have u1 : IntKind.i64.wrap (x4.toNat : Int) = (x4.toNat : Int) := i64w (by omega)
        have hW := QWEI.out
        have u2 : IntKind.i64.wrap ((x4.toNat : Int) + 1) = WEI := by rw [← hW, i64w (by omega)]; rfl
        have hX := QEXC.out
        have u3 : decide ((2147483648 : Int) ≤ (D : Int)) = EXC := by rw [← hX]; simp [hi31]; omega
        have u4 : decide (2147483648 ≤ D) = EXC := by rw [← hX]; rfl
        have hDE : (LD : Int) = DEP := QDEP.out
        have hrel : (S1.drop 5).take (S1.length - 5) = S2 := by
          have e : S1.drop 5 = S2 := H2.out
          rw [List.take_of_length_le (by rw [List.length_drop]; exact Nat.le_refl _), e]
        have HREL := Lib.hid hrel
        subst hDE
        have HS2 := Lib.hid (St.set1 (St.set1 (St.set1 HS.out 9 (.int .i64 (LD : Int))) 10 (.bool EXC)) 11 (.int .i64 WEI))
        clear hx4 hx8 hW hX hrel
        go_wp2_with (first
          | (go_at_call 42; (with_reducible refine (get_w S1 0 4 _ _ N0.out N4.out HL.out SX.out (by omega) D D0.out _).mono ?_); rintro e w3 ⟨rfl, rfl⟩)
          | (go_at_call 43; (with_reducible refine (low_w D LD QLD.out Db.out _).mono ?_); rintro e w4 ⟨rfl, rfl⟩))
        go_meet
        case rel => exact ⟨st_eq (by rw [ba_ext, HREL.out]), HS2.out⟩
      · have hq : ((k : Int) == 2) = false := by simp; omega
        have h5 := QDEP.out
        have h6 := QEXC.out
        have h7 := QWEI.out
        have hrel : S1 = S2 := H2.out
        have HREL := Lib.hid hrel
        subst h5 h6 h7
        clear h2 hrel
        go_wp2
        go_meet
        case rel => exact ⟨st_eq (by rw [HREL.out]), HS.out⟩
  case rest =>
  obtain ⟨rfl, hs⟩ := hcut
  clear HS
  have HS := Lib.hid hs
  clear hs
  go_step
  go_step
  go_cut [2] (fun s wx => s = .string ⟨S3.toArray⟩ ∧ St (fun _ => False) w wx [BLo w.heap.size 27 zero16, BLo g 27 [(.int .i64 (k : Int)), (.int .i64 0), (.bool (ve && t0)), (.bool (vh && t2)), (.bool (va && t0)), (.bool PR), (.slice none 0 0), (.int .i64 FLG), (.int .i64 (PN : Int)), (.int .i64 DEP), (.bool EXC), (.int .i64 WEI), (.int .u32 0), (.slice none 0 0), (.int .i64 LAS), (.int .i64 0)]])
  case first =>
    as_aux_lemma =>
      have hb := St.blk1 HS.out
      have hlt := hb.lt
      have hf14 := hb.frozen 14
      have hc14 := hb.cell 14
      simp only [List.getElem?_cons_zero, List.getElem?_cons_succ] at hc14
      clear hb
      cases vt
      · have h := QLAS.out
        subst h
        have hrel : S2 = S3 := H3.out
        have HREL := Lib.hid hrel
        clear hrel
        go_wp2_with (first
          | (go_at_call 47; (with_reducible refine (ltr_t k _ Vt.out _).mono ?_); rintro e w2 ⟨rfl, rfl⟩))
        go_meet
        case rel => exact ⟨st_eq (by rw [HREL.out]), HS.out⟩
      · have hl4 : 4 ≤ S2.length := K2.out rfl
        have HL : Hid (0 + 4 ≤ S2.length) := by show _ ≤ _; omega
        have DL0 : Hid (num ((S2.drop 0).take 4) = DL) := QDL.out
        have DLb : Hid (DL < 18446744073709551616) := by
          have h := num_take_lt S2 4
          rw [QDL.out] at h
          show DL < _
          omega
        have SX : Hid (S2.length ≤ 140737488355328) := by have := L2.out; show _ ≤ _; omega
        have hlow : LL < 2147483648 := by rw [← QLL.out]; exact Nat.mod_lt _ (by omega)
        have hC : (LL : Int) = LAS := QLAS.out
        subst hC
        have HS2 := Lib.hid (St.set1 HS.out 14 (.int .i64 (LL : Int)))
        have hrel : (S2.drop 4).take (S2.length - 4) = S3 := by
          have e : S2.drop 4 = S3 := H3.out
          rw [List.take_of_length_le (by rw [List.length_drop]; exact Nat.le_refl _), e]
        have HREL := Lib.hid hrel
        clear hrel
        go_wp2_with (first
          | (go_at_call 47; (with_reducible refine (ltr_t k _ Vt.out _).mono ?_); rintro e w2 ⟨rfl, rfl⟩)
          | (go_at_call 42; (with_reducible refine (get_w S2 0 4 _ _ N0.out N4.out HL.out SX.out (by omega) DL DL0.out _).mono ?_); rintro e w3 ⟨rfl, rfl⟩)
          | (go_at_call 43; (with_reducible refine (low_w DL LL QLL.out DLb.out _).mono ?_); rintro e w4 ⟨rfl, rfl⟩))
        go_meet
        case rel => exact ⟨st_eq (by rw [ba_ext, HREL.out]), HS2.out⟩
  case rest =>
  obtain ⟨rfl, hs⟩ := hcut
  clear HS
  have HS := Lib.hid hs
  clear hs
  go_step
  go_step
  go_cut [2] (fun s wx => s = .string ⟨S4.toArray⟩ ∧ St (fun _ => False) w wx [BLo w.heap.size 27 zero16, BLo g 27 [(.int .i64 (k : Int)), (.int .i64 0), (.bool (ve && t0)), (.bool (vh && t2)), (.bool (va && t0)), (.bool PR), (.slice none 0 0), (.int .i64 FLG), (.int .i64 (PN : Int)), (.int .i64 DEP), (.bool EXC), (.int .i64 WEI), (.int .u32 (COD : Int)), (.slice none 0 0), (.int .i64 LAS), (.int .i64 0)]])
  case first =>
    as_aux_lemma =>
      have hb := St.blk1 HS.out
      have hlt := hb.lt
      have hf12 := hb.frozen 12
      have hc12 := hb.cell 12
      simp only [List.getElem?_cons_zero, List.getElem?_cons_succ] at hc12
      clear hb
      cases vc
      · have h := QCOD.out
        subst h
        have hrel : S3 = S4 := H4.out
        have HREL := Lib.hid hrel
        clear hrel
        go_wp2_with (first
          | (go_at_call 47; (with_reducible refine (ltr_c k _ Vc.out _).mono ?_); rintro e w2 ⟨rfl, rfl⟩))
        go_meet
        case rel => exact ⟨st_eq (by rw [HREL.out]), HS.out⟩
      · have hl4 : 4 ≤ S3.length := K3.out rfl
        have HL : Hid (0 + 4 ≤ S3.length) := by show _ ≤ _; omega
        have DC0 : Hid (num ((S3.drop 0).take 4) = DC) := QDC.out
        have DCb : Hid (DC < 18446744073709551616) := by
          have h := num_take_lt S3 4
          rw [QDC.out] at h
          show DC < _
          omega
        have SX : Hid (S3.length ≤ 140737488355328) := by have := L3.out; show _ ≤ _; omega
        have hC : DC = COD := QCOD.out
        have h32 : DC < 4294967296 := by
          have h := num_take_lt S3 4
          rw [QDC.out] at h
          exact h
        have u1 : IntKind.u32.wrap (DC : Int) = (DC : Int) := by rw [IntKind.wrap_u32]; omega
        subst hC
        have HS2 := Lib.hid (St.set1 HS.out 12 (.int .u32 (DC : Int)))
        have hrel : (S3.drop 4).take (S3.length - 4) = S4 := by
          have e : S3.drop 4 = S4 := H4.out
          rw [List.take_of_length_le (by rw [List.length_drop]; exact Nat.le_refl _), e]
        have HREL := Lib.hid hrel
        clear hrel
        go_wp2_with (first
          | (go_at_call 47; (with_reducible refine (ltr_c k _ Vc.out _).mono ?_); rintro e w2 ⟨rfl, rfl⟩)
          | (go_at_call 42; (with_reducible refine (get_w S3 0 4 _ _ N0.out N4.out HL.out SX.out (by omega) DC DC0.out _).mono ?_); rintro e w3 ⟨rfl, rfl⟩))
        go_meet
        case rel => exact ⟨st_eq (by rw [ba_ext, HREL.out]), HS2.out⟩
  case rest =>
  obtain ⟨rfl, hs⟩ := hcut
  clear HS
  have HS := Lib.hid hs
  clear hs
  go_step
  go_step
  go_cut [2] (fun s wx => s = .string ⟨S4.toArray⟩ ∧ St (fun _ => False) w wx [BLo w.heap.size 27 zero16, BLo g 27 [(.int .i64 (k : Int)), (.int .i64 0), (.bool (ve && t0)), (.bool (vh && t2)), (.bool (va && t0)), (.bool PR), (.slice none 0 0), (.int .i64 FLG), (.int .i64 (PN : Int)), (.int .i64 DEP), (.bool EXC), (.int .i64 WEI), (.int .u32 (COD : Int)), (.slice none 0 0), (.int .i64 LAS), (.int .i64 INC)]])
  case first =>
    as_aux_lemma =>
      have hb := St.blk1 HS.out
      have hlt := hb.lt
      have hf15 := hb.frozen 15
      have hc15 := hb.cell 15
      simp only [List.getElem?_cons_zero, List.getElem?_cons_succ] at hc15
      clear hb
      cases vi
      · have h := QINC.out
        subst h
        skip
        go_wp2_with (first
          | (go_at_call 47; (with_reducible refine (ltr_i k _ Vi.out _).mono ?_); rintro e w2 ⟨rfl, rfl⟩))
        go_meet
        case rel => exact ⟨rfl, HS.out⟩
      · have hl4 : 4 ≤ S4.length := K4.out rfl
        have HL : Hid (0 + 4 ≤ S4.length) := by show _ ≤ _; omega
        have DI0 : Hid (num ((S4.drop 0).take 4) = DI) := QDI.out
        have DIb : Hid (DI < 18446744073709551616) := by
          have h := num_take_lt S4 4
          rw [QDI.out] at h
          show DI < _
          omega
        have SX : Hid (S4.length ≤ 140737488355328) := by have := L4.out; show _ ≤ _; omega
        have hlow : LI < 2147483648 := by rw [← QLI.out]; exact Nat.mod_lt _ (by omega)
        have hC : (LI : Int) = INC := QINC.out
        subst hC
        have HS2 := Lib.hid (St.set1 HS.out 15 (.int .i64 (LI : Int)))
        go_wp2_with (first
          | (go_at_call 47; (with_reducible refine (ltr_i k _ Vi.out _).mono ?_); rintro e w2 ⟨rfl, rfl⟩)
          | (go_at_call 42; (with_reducible refine (get_w S4 0 4 _ _ N0.out N4.out HL.out SX.out (by omega) DI DI0.out _).mono ?_); rintro e w3 ⟨rfl, rfl⟩)
          | (go_at_call 43; (with_reducible refine (low_w DI LI QLI.out DIb.out _).mono ?_); rintro e w4 ⟨rfl, rfl⟩))
        go_meet
        case rel => exact ⟨rfl, HS2.out⟩
  case rest =>
  obtain ⟨rfl, hs⟩ := hcut
  clear HS
  have HS := Lib.hid hs
  clear hs
  go_step
  go_step
  go_cut [2] (fun s wx => s = .string ⟨S4.toArray⟩ ∧ St (fun _ => False) w wx [BLo w.heap.size 27 zero16, BLo g 27 [(.int .i64 (k : Int)), (.int .i64 0), (.bool (ve && t0)), (.bool (vh && t2)), (.bool (va && t0)), (.bool PR), (.slice none 0 0), (.int .i64 FLG), (.int .i64 (PN : Int)), (.int .i64 DEP), (.bool EXC), (.int .i64 WEI), (.int .u32 (COD : Int)), (.slice none 0 0), (.int .i64 LAS), (.int .i64 INC)]])
  case first =>
    as_aux_lemma =>
      go_wp2_with (first
        | (go_at_call 47; (with_reducible refine (ltr_l k _ Vl.out _).mono ?_); rintro e w2 ⟨rfl, rfl⟩))
      go_meet
      case rel => exact ⟨rfl, HS.out⟩
  case rest =>
  obtain ⟨rfl, hs⟩ := hcut
  clear HS
  have HS := Lib.hid hs
  clear hs
  go_step
  go_step
  go_cut [2] (fun s wx => s = .string ⟨S4.toArray⟩ ∧ ∃ A c, St (fun _ => False) w wx [BLo w.heap.size 27 zero16, BLo g 27 [(.int .i64 (k : Int)), (.int .i64 0), (.bool (ve && t0)), (.bool (vh && t2)), (.bool (va && t0)), (.bool PR), (.slice A PL c), (.int .i64 FLG), (.int .i64 (PN : Int)), (.int .i64 DEP), (.bool EXC), (.int .i64 WEI), (.int .u32 (COD : Int)), (.slice none 0 0), (.int .i64 LAS), (.int .i64 INC)], RdO A PL PAY])
  case first =>
    as_aux_lemma =>
      have hb := St.blk1 HS.out
      have hlt := hb.lt
      have hf6 := hb.frozen 6
      have hc6 := hb.cell 6
      simp only [List.getElem?_cons_zero, List.getElem?_cons_succ] at hc6
      clear hb
      cases vb
      · have h := QPAY.out
        subst h
        have h0 : PL = 0 := by rw [← QPL.out]; rfl
        subst h0
        have HS2 := Lib.hid (HS.out.add (rdO_nil _))
        go_wp2_with (first
          | (go_at_call 47; (with_reducible refine (ltr_b k _ Vb.out _).mono ?_); rintro e w2 ⟨rfl, rfl⟩))
        go_meet
        case rel => exact ⟨rfl, none, 0, HS2.out⟩
      · have h := QPAY.out
        have h0 : S4 = PAY := h
        have hl4 := L4.out
        have hlb : S4.length ≤ 16777215 := by omega
        have e0 : S4.length = PL := by rw [h0]; exact QPL.out
        have HE := Lib.hid e0
        have HP := Lib.hid h0
        have HLB := Lib.hid hlb
        clear h h0 hl4 e0 hlb
        go_upto_region 32 with (first
          | (go_at_call 47; (with_reducible refine (ltr_b k _ Vb.out _).mono ?_); rintro e w2 ⟨rfl, rfl⟩))
        go_wp2_with (first
          | (refine wpList_conv_big rfl (.tmp 139) rfl S4 rfl HLB.out ?_
             intro C W1 hM hbW
             have hs1 := HS.out.add (rdO_mk hM hbW)
             simp only [List.cons_append, List.nil_append] at hs1
             have hb1 := St.blk1 hs1
             have hlt1 := hb1.lt
             have hf1 := hb1.frozen 6
             have hc1 := hb1.cell 6
             simp only [List.getElem?_cons_zero, List.getElem?_cons_succ] at hc1
             have HS2 := Lib.hid (St.set1 hs1 6 (.slice (some ⟨w2.heap.size, 0, none⟩) S4.length C))
             clear hs1 hb1 hM hbW))
        have e1 := HE.out
        have e2 := HP.out
        go_meet
        case rel =>
          subst e2
          subst e1
          exact ⟨rfl, some ⟨w2.heap.size, 0, none⟩, C, HS2.out⟩
  case rest =>
  obtain ⟨rfl, A, c, hs⟩ := hcut
  clear HS
  have HS := Lib.hid hs
  clear hs
  have hb := St.blk1 HS.out
  have hlt := hb.lt
  have z0 := hb.cell 0
  have z1 := hb.cell 1
  have z2 := hb.cell 2
  have z3 := hb.cell 3
  have z4 := hb.cell 4
  have z5 := hb.cell 5
  have z6 := hb.cell 6
  have z7 := hb.cell 7
  have z8 := hb.cell 8
  have z9 := hb.cell 9
  have z10 := hb.cell 10
  have z11 := hb.cell 11
  have z12 := hb.cell 12
  have z13 := hb.cell 13
  have z14 := hb.cell 14
  have z15 := hb.cell 15
  simp only [List.getElem?_cons_zero, List.getElem?_cons_succ] at z0 z1 z2 z3 z4 z5 z6 z7 z8 z9 z10 z11 z12 z13 z14 z15
  have hp := St.blk0 HS.out
  have hpl := hp.lt
  have y0 := hp.cell 0
  have y1 := hp.cell 1
  have y2 := hp.cell 2
  have y3 := hp.cell 3
  have y4 := hp.cell 4
  have y5 := hp.cell 5
  have y6 := hp.cell 6
  have y7 := hp.cell 7
  have y8 := hp.cell 8
  have y9 := hp.cell 9
  have y10 := hp.cell 10
  have y11 := hp.cell 11
  have y12 := hp.cell 12
  have y13 := hp.cell 13
  have y14 := hp.cell 14
  have y15 := hp.cell 15
  simp only [zero16, List.getElem?_cons_zero, List.getElem?_cons_succ] at y0 y1 y2 y3 y4 y5 y6 y7 y8 y9 y10 y11 y12 y13 y14 y15
  have fz : ∀ i, _ = false := fun i => hp.frozen i
  clear hb hp
  go_wp2
  have hs2 := (St.set0 (St.set0 (St.set0 (St.set0 (St.set0 (St.set0 (St.set0 (St.set0 (St.set0 (St.set0 (St.set0 (St.set0 (St.set0 (St.set0 (St.set0 (St.set0 HS.out 0 (.int .i64 (k : Int))) 1 (.int .i64 0)) 2 (.bool (ve && t0))) 3 (.bool (vh && t2))) 4 (.bool (va && t0))) 5 (.bool PR)) 6 (.slice A PL c)) 7 (.int .i64 FLG)) 8 (.int .i64 (PN : Int))) 9 (.int .i64 DEP)) 10 (.bool EXC)) 11 (.int .i64 WEI)) 12 (.int .u32 (COD : Int))) 13 (.slice none 0 0)) 14 (.int .i64 LAS)) 15 (.int .i64 INC))
  obtain ⟨wf, hwf⟩ : ∃ wf, ((((((((((((((((wc.setCell ⟨w.heap.size, 0, none⟩ (.int .i64 (k : Int))).setCell ⟨w.heap.size, 1, none⟩ (.int .i64 0)).setCell ⟨w.heap.size, 2, none⟩ (.bool (ve && t0))).setCell ⟨w.heap.size, 3, none⟩ (.bool (vh && t2))).setCell ⟨w.heap.size, 4, none⟩ (.bool (va && t0))).setCell ⟨w.heap.size, 5, none⟩ (.bool PR)).setCell ⟨w.heap.size, 6, none⟩ (.slice A PL c)).setCell ⟨w.heap.size, 7, none⟩ (.int .i64 FLG)).setCell ⟨w.heap.size, 8, none⟩ (.int .i64 (PN : Int))).setCell ⟨w.heap.size, 9, none⟩ (.int .i64 DEP)).setCell ⟨w.heap.size, 10, none⟩ (.bool EXC)).setCell ⟨w.heap.size, 11, none⟩ (.int .i64 WEI)).setCell ⟨w.heap.size, 12, none⟩ (.int .u32 (COD : Int))).setCell ⟨w.heap.size, 13, none⟩ (.slice none 0 0)).setCell ⟨w.heap.size, 14, none⟩ (.int .i64 LAS)).setCell ⟨w.heap.size, 15, none⟩ (.int .i64 INC)) = wf := ⟨_, rfl⟩
  rw [hwf] at hs2 ⊢
  have hB : Blk wf w.heap.size 27 [(.int .i64 (k : Int)), (.int .i64 0), (.bool (ve && t0)), (.bool (vh && t2)), (.bool (va && t0)), (.bool PR), (.slice A PL c), (.int .i64 FLG), (.int .i64 (PN : Int)), (.int .i64 DEP), (.bool EXC), (.int .i64 WEI), (.int .u32 (COD : Int)), (.slice none 0 0), (.int .i64 LAS), (.int .i64 INC)] := St.blk0 hs2
  obtain ⟨F, hF, _, hge, _⟩ := St.focus2 hs2
  have hA : ∀ a, A = some a → w.heap.size ≤ a.block := fun a h => (hge _ (hF.2.1 a h)).resolve_left id
  have hR : Rd wf 1 A PL (PAY.map BV) := hF.1
  have hBW := hs2.below
  clear hs2 hF hwf hge
  have e1 := QWEI.out
  have e2 := QPL.out
  have e3 := QLST.out
  subst e1
  subst e2
  subst e3
  exact bodyPost_ret (res_frame (p := 6) rfl rfl rfl hB) rfl ⟨A, c, none, 0, rfl, hR, Rd.nil _ _ _, hBW, hA, fun a h => by cases h⟩
end Go.Proofs.YtokbdkbljgdcpaaDoor

/- The document's Next: a frame of RST or PRIORITY of a wrong size. -/
namespace Go.Proofs.YtokbdkbljgdcpaaDoor
open Go.RowKit Go.Own Go.Frm
set_option linter.unusedVariables false
set_option linter.unusedSimpArgs false
set_option maxRecDepth 100000
set_option maxHeartbeats 16000000 in
theorem rnx_bad2 {w : World} {p m n k fl s : Nat} {xs : List UInt8} (hin : NxIn w p m xs n k fl s) (h1 : ¬ m < n) (h2 : ¬ xs.length < 9 + n) (h3 : stray k (s : Int) = false) (h4 : badSize k fl n = true) (h5 : ((k : Int) == 2) = true) : Calls Tryd.prog 22 #[.pointer (some ⟨p, 0, none⟩)] w (RNx p m zeroF ⟨true, 6, (s : Int)⟩ true (xs.drop (9 + n)) false w) := by
  obtain ⟨hb, hx, hm, h9, hn, hk, hf, hs⟩ := hin
  have hlx : xs.length ≤ 140737488355328 := by omega
  obtain ⟨x3, h3⟩ : ∃ x, xs[3]? = some x := ⟨_, List.getElem?_eq_getElem (by omega)⟩
  obtain ⟨x4, h4⟩ : ∃ x, xs[4]? = some x := ⟨_, List.getElem?_eq_getElem (by omega)⟩
  have E3 : x3.toNat = k := by rw [← hk]; exact (nx_k xs 3 x3 h3).symm
  have E4 : x4.toNat = fl := by rw [← hf]; exact (nx_k xs 4 x4 h4).symm
  have k8 : k < 256 := by rw [← E3]; exact x3.toNat_lt
  have f8 : fl < 256 := by rw [← E4]; exact x4.toNat_lt
  have i3 := ba_el xs 3 x3 h3
  have i4 := ba_el xs 4 x4 h4
  have n24 : n < 16777216 := by rw [← hn]; exact num_take_lt _ 3
  obtain ⟨v, hv⟩ : ∃ v, num ((xs.drop 5).take 4) = v := ⟨_, rfl⟩
  have v32 : v < 4294967296 := by rw [← hv]; exact num_take_lt _ 4
  have hsv : low v = s := by rw [← hv]; exact hs
  have G1 : Hid (num ((xs.drop 0).take 3) = n) := hn
  have G2 := Lib.hid hv
  have G3 := Lib.hid hsv
  have HLX := Lib.hid hlx
  have N0 : Hid ((0 : Int) = ((0 : Nat) : Int)) := rfl
  have N3 : Hid ((3 : Int) = ((3 : Nat) : Int)) := rfl
  have N4 : Hid ((4 : Int) = ((4 : Nat) : Int)) := rfl
  have N5 : Hid ((5 : Int) = ((5 : Nat) : Int)) := rfl
  have H9 := Lib.hid h9
  have HX24 := Lib.hid hx
  have V64 : Hid (v < 18446744073709551616) := (by omega : v < 18446744073709551616)
  have w1 : IntKind.i64.wrap (n : Int) = (n : Int) := i64w (by omega)
  have w2 : IntKind.i64.wrap (k : Int) = (k : Int) := i64w (by omega)
  have w3 : IntKind.i64.wrap (fl : Int) = (fl : Int) := i64w (by omega)
  have w4 : IntKind.i64.wrap (9 + (n : Int)) = ((9 + n : Nat) : Int) := by rw [i64w (by omega)]; omega
  have t9 : ¬ xs.length < 9 := by omega
  have t3 : 3 < xs.length := by omega
  have t4 : 4 < xs.length := by omega
  have X2 := Lib.hid (blk_new1 w (.cells #[.bool false, .int .u32 0, .int .i64 0] 46) 27 [.int .i64 0, .int .i64 0, .bool false, .bool false, .bool false, .bool false, .slice none 0 0, .int .i64 0, .int .i64 0, .int .i64 0, .bool false, .int .i64 0, .int .u32 0, .slice none 0 0, .int .i64 0, .int .i64 0])
  have Y2 := Lib.hid (blk_new2 w (.cells #[.int .i64 0, .int .i64 0, .bool false, .bool false, .bool false, .bool false, .slice none 0 0, .int .i64 0, .int .i64 0, .int .i64 0, .bool false, .int .i64 0, .int .u32 0, .slice none 0 0, .int .i64 0, .int .i64 0] 27) 46 [.bool false, .int .u32 0, .int .i64 0])
  have K2 := Lib.hid ((hb.alloc (.cells #[.int .i64 0, .int .i64 0, .bool false, .bool false, .bool false, .bool false, .slice none 0 0, .int .i64 0, .int .i64 0, .int .i64 0, .bool false, .int .i64 0, .int .u32 0, .slice none 0 0, .int .i64 0, .int .i64 0] 27)).alloc (.cells #[.bool false, .int .u32 0, .int .i64 0] 46))
  have B2 := Lib.hid (((Below.refl _ w).alloc (Nat.le_refl _) (.cells #[.int .i64 0, .int .i64 0, .bool false, .bool false, .bool false, .bool false, .slice none 0 0, .int .i64 0, .int .i64 0, .int .i64 0, .bool false, .int .i64 0, .int .u32 0, .slice none 0 0, .int .i64 0, .int .i64 0] 27)).alloc (by simp) (.cells #[.bool false, .int .u32 0, .int .i64 0] 46))
  have hpl := Lib.hid hb.lt
  clear hb hn hk hf hs hv hsv h3 h4 hlx hx h9 hm
  go_enter Tryd.func22, Tryd.ntmps22
  go_upto_region 1 with (fail)
  generalize ((w.alloc (.cells #[.int .i64 0, .int .i64 0, .bool false, .bool false, .bool false, .bool false, .slice none 0 0, .int .i64 0, .int .i64 0, .int .i64 0, .bool false, .int .i64 0, .int .u32 0, .slice none 0 0, .int .i64 0, .int .i64 0] 27)).alloc (.cells #[.bool false, .int .u32 0, .int .i64 0] 46)) = u at K2 X2 Y2 B2 ⊢
  have HK := Lib.hid K2.out
  have HX := Lib.hid X2.out
  have HY := Lib.hid Y2.out
  have HF : Hid (Fr (· = p) w u) := Fr.of_below B2.out (fun i h1 h2 => absurd h1 (by omega))
  have z0 := HK.out.cell 0
  have z1 := HK.out.cell 1
  have z2 := HK.out.cell 2
  have hlu := HK.out.lt
  simp only [List.getElem?_cons_zero, List.getElem?_cons_succ] at z0 z1 z2
  clear K2 X2 Y2 B2
  have HSt := Lib.hid h3
  have hbad := Lib.hid h4
  clear h3 h4
  have h9n : 9 + n ≤ xs.length := by omega
  have h99 : 9 ≤ 9 + n := by omega
  obtain ⟨ss, hss⟩ : ∃ ss, (xs.drop 9).take n = ss := ⟨_, rfl⟩
  have esl : ({ data := xs.toArray } : ByteArray).extract 9 (9 + n) = ⟨ss.toArray⟩ := by rw [ba_ext, show 9 + n - 9 = n by omega, hss]
  have lss : ss.length = n := by rw [← hss, List.length_take, List.length_drop]; omega
  obtain ⟨M, hM⟩ : ∃ M, must k fl = M := ⟨_, rfl⟩
  obtain ⟨J, hJ⟩ : ∃ J, just k = J := ⟨_, rfl⟩
  obtain ⟨t0, ht0⟩ : ∃ t, fl.testBit 0 = t := ⟨_, rfl⟩
  have b0 : (bits .and .i64 (fl : Int) 1 != 0) = t0 := by rw [← ht0]; exact and_pow fl 0 (by omega) (by omega)
  have HM := Lib.hid hM
  have HJ := Lib.hid hJ
  have HT0 := Lib.hid ht0
  have HSS := Lib.hid hss
  clear hM hJ ht0 hss
  obtain ⟨rr, hrr⟩ : ∃ rr, xs.drop (9 + n) = rr := ⟨_, rfl⟩
  have esr : ({ data := xs.toArray } : ByteArray).extract (9 + n) xs.length = ⟨rr.toArray⟩ := by rw [ba_ext, ← hrr, List.take_of_length_le (by rw [List.length_drop]; omega)]
  go_upto_region 15 with (first
    | (go_at_call 42; (with_reducible refine (get_w xs 0 3 _ _ N0.out N3.out (by have := H9.out; omega) HLX.out (by omega) n G1.out _).mono ?_); rintro e w9 ⟨rfl, hw9⟩; rw [hw9]; clear hw9)
    | (go_at_call 42; (with_reducible refine (get_w xs 5 4 _ _ N5.out N4.out (by have := H9.out; omega) HLX.out (by omega) v G2.out _).mono ?_); rintro e w9 ⟨rfl, hw9⟩; rw [hw9]; clear hw9)
    | (go_at_call 43; (with_reducible refine (low_w v s G3.out V64.out _).mono ?_); rintro e w9 ⟨rfl, hw9⟩; rw [hw9]; clear hw9)
    | (go_at_call 45; (with_reducible refine (stray_w k s _ HSt.out _).mono ?_); rintro e w9 ⟨rfl, hw9⟩; rw [hw9]; clear hw9)
    | (go_at_call 46; (with_reducible refine (least_w k fl k8 f8 M J HM.out HJ.out _).mono ?_); rintro e w7 ⟨rfl, hb⟩
       have hK' := blk_below HK.out hb
       have hX' := blk_below HX.out hb
       have hY' := blk_below HY.out hb
       have hF' : Fr (· = p) w w7 := HF.out.trans (Fr.of_below (S := (· = p)) hb (fun i h1 h2 => absurd h1 (by omega))) (fun _ _ h => h)
       clear HK HX HY HF z0 z1 z2 hlu hb
       have HK := Lib.hid hK'
       have HX := Lib.hid hX'
       have HY := Lib.hid hY'
       have HF := Lib.hid hF'
       clear hK' hX' hY' hF'
       have z0 := HK.out.cell 0
       have z1 := HK.out.cell 1
       have z2 := HK.out.cell 2
       have hlu := HK.out.lt
       simp only [List.getElem?_cons_zero, List.getElem?_cons_succ] at z0 z1 z2))
  go_cut [122] (fun s wx => s = .bool true ∧ wx = w7)
  case first =>
    have r6 : (n : Int).tmod 6 = ((n % 6 : Nat) : Int) := by rw [Int.tmod_eq_emod_of_nonneg (by omega)]; omega
    have ways := bad_ways HM.out HJ.out HT0.out hbad.out
    clear HM HJ HT0 hbad HF HK HX HY z0 z1 z2 hlu HSt HSS esl lss h99 h9n i3 i4 E3 E4 w1 w2 w3 w4 t9 t3 t4 h1 h2
    rcases ways with ⟨c1, c2⟩ | ⟨c1, rfl, c2, c3⟩ | ⟨c1, rfl | ⟨rfl, rfl⟩, c3, c4⟩ | ⟨c1, rfl, c3, c4, c5⟩ | ⟨c1, rfl, c3, c4, rfl, c5, c6⟩ | ⟨c1, rfl, c3, c4, rfl, c5, c6⟩ | ⟨c1, rfl, c3, c4, rfl, c5⟩
    · go_wp2
      go_meet
      case rel => first | exact ⟨rfl, rfl⟩ | cases c2
    · have e1 : (n != M) = true := by simpa using c2
      have e2 : ((n : Int) != (M : Int)) = true := by simp; omega
      clear r6 c2
      go_wp2
      go_meet
      case rel => first | exact ⟨rfl, rfl⟩ | cases c3
    · have e1 : ((k : Int) == 4) = false := by simp; omega
      clear r6 c3
      go_wp2
      go_meet
      case rel => first | exact ⟨rfl, rfl⟩ | cases c4
    · have e1 : ((k : Int) == 4) = false := by simp; omega
      clear r6 c3
      go_wp2
      go_meet
      case rel => first | exact ⟨rfl, rfl⟩ | cases c4
    · have e1 : ((k : Int) == 4) = true := by simp; omega
      obtain ⟨q6, hq6⟩ : ∃ q, n % 6 = q := ⟨_, rfl⟩
      rw [hq6] at c4 r6
      have r7 : (n : Int) % 6 = (q6 : Int) := by omega
      have e2 : ((q6 : Int) != 0) = true := by simp; omega
      have e3 : (q6 != 0) = true := by simpa using c4
      clear c3 hq6
      go_wp2
      go_meet
      case rel => first | exact ⟨rfl, rfl⟩ | cases c5
    · have e1 : ((k : Int) == 4) = true := by simp; omega
      have e2 : (n : Int).tmod 6 = 0 := by rw [r6, c4]; rfl
      have r7 : (n : Int) % 6 = 0 := by omega
      have e4 : (0 : Int) < (n : Int) := by omega
      have e5 : decide (0 < n) = true := decide_eq_true c5
      clear c3 c4 r6
      go_wp2
      go_meet
      case rel => first | exact ⟨rfl, rfl⟩ | exact ⟨by rw [e5], rfl⟩ | cases c6
    · have e1 : ((k : Int) == 4) = true := by simp; omega
      have e2 : (n : Int).tmod 6 = 0 := by rw [r6, c4]; rfl
      have r7 : (n : Int) % 6 = 0 := by omega
      have e3 : ¬ 0 < n := by omega
      clear c3 c4 r6 c5
      go_wp2
      go_meet
      case rel => first | exact ⟨rfl, rfl⟩ | cases c6
    · have e1 : ((k : Int) == 4) = true := by simp; omega
      have e2 : (n : Int).tmod 6 = 0 := by rw [r6, c4]; rfl
      have r7 : (n : Int) % 6 = 0 := by omega
      clear c3 c4 r6
      go_wp2
      go_meet
      case rel => first | exact ⟨rfl, rfl⟩ | cases c5
  case' rest => obtain ⟨rfl, hw⟩ := hcut; rw [hw]; clear hw
  have hfz := HK.out.frozen 0
  go_upto_region 18 with (fail)
  have hK' : Blk (w7.setCell ⟨p, 0, none⟩ (.string ⟨rr.toArray⟩)) p 55 [.string ⟨rr.toArray⟩, .int .i64 (m : Int), .bool false] := HK.out.set_ 0 (.string ⟨rr.toArray⟩)
  have hX' := HX.out.far (p := ⟨p, 0, none⟩) (fun e => by have := hpl.out; have e' : w.heap.size = p := e; omega) (.string ⟨rr.toArray⟩)
  have hY' := HY.out.far (p := ⟨p, 0, none⟩) (fun e => by have := hpl.out; have e' : w.heap.size + 1 = p := e; omega) (.string ⟨rr.toArray⟩)
  have hF' : Fr (· = p) w (w7.setCell ⟨p, 0, none⟩ (.string ⟨rr.toArray⟩)) := HF.out.trans (Fr.setCell (S := (· = p)) (Fr.refl _ _) (p := ⟨p, 0, none⟩) (.inl rfl) _) (fun _ _ h => h)
  clear HK HX HY HF z0 z1 z2 hlu hfz
  generalize w7.setCell ⟨p, 0, none⟩ (.string ⟨rr.toArray⟩) = u2 at hK' hX' hY' hF' ⊢
  have HK := Lib.hid hK'
  have HX := Lib.hid hX'
  have HY := Lib.hid hY'
  have HF := Lib.hid hF'
  clear hK' hX' hY' hF'
  obtain ⟨r0, r1, r2, r3, r4, r5, r6, r7, r8, r9, r10, r11, r12, r13, r14, r15⟩ := cells16 (HX.out : Blk _ _ _ zero16)
  have q0 := HY.out.cell 0
  have q1 := HY.out.cell 1
  have q2 := HY.out.cell 2
  simp only [List.getElem?_cons_zero, List.getElem?_cons_succ] at q0 q1 q2
  have yf := fun i => HX.out.frozen i
  have yg := fun i => HY.out.frozen i
  have l1 := HX.out.lt
  have l2 := HY.out.lt
  go_wp2
  have hK2 : Blk u2 p 55 [.string ⟨(xs.drop (9 + n)).toArray⟩, .int .i64 (m : Int), .bool false] := by rw [hrr]; exact HK.out
  clear HK
  have HK := Lib.hid hK2
  obtain ⟨S1, S2⟩ := store16 (HX.out : Blk _ _ _ zero16) (.int .i64 0) (.int .i64 0) (.bool false) (.bool false) (.bool false) (.bool false) (.slice none 0 0) (.int .i64 0) (.int .i64 0) (.int .i64 0) (.bool false) (.int .i64 0) (.int .u32 0) (.slice none 0 0) (.int .i64 0) (.int .i64 0)
  obtain ⟨S3, S4⟩ := store3 (HY.out.fr S2 (fun e => by omega)) (.bool true) (.int .u32 6) (.int .i64 (s : Int))
  have s2 := S2.mono (S' := fun i => i = w.heap.size ∨ i = w.heap.size + 1) (fun i _ h => .inl h)
  have s4 := S4.mono (S' := fun i => i = w.heap.size ∨ i = w.heap.size + 1) (fun i _ h => .inr h)
  have hpl' := hpl.out
  exact bodyPost_ret (res_ffb (p := 2) (q := 3) (r := 4) rfl rfl rfl rfl rfl (S1.fr S4 (fun e => by omega)) S3) rfl ⟨none, 0, none, 0, rfl, Rd.nil _ _ _, Rd.nil _ _ _, (HK.out.fr S2 (fun e => by omega)).fr S4 (fun e => by omega), HF.out.trans (s2.trans s4 (fun _ _ h => h)) (fun i hi h => by rcases h with h | h <;> omega)⟩
end Go.Proofs.YtokbdkbljgdcpaaDoor
