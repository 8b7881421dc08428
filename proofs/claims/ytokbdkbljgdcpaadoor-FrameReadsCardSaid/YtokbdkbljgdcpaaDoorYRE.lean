/- Several texts in one: RnJ, RnH, RnD. -/
import Derived.Test.YtokbdkbljgdcpaaDoorYRB
import Derived.Deep.DeepCutAuto
/- The document's Next: a fault of the connection behind read. -/
namespace Go.Proofs.YtokbdkbljgdcpaaDoor
open Go.RowKit Go.Own Go.Frm
set_option linter.unusedVariables false
set_option linter.unusedSimpArgs false
set_option maxRecDepth 100000
set_option maxHeartbeats 16000000 in
theorem rnx_last {w : World} {p m n k fl s : Nat} {xs : List UInt8} (hin : NxIn w p m xs n k fl s) (h1 : ¬ m < n) (h2 : ¬ xs.length < 9 + n) (h3 : stray k (s : Int) = false) (h4 : badSize k fl n = false) (h6 : PadOk k fl ((xs.drop 9).take n)) (F : Fm) (HRD : Hid (∀ w', Calls Tryd.prog 49 #[.int .i64 (k : Int), .int .i64 (fl : Int), .string ⟨((xs.drop 9).take n).toArray⟩] w' (ReadQ F w')))
    (h7 : ((k : Int) == 5) = true ∧ (F.last == 0) = true ∨ ((k : Int) == 5) = false ∧ ((k : Int) == 8) = true ∧ (F.inc == 0) = true ∧ ((s : Int) == 0) = true) : Calls Tryd.prog 22 #[.pointer (some ⟨p, 0, none⟩)] w (RNx p m zeroF (conF 1) true [] true w) := by
  obtain ⟨hb, hx, hm, h9, hn, hk, hf, hs⟩ := hin
  have hlx : xs.length ≤ 140737488355328 := by omega
  obtain ⟨x3, h3⟩ : ∃ x, xs[3]? = some x := ⟨_, List.getElem?_eq_getElem (by omega)⟩
  obtain ⟨x4, h4⟩ : ∃ x, xs[4]? = some x := ⟨_, List.getElem?_eq_getElem (by omega)⟩
  have E3 : x3.toNat = k := by rw [← hk]; exact (nx_k xs 3 x3 h3).symm
  have E4 : x4.toNat = fl := by rw [← hf]; exact (nx_k xs 4 x4 h4).symm
  have k8 : k < 256 := by rw [← E3]; exact x3.toNat_lt
  have f8 : fl < 256 := by rw [← E4]; exact x4.toNat_lt
  have i3 := ba_el xs 3 x3 h3
  have i4 := ba_el xs 4 x4 h4
  have n24 : n < 16777216 := by rw [← hn]; exact num_take_lt _ 3
  obtain ⟨v, hv⟩ : ∃ v, num ((xs.drop 5).take 4) = v := ⟨_, rfl⟩
  have v32 : v < 4294967296 := by rw [← hv]; exact num_take_lt _ 4
  have hsv : low v = s := by rw [← hv]; exact hs
  have G1 : Hid (num ((xs.drop 0).take 3) = n) := hn
  have G2 := Lib.hid hv
  have G3 := Lib.hid hsv
  have HLX := Lib.hid hlx
  have N0 : Hid ((0 : Int) = ((0 : Nat) : Int)) := rfl
  have N3 : Hid ((3 : Int) = ((3 : Nat) : Int)) := rfl
  have N4 : Hid ((4 : Int) = ((4 : Nat) : Int)) := rfl
  have N5 : Hid ((5 : Int) = ((5 : Nat) : Int)) := rfl
  have H9 := Lib.hid h9
  have HX24 := Lib.hid hx
  have V64 : Hid (v < 18446744073709551616) := (by omega : v < 18446744073709551616)
  have w1 : IntKind.i64.wrap (n : Int) = (n : Int) := i64w (by omega)
  have w2 : IntKind.i64.wrap (k : Int) = (k : Int) := i64w (by omega)
  have w3 : IntKind.i64.wrap (fl : Int) = (fl : Int) := i64w (by omega)
  have w4 : IntKind.i64.wrap (9 + (n : Int)) = ((9 + n : Nat) : Int) := by rw [i64w (by omega)]; omega
  have t9 : ¬ xs.length < 9 := by omega
  have t3 : 3 < xs.length := by omega
  have t4 : 4 < xs.length := by omega
  have X2 := Lib.hid (blk_new1 w (.cells #[.bool false, .int .u32 0, .int .i64 0] 46) 27 [.int .i64 0, .int .i64 0, .bool false, .bool false, .bool false, .bool false, .slice none 0 0, .int .i64 0, .int .i64 0, .int .i64 0, .bool false, .int .i64 0, .int .u32 0, .slice none 0 0, .int .i64 0, .int .i64 0])
  have Y2 := Lib.hid (blk_new2 w (.cells #[.int .i64 0, .int .i64 0, .bool false, .bool false, .bool false, .bool false, .slice none 0 0, .int .i64 0, .int .i64 0, .int .i64 0, .bool false, .int .i64 0, .int .u32 0, .slice none 0 0, .int .i64 0, .int .i64 0] 27) 46 [.bool false, .int .u32 0, .int .i64 0])
  have K2 := Lib.hid ((hb.alloc (.cells #[.int .i64 0, .int .i64 0, .bool false, .bool false, .bool false, .bool false, .slice none 0 0, .int .i64 0, .int .i64 0, .int .i64 0, .bool false, .int .i64 0, .int .u32 0, .slice none 0 0, .int .i64 0, .int .i64 0] 27)).alloc (.cells #[.bool false, .int .u32 0, .int .i64 0] 46))
  have B2 := Lib.hid (((Below.refl _ w).alloc (Nat.le_refl _) (.cells #[.int .i64 0, .int .i64 0, .bool false, .bool false, .bool false, .bool false, .slice none 0 0, .int .i64 0, .int .i64 0, .int .i64 0, .bool false, .int .i64 0, .int .u32 0, .slice none 0 0, .int .i64 0, .int .i64 0] 27)).alloc (by simp) (.cells #[.bool false, .int .u32 0, .int .i64 0] 46))
  have hpl := Lib.hid hb.lt
  clear hb hn hk hf hs hv hsv h3 h4 hlx hx h9 hm
  go_enter Tryd.func22, Tryd.ntmps22
  go_upto_region 1 with (fail)
  generalize ((w.alloc (.cells #[.int .i64 0, .int .i64 0, .bool false, .bool false, .bool false, .bool false, .slice none 0 0, .int .i64 0, .int .i64 0, .int .i64 0, .bool false, .int .i64 0, .int .u32 0, .slice none 0 0, .int .i64 0, .int .i64 0] 27)).alloc (.cells #[.bool false, .int .u32 0, .int .i64 0] 46)) = u at K2 X2 Y2 B2 ⊢
  have HK := Lib.hid K2.out
  have HX := Lib.hid X2.out
  have HY := Lib.hid Y2.out
  have HF : Hid (Fr (· = p) w u) := Fr.of_below B2.out (fun i h1 h2 => absurd h1 (by omega))
  have z0 := HK.out.cell 0
  have z1 := HK.out.cell 1
  have z2 := HK.out.cell 2
  have hlu := HK.out.lt
  simp only [List.getElem?_cons_zero, List.getElem?_cons_succ] at z0 z1 z2
  clear K2 X2 Y2 B2
  have HSt := Lib.hid h3
  have hbad := Lib.hid h4
  clear h3 h4
  have h9n : 9 + n ≤ xs.length := by omega
  have h99 : 9 ≤ 9 + n := by omega
  obtain ⟨ss, hss⟩ : ∃ ss, (xs.drop 9).take n = ss := ⟨_, rfl⟩
  have esl : ({ data := xs.toArray } : ByteArray).extract 9 (9 + n) = ⟨ss.toArray⟩ := by rw [ba_ext, show 9 + n - 9 = n by omega, hss]
  have lss : ss.length = n := by rw [← hss, List.length_take, List.length_drop]; omega
  obtain ⟨M, hM⟩ : ∃ M, must k fl = M := ⟨_, rfl⟩
  obtain ⟨J, hJ⟩ : ∃ J, just k = J := ⟨_, rfl⟩
  obtain ⟨t0, ht0⟩ : ∃ t, fl.testBit 0 = t := ⟨_, rfl⟩
  have b0 : (bits .and .i64 (fl : Int) 1 != 0) = t0 := by rw [← ht0]; exact and_pow fl 0 (by omega) (by omega)
  have HM := Lib.hid hM
  have HJ := Lib.hid hJ
  have HT0 := Lib.hid ht0
  have HSS := Lib.hid hss
  clear hM hJ ht0 hss
  obtain ⟨rr, hrr⟩ : ∃ rr, xs.drop (9 + n) = rr := ⟨_, rfl⟩
  have esr : ({ data := xs.toArray } : ByteArray).extract (9 + n) xs.length = ⟨rr.toArray⟩ := by rw [ba_ext, ← hrr, List.take_of_length_le (by rw [List.length_drop]; omega)]
  obtain ⟨pB, hpB⟩ : ∃ b, hP k = b := ⟨_, rfl⟩
  obtain ⟨t8, ht8⟩ : ∃ b, fl.testBit 3 = b := ⟨_, rfl⟩
  have b8 : (bits .and .i64 (fl : Int) 8 != 0) = t8 := by rw [← ht8]; exact and_pow fl 3 (by omega) (by omega)
  have HP := Lib.hid hpB
  have HT8 := Lib.hid ht8
  have hpd : padded k fl = (pB && t8) := by unfold padded; rw [hpB, ht8]
  clear hpB ht8
  rw [HSS.out] at HRD
  obtain ⟨pt, hpt⟩ : ∃ q, (pB && t8) = q := ⟨_, rfl⟩
  rw [hpt] at hpd
  have HPT := Lib.hid hpt
  have hMn : M ≤ n := by
    have h4 := hbad.out
    rw [← HM.out]
    unfold badSize at h4
    simp at h4
    omega
  have wd : IntKind.i64.wrap ((n : Int) - (M : Int)) = ((n - M : Nat) : Int) := by rw [i64w (by omega)]; omega
  have hpk : pt = false ∨ (pt = true ∧ ∃ y0 yn, ss[0]? = some y0 ∧ y0.toNat = yn ∧ yn ≤ n - M) := by
    cases hc : pt with
    | false => exact .inl rfl
    | true =>
      right
      have h := h6 (by rw [hpd, hc])
      rw [HSS.out, lss, HM.out] at h
      have hbase : 0 < ss.length := by
        rcases Nat.eq_zero_or_pos ss.length with h0 | h0
        · exfalso
          have hM1 : 1 ≤ M := by
            rw [← HM.out]
            unfold must
            rw [hpd, hc]
            simp
            omega
          omega
        · exact h0
      obtain ⟨y, hy⟩ : ∃ y, ss[0]? = some y := ⟨_, List.getElem?_eq_getElem hbase⟩
      have e : ss.headD 0 = y := by rw [List.headD_eq_head?_getD, List.head?_eq_getElem?, hy]; rfl
      rw [e] at h
      exact ⟨rfl, y, _, hy, rfl, h⟩
  have HPK := Lib.hid hpk
  clear hpk h6 hpd hpt
  have H7 := Lib.hid h7
  clear h7
  go_upto_region 15 with (first
    | (go_at_call 42; (with_reducible refine (get_w xs 0 3 _ _ N0.out N3.out (by have := H9.out; omega) HLX.out (by omega) n G1.out _).mono ?_); rintro e w9 ⟨rfl, hw9⟩; rw [hw9]; clear hw9)
    | (go_at_call 42; (with_reducible refine (get_w xs 5 4 _ _ N5.out N4.out (by have := H9.out; omega) HLX.out (by omega) v G2.out _).mono ?_); rintro e w9 ⟨rfl, hw9⟩; rw [hw9]; clear hw9)
    | (go_at_call 43; (with_reducible refine (low_w v s G3.out V64.out _).mono ?_); rintro e w9 ⟨rfl, hw9⟩; rw [hw9]; clear hw9)
    | (go_at_call 45; (with_reducible refine (stray_w k s _ HSt.out _).mono ?_); rintro e w9 ⟨rfl, hw9⟩; rw [hw9]; clear hw9)
    | (go_at_call 46; (with_reducible refine (least_w k fl k8 f8 M J HM.out HJ.out _).mono ?_); rintro e w7 ⟨rfl, hb⟩
       have hK' := blk_below HK.out hb
       have hX' := blk_below HX.out hb
       have hY' := blk_below HY.out hb
       have hF' : Fr (· = p) w w7 := HF.out.trans (Fr.of_below (S := (· = p)) hb (fun i h1 h2 => absurd h1 (by omega))) (fun _ _ h => h)
       clear HK HX HY HF z0 z1 z2 hlu hb
       have HK := Lib.hid hK'
       have HX := Lib.hid hX'
       have HY := Lib.hid hY'
       have HF := Lib.hid hF'
       clear hK' hX' hY' hF'
       have z0 := HK.out.cell 0
       have z1 := HK.out.cell 1
       have z2 := HK.out.cell 2
       have hlu := HK.out.lt
       simp only [List.getElem?_cons_zero, List.getElem?_cons_succ] at z0 z1 z2))
  go_cut [122] (fun s wx => s = .bool false ∧ wx = w7)
  case first =>
    as_aux_lemma =>
      have r6 : (n : Int).tmod 6 = ((n % 6 : Nat) : Int) := by rw [Int.tmod_eq_emod_of_nonneg (by omega)]; omega
      have ways := bad_ways HM.out HJ.out HT0.out hbad.out
      clear HM HJ HT0 hbad HF HK HX HY z0 z1 z2 hlu HSt HSS esl lss h99 h9n i3 i4 E3 E4 w1 w2 w3 w4 t9 t3 t4 h1 h2
      rcases ways with ⟨c1, c2⟩ | ⟨c1, rfl, c2, c3⟩ | ⟨c1, rfl | ⟨rfl, rfl⟩, c3, c4⟩ | ⟨c1, rfl, c3, c4, c5⟩ | ⟨c1, rfl, c3, c4, rfl, c5, c6⟩ | ⟨c1, rfl, c3, c4, rfl, c5, c6⟩ | ⟨c1, rfl, c3, c4, rfl, c5⟩
      · go_wp2
        go_meet
        case rel => first | exact ⟨rfl, rfl⟩ | cases c2
      · have e1 : (n != M) = true := by simpa using c2
        have e2 : ((n : Int) != (M : Int)) = true := by simp; omega
        clear r6 c2
        go_wp2
        go_meet
        case rel => first | exact ⟨rfl, rfl⟩ | cases c3
      · have e1 : ((k : Int) == 4) = false := by simp; omega
        clear r6 c3
        go_wp2
        go_meet
        case rel => first | exact ⟨rfl, rfl⟩ | cases c4
      · have e1 : ((k : Int) == 4) = false := by simp; omega
        clear r6 c3
        go_wp2
        go_meet
        case rel => first | exact ⟨rfl, rfl⟩ | cases c4
      · have e1 : ((k : Int) == 4) = true := by simp; omega
        obtain ⟨q6, hq6⟩ : ∃ q, n % 6 = q := ⟨_, rfl⟩
        rw [hq6] at c4 r6
        have r7 : (n : Int) % 6 = (q6 : Int) := by omega
        have e2 : ((q6 : Int) != 0) = true := by simp; omega
        have e3 : (q6 != 0) = true := by simpa using c4
        clear c3 hq6
        go_wp2
        go_meet
        case rel => first | exact ⟨rfl, rfl⟩ | cases c5
      · have e1 : ((k : Int) == 4) = true := by simp; omega
        have e2 : (n : Int).tmod 6 = 0 := by rw [r6, c4]; rfl
        have r7 : (n : Int) % 6 = 0 := by omega
        have e4 : (0 : Int) < (n : Int) := by omega
        have e5 : decide (0 < n) = true := decide_eq_true c5
        clear c3 c4 r6
        go_wp2
        go_meet
        case rel => first | exact ⟨rfl, rfl⟩ | exact ⟨by rw [e5], rfl⟩ | cases c6
      · have e1 : ((k : Int) == 4) = true := by simp; omega
        have e2 : (n : Int).tmod 6 = 0 := by rw [r6, c4]; rfl
        have r7 : (n : Int) % 6 = 0 := by omega
        have e3 : ¬ 0 < n := by omega
        clear c3 c4 r6 c5
        go_wp2
        go_meet
        case rel => first | exact ⟨rfl, rfl⟩ | cases c6
      · have e1 : ((k : Int) == 4) = true := by simp; omega
        have e2 : (n : Int).tmod 6 = 0 := by rw [r6, c4]; rfl
        have r7 : (n : Int) % 6 = 0 := by omega
        clear c3 c4 r6
        go_wp2
        go_meet
        case rel => first | exact ⟨rfl, rfl⟩ | cases c5
  case' rest => obtain ⟨rfl, hw⟩ := hcut; rw [hw]; clear hw
  go_upto_region 20 with (fail)
  go_cut [12] (fun t wx => t = .bool pt ∧ Below w7.heap.size w7 wx)
  case first =>
    clear HM HJ HT0 hbad HF HX HY HSt HSS h99 h9n i3 i4 E3 E4 w1 w2 w3 w4 t9 t3 t4 h1 h2 HRD esr
    as_aux_lemma =>
      have h := HPT.out
      clear HPK
      cases pB <;> cases t8 <;> subst h
      all_goals
        go_wp2_with (first
          | (go_at_call 48; (with_reducible refine (has_c k _).mono ?_); rintro e w6 ⟨rfl, hb⟩
             have HBB := Lib.hid hb
             clear hb)
          | (go_at_call 47; (with_reducible refine (ltr_p k _ HP.out _).mono ?_); rintro e w5 ⟨rfl, hw5⟩; rw [hw5]; clear hw5))
        go_meet
        case rel => exact ⟨rfl, HBB.out⟩
  case' rest => obtain ⟨rfl, hbc⟩ := hcut
  have hK' := blk_below HK.out hbc
  have hX' := blk_below HX.out hbc
  have hY' := blk_below HY.out hbc
  have hF' : Fr (· = p) w wc := HF.out.trans (Fr.of_below (S := (· = p)) hbc (fun i h1 h2 => absurd h1 (by omega))) (fun _ _ h => h)
  clear HK HX HY HF z0 z1 z2 hlu hbc
  have HK := Lib.hid hK'
  have HX := Lib.hid hX'
  have HY := Lib.hid hY'
  have HF := Lib.hid hF'
  clear hK' hX' hY' hF'
  have z0 := HK.out.cell 0
  have z1 := HK.out.cell 1
  have z2 := HK.out.cell 2
  have hlu := HK.out.lt
  simp only [List.getElem?_cons_zero, List.getElem?_cons_succ] at z0 z1 z2
  go_upto_region 21 with (fail)
  go_cut [160] (fun t wx => t = .bool false ∧ wx = wc)
  case first =>
    clear HM HJ HT0 hbad HF HX HY HSt HSS h99 h9n i3 i4 E3 E4 w1 w2 w3 w4 t9 t3 t4 h1 h2 HRD esr
    as_aux_lemma =>
      rcases HPK.out with rfl | ⟨rfl, y0, yn, hy0, hyn, hle⟩
      · go_wp2
        go_meet
        case rel => exact ⟨rfl, rfl⟩
      · have i0 := ba_el ss 0 y0 hy0
        have l0 : 0 < ss.length := (List.getElem?_eq_some_iff.1 hy0).1
        have y256 : yn < 256 := by rw [← hyn]; exact y0.toNat_lt
        have wy : IntKind.i64.wrap (yn : Int) = (yn : Int) := i64w (by omega)
        have h9 : ¬ ((n - M : Nat) : Int) < (yn : Int) := by omega
        have h9' : ¬ n - M < yn := by omega
        clear hy0 HPK
        go_wp2
        go_meet
        case rel => exact ⟨rfl, rfl⟩
  case' rest => obtain ⟨rfl, hw⟩ := hcut; rw [hw]; clear hw
  go_upto_region 25 with (first
    | (go_at_call 49; (with_reducible refine (HRD.out _).mono ?_); rintro e w4 ⟨A, c, B, d, rfl, ra, rb, hb, ga, gb⟩
       have lK := HK.out.lt
       have lX := HX.out.lt
       have lY := HY.out.lt
       have GA : Hid (∀ a, A = some a → a.block ≠ p ∧ a.block ≠ w.heap.size ∧ a.block ≠ w.heap.size + 1) := fun a ha => by have := ga a ha; omega
       have GB : Hid (∀ a, B = some a → a.block ≠ p ∧ a.block ≠ w.heap.size ∧ a.block ≠ w.heap.size + 1) := fun a ha => by have := gb a ha; omega
       clear ga gb lK lX lY
       have hK' := blk_below HK.out hb
       have hX' := blk_below HX.out hb
       have hY' := blk_below HY.out hb
       have hF' : Fr (· = p) w w4 := HF.out.trans (Fr.of_below (S := (· = p)) hb (fun i h1 h2 => absurd h1 (by omega))) (fun _ _ h => h)
       clear HK HX HY HF z0 z1 z2 hlu hb
       have HK := Lib.hid hK'
       have HX := Lib.hid hX'
       have HY := Lib.hid hY'
       have HF := Lib.hid hF'
       clear hK' hX' hY' hF'
       have z0 := HK.out.cell 0
       have z1 := HK.out.cell 1
       have z2 := HK.out.cell 2
       have hlu := HK.out.lt
       simp only [List.getElem?_cons_zero, List.getElem?_cons_succ] at z0 z1 z2
       have RA := Lib.hid ra
       have RB := Lib.hid rb
       clear ra rb))
  have hZ : Blk (w4.alloc (.cells #[.int .i64 F.kind, .int .i64 (s : Int), .bool F.fin, .bool F.eh, .bool F.ack, .bool F.prio, .slice A F.pay.length c, .int .i64 F.flags, .int .i64 F.pad, .int .i64 F.depend, .bool F.excl, .int .i64 F.weight, .int .u32 (F.code : Int), .slice B F.list.length d, .int .i64 F.last, .int .i64 F.inc] 27)) w4.heap.size 27 [.int .i64 F.kind, .int .i64 (s : Int), .bool F.fin, .bool F.eh, .bool F.ack, .bool F.prio, .slice A F.pay.length c, .int .i64 F.flags, .int .i64 F.pad, .int .i64 F.depend, .bool F.excl, .int .i64 F.weight, .int .u32 (F.code : Int), .slice B F.list.length d, .int .i64 F.last, .int .i64 F.inc] := Blk.new _ _ _
  have hK' := HK.out.alloc (.cells #[.int .i64 F.kind, .int .i64 (s : Int), .bool F.fin, .bool F.eh, .bool F.ack, .bool F.prio, .slice A F.pay.length c, .int .i64 F.flags, .int .i64 F.pad, .int .i64 F.depend, .bool F.excl, .int .i64 F.weight, .int .u32 (F.code : Int), .slice B F.list.length d, .int .i64 F.last, .int .i64 F.inc] 27)
  have hX' := HX.out.alloc (.cells #[.int .i64 F.kind, .int .i64 (s : Int), .bool F.fin, .bool F.eh, .bool F.ack, .bool F.prio, .slice A F.pay.length c, .int .i64 F.flags, .int .i64 F.pad, .int .i64 F.depend, .bool F.excl, .int .i64 F.weight, .int .u32 (F.code : Int), .slice B F.list.length d, .int .i64 F.last, .int .i64 F.inc] 27)
  have hY' := HY.out.alloc (.cells #[.int .i64 F.kind, .int .i64 (s : Int), .bool F.fin, .bool F.eh, .bool F.ack, .bool F.prio, .slice A F.pay.length c, .int .i64 F.flags, .int .i64 F.pad, .int .i64 F.depend, .bool F.excl, .int .i64 F.weight, .int .u32 (F.code : Int), .slice B F.list.length d, .int .i64 F.last, .int .i64 F.inc] 27)
  have hF' : Fr (· = p) w (w4.alloc (.cells #[.int .i64 F.kind, .int .i64 (s : Int), .bool F.fin, .bool F.eh, .bool F.ack, .bool F.prio, .slice A F.pay.length c, .int .i64 F.flags, .int .i64 F.pad, .int .i64 F.depend, .bool F.excl, .int .i64 F.weight, .int .u32 (F.code : Int), .slice B F.list.length d, .int .i64 F.last, .int .i64 F.inc] 27)) := HF.out.alloc _
  have ra' := RA.out.below ((Below.refl _ w4).alloc (Nat.le_refl _) (.cells #[.int .i64 F.kind, .int .i64 (s : Int), .bool F.fin, .bool F.eh, .bool F.ack, .bool F.prio, .slice A F.pay.length c, .int .i64 F.flags, .int .i64 F.pad, .int .i64 F.depend, .bool F.excl, .int .i64 F.weight, .int .u32 (F.code : Int), .slice B F.list.length d, .int .i64 F.last, .int .i64 F.inc] 27))
  have rb' := RB.out.below ((Below.refl _ w4).alloc (Nat.le_refl _) (.cells #[.int .i64 F.kind, .int .i64 (s : Int), .bool F.fin, .bool F.eh, .bool F.ack, .bool F.prio, .slice A F.pay.length c, .int .i64 F.flags, .int .i64 F.pad, .int .i64 F.depend, .bool F.excl, .int .i64 F.weight, .int .u32 (F.code : Int), .slice B F.list.length d, .int .i64 F.last, .int .i64 F.inc] 27))
  have np : ¬ w4.heap.size = p := by have := HK.out.lt; omega
  have nx1 : ¬ w4.heap.size = w.heap.size := by have := HX.out.lt; omega
  have nx2 : ¬ w4.heap.size = w.heap.size + 1 := by have := HY.out.lt; omega
  clear HK HX HY HF RA RB z0 z1 z2 hlu
  generalize w4.alloc (.cells #[.int .i64 F.kind, .int .i64 (s : Int), .bool F.fin, .bool F.eh, .bool F.ack, .bool F.prio, .slice A F.pay.length c, .int .i64 F.flags, .int .i64 F.pad, .int .i64 F.depend, .bool F.excl, .int .i64 F.weight, .int .u32 (F.code : Int), .slice B F.list.length d, .int .i64 F.last, .int .i64 F.inc] 27) = u3 at hZ hK' hX' hY' hF' ra' rb' ⊢
  generalize w4.heap.size = fb at hZ np nx1 nx2 ⊢
  have HK := Lib.hid hK'
  have HX := Lib.hid hX'
  have HY := Lib.hid hY'
  have HF := Lib.hid hF'
  have RA := Lib.hid ra'
  have RB := Lib.hid rb'
  have HZ := Lib.hid hZ
  clear hK' hX' hY' hF' ra' rb' hZ
  have z0 := HK.out.cell 0
  have z1 := HK.out.cell 1
  have z2 := HK.out.cell 2
  have hlu := HK.out.lt
  simp only [List.getElem?_cons_zero, List.getElem?_cons_succ] at z0 z1 z2
  have v0 := HZ.out.cell 0
  have v1 := HZ.out.cell 1
  have v2 := HZ.out.cell 2
  have v3 := HZ.out.cell 3
  have v4 := HZ.out.cell 4
  have v5 := HZ.out.cell 5
  have v6 := HZ.out.cell 6
  have v7 := HZ.out.cell 7
  have v8 := HZ.out.cell 8
  have v9 := HZ.out.cell 9
  have v10 := HZ.out.cell 10
  have v11 := HZ.out.cell 11
  have v12 := HZ.out.cell 12
  have v13 := HZ.out.cell 13
  have v14 := HZ.out.cell 14
  have v15 := HZ.out.cell 15
  simp only [List.getElem?_cons_zero, List.getElem?_cons_succ] at v0 v1 v2 v3 v4 v5 v6 v7 v8 v9 v10 v11 v12 v13 v14 v15
  have lz := HZ.out.lt
  go_cut [191] (fun t wx => t = .bool true ∧ wx = u3)
  case first =>
    try clear HM; try clear HJ; try clear HT0; try clear hbad; try clear HF; try clear HX; try clear HY; try clear HK; try clear HSt; try clear HSS; try clear h99; try clear h9n; try clear i3; try clear i4; try clear E3; try clear E4; try clear w1; try clear w2; try clear w3; try clear w4; try clear t9; try clear t3; try clear t4; try clear h1; try clear h2; try clear HRD; try clear esr; try clear esl; try clear lss; try clear GA; try clear GB; try clear RA; try clear RB; try clear HZ; try clear HPK; try clear HPT; try clear HP; try clear HT8; try clear wd; try clear hMn; try clear b0; try clear b8; try clear z0; try clear z1; try clear z2; try clear G1; try clear G2; try clear G3; try clear HLX; try clear H9; try clear HX24; try clear V64; try clear N0; try clear N3; try clear N4; try clear N5; try clear hss; try clear hrr; try clear np; try clear nx1; try clear nx2; try clear v0; try clear v1; try clear v2; try clear v3; try clear v4; try clear v5; try clear v6; try clear v7; try clear v8; try clear v9; try clear v10; try clear v11; try clear v12; try clear v13
    as_aux_lemma =>
      rcases H7.out with ⟨c1, c2⟩ | ⟨c1, c2, c3, c4⟩
      all_goals
        go_wp2
        go_meet
        case rel => exact ⟨rfl, rfl⟩
  case' rest => obtain ⟨rfl, hw⟩ := hcut; rw [hw]; clear hw
  clear HZ RA RB GA GB v0 v1 v2 v3 v4 v5 v6 v7 v8 v9 v10 v11 v12 v13 v14 v15 lz
  go_wp2_with (first
    | (go_at_call 44; (with_reducible refine (broken_w HK.out 1 1 rfl).mono ?_); rintro e w8 ⟨rfl, hb8, hf8⟩
       have hX' := HX.out.fr hf8 (fun e => by have := hpl.out; omega)
       have hY' := HY.out.fr hf8 (fun e => by have := hpl.out; omega)
       have hF' : Fr (· = p) w w8 := HF.out.trans hf8 (fun _ _ h => h)
       clear HK HX HY HF z0 z1 z2 hlu hf8
       have HK := Lib.hid hb8
       have HX := Lib.hid hX'
       have HY := Lib.hid hY'
       have HF := Lib.hid hF'
       clear hb8 hX' hY' hF'
       obtain ⟨r0, r1, r2, r3, r4, r5, r6, r7, r8, r9, r10, r11, r12, r13, r14, r15⟩ := cells16 (HX.out : Blk _ _ _ zero16)
       have q0 := HY.out.cell 0
       have q1 := HY.out.cell 1
       have q2 := HY.out.cell 2
       simp only [List.getElem?_cons_zero, List.getElem?_cons_succ] at q0 q1 q2
       have yf := fun i => HX.out.frozen i
       have yg := fun i => HY.out.frozen i
       have l1 := HX.out.lt
       have l2 := HY.out.lt))
  obtain ⟨S1, S2⟩ := store16 (HX.out : Blk _ _ _ zero16) (.int .i64 0) (.int .i64 0) (.bool false) (.bool false) (.bool false) (.bool false) (.slice none 0 0) (.int .i64 0) (.int .i64 0) (.int .i64 0) (.bool false) (.int .i64 0) (.int .u32 0) (.slice none 0 0) (.int .i64 0) (.int .i64 0)
  obtain ⟨S3, S4⟩ := store3 (HY.out.fr S2 (fun e => by omega)) (.bool true) (.int .u32 1) (.int .i64 0)
  have s2 := S2.mono (S' := fun i => i = w.heap.size ∨ i = w.heap.size + 1) (fun i _ h => .inl h)
  have s4 := S4.mono (S' := fun i => i = w.heap.size ∨ i = w.heap.size + 1) (fun i _ h => .inr h)
  have hpl' := hpl.out
  exact bodyPost_ret (res_ffb (p := 2) (q := 3) (r := 4) rfl rfl rfl rfl rfl (S1.fr S4 (fun e => by omega)) S3) rfl ⟨none, 0, none, 0, rfl, Rd.nil _ _ _, Rd.nil _ _ _, (HK.out.fr S2 (fun e => by omega)).fr S4 (fun e => by omega), HF.out.trans (s2.trans s4 (fun _ _ h => h)) (fun i hi h => by rcases h with h | h <;> omega)⟩
end Go.Proofs.YtokbdkbljgdcpaaDoor

/- The document's Next: a fault of a stream behind read. -/
namespace Go.Proofs.YtokbdkbljgdcpaaDoor
open Go.RowKit Go.Own Go.Frm
set_option linter.unusedVariables false
set_option linter.unusedSimpArgs false
set_option maxRecDepth 100000
set_option maxHeartbeats 16000000 in
theorem rnx_inc {w : World} {p m n k fl s : Nat} {xs : List UInt8} (hin : NxIn w p m xs n k fl s) (h1 : ¬ m < n) (h2 : ¬ xs.length < 9 + n) (h3 : stray k (s : Int) = false) (h4 : badSize k fl n = false) (h6 : PadOk k fl ((xs.drop 9).take n)) (F : Fm) (HRD : Hid (∀ w', Calls Tryd.prog 49 #[.int .i64 (k : Int), .int .i64 (fl : Int), .string ⟨((xs.drop 9).take n).toArray⟩] w' (ReadQ F w')))
    (h7 : ((k : Int) == 5) = false ∧ ((k : Int) == 8) = true ∧ (F.inc == 0) = true ∧ ((s : Int) == 0) = false) : Calls Tryd.prog 22 #[.pointer (some ⟨p, 0, none⟩)] w (RNx p m zeroF ⟨true, 1, (s : Int)⟩ true (xs.drop (9 + n)) false w) := by
  obtain ⟨hb, hx, hm, h9, hn, hk, hf, hs⟩ := hin
  have hlx : xs.length ≤ 140737488355328 := by omega
  obtain ⟨x3, h3⟩ : ∃ x, xs[3]? = some x := ⟨_, List.getElem?_eq_getElem (by omega)⟩
  obtain ⟨x4, h4⟩ : ∃ x, xs[4]? = some x := ⟨_, List.getElem?_eq_getElem (by omega)⟩
  have E3 : x3.toNat = k := by rw [← hk]; exact (nx_k xs 3 x3 h3).symm
  have E4 : x4.toNat = fl := by rw [← hf]; exact (nx_k xs 4 x4 h4).symm
  have k8 : k < 256 := by rw [← E3]; exact x3.toNat_lt
  have f8 : fl < 256 := by rw [← E4]; exact x4.toNat_lt
  have i3 := ba_el xs 3 x3 h3
  have i4 := ba_el xs 4 x4 h4
  have n24 : n < 16777216 := by rw [← hn]; exact num_take_lt _ 3
  obtain ⟨v, hv⟩ : ∃ v, num ((xs.drop 5).take 4) = v := ⟨_, rfl⟩
  have v32 : v < 4294967296 := by rw [← hv]; exact num_take_lt _ 4
  have hsv : low v = s := by rw [← hv]; exact hs
  have G1 : Hid (num ((xs.drop 0).take 3) = n) := hn
  have G2 := Lib.hid hv
  have G3 := Lib.hid hsv
  have HLX := Lib.hid hlx
  have N0 : Hid ((0 : Int) = ((0 : Nat) : Int)) := rfl
  have N3 : Hid ((3 : Int) = ((3 : Nat) : Int)) := rfl
  have N4 : Hid ((4 : Int) = ((4 : Nat) : Int)) := rfl
  have N5 : Hid ((5 : Int) = ((5 : Nat) : Int)) := rfl
  have H9 := Lib.hid h9
  have HX24 := Lib.hid hx
  have V64 : Hid (v < 18446744073709551616) := (by omega : v < 18446744073709551616)
  have w1 : IntKind.i64.wrap (n : Int) = (n : Int) := i64w (by omega)
  have w2 : IntKind.i64.wrap (k : Int) = (k : Int) := i64w (by omega)
  have w3 : IntKind.i64.wrap (fl : Int) = (fl : Int) := i64w (by omega)
  have w4 : IntKind.i64.wrap (9 + (n : Int)) = ((9 + n : Nat) : Int) := by rw [i64w (by omega)]; omega
  have t9 : ¬ xs.length < 9 := by omega
  have t3 : 3 < xs.length := by omega
  have t4 : 4 < xs.length := by omega
  have X2 := Lib.hid (blk_new1 w (.cells #[.bool false, .int .u32 0, .int .i64 0] 46) 27 [.int .i64 0, .int .i64 0, .bool false, .bool false, .bool false, .bool false, .slice none 0 0, .int .i64 0, .int .i64 0, .int .i64 0, .bool false, .int .i64 0, .int .u32 0, .slice none 0 0, .int .i64 0, .int .i64 0])
  have Y2 := Lib.hid (blk_new2 w (.cells #[.int .i64 0, .int .i64 0, .bool false, .bool false, .bool false, .bool false, .slice none 0 0, .int .i64 0, .int .i64 0, .int .i64 0, .bool false, .int .i64 0, .int .u32 0, .slice none 0 0, .int .i64 0, .int .i64 0] 27) 46 [.bool false, .int .u32 0, .int .i64 0])
  have K2 := Lib.hid ((hb.alloc (.cells #[.int .i64 0, .int .i64 0, .bool false, .bool false, .bool false, .bool false, .slice none 0 0, .int .i64 0, .int .i64 0, .int .i64 0, .bool false, .int .i64 0, .int .u32 0, .slice none 0 0, .int .i64 0, .int .i64 0] 27)).alloc (.cells #[.bool false, .int .u32 0, .int .i64 0] 46))
  have B2 := Lib.hid (((Below.refl _ w).alloc (Nat.le_refl _) (.cells #[.int .i64 0, .int .i64 0, .bool false, .bool false, .bool false, .bool false, .slice none 0 0, .int .i64 0, .int .i64 0, .int .i64 0, .bool false, .int .i64 0, .int .u32 0, .slice none 0 0, .int .i64 0, .int .i64 0] 27)).alloc (by simp) (.cells #[.bool false, .int .u32 0, .int .i64 0] 46))
  have hpl := Lib.hid hb.lt
  clear hb hn hk hf hs hv hsv h3 h4 hlx hx h9 hm
  go_enter Tryd.func22, Tryd.ntmps22
  go_upto_region 1 with (fail)
  generalize ((w.alloc (.cells #[.int .i64 0, .int .i64 0, .bool false, .bool false, .bool false, .bool false, .slice none 0 0, .int .i64 0, .int .i64 0, .int .i64 0, .bool false, .int .i64 0, .int .u32 0, .slice none 0 0, .int .i64 0, .int .i64 0] 27)).alloc (.cells #[.bool false, .int .u32 0, .int .i64 0] 46)) = u at K2 X2 Y2 B2 ⊢
  have HK := Lib.hid K2.out
  have HX := Lib.hid X2.out
  have HY := Lib.hid Y2.out
  have HF : Hid (Fr (· = p) w u) := Fr.of_below B2.out (fun i h1 h2 => absurd h1 (by omega))
  have z0 := HK.out.cell 0
  have z1 := HK.out.cell 1
  have z2 := HK.out.cell 2
  have hlu := HK.out.lt
  simp only [List.getElem?_cons_zero, List.getElem?_cons_succ] at z0 z1 z2
  clear K2 X2 Y2 B2
  have HSt := Lib.hid h3
  have hbad := Lib.hid h4
  clear h3 h4
  have h9n : 9 + n ≤ xs.length := by omega
  have h99 : 9 ≤ 9 + n := by omega
  obtain ⟨ss, hss⟩ : ∃ ss, (xs.drop 9).take n = ss := ⟨_, rfl⟩
  have esl : ({ data := xs.toArray } : ByteArray).extract 9 (9 + n) = ⟨ss.toArray⟩ := by rw [ba_ext, show 9 + n - 9 = n by omega, hss]
  have lss : ss.length = n := by rw [← hss, List.length_take, List.length_drop]; omega
  obtain ⟨M, hM⟩ : ∃ M, must k fl = M := ⟨_, rfl⟩
  obtain ⟨J, hJ⟩ : ∃ J, just k = J := ⟨_, rfl⟩
  obtain ⟨t0, ht0⟩ : ∃ t, fl.testBit 0 = t := ⟨_, rfl⟩
  have b0 : (bits .and .i64 (fl : Int) 1 != 0) = t0 := by rw [← ht0]; exact and_pow fl 0 (by omega) (by omega)
  have HM := Lib.hid hM
  have HJ := Lib.hid hJ
  have HT0 := Lib.hid ht0
  have HSS := Lib.hid hss
  clear hM hJ ht0 hss
  obtain ⟨rr, hrr⟩ : ∃ rr, xs.drop (9 + n) = rr := ⟨_, rfl⟩
  have esr : ({ data := xs.toArray } : ByteArray).extract (9 + n) xs.length = ⟨rr.toArray⟩ := by rw [ba_ext, ← hrr, List.take_of_length_le (by rw [List.length_drop]; omega)]
  obtain ⟨pB, hpB⟩ : ∃ b, hP k = b := ⟨_, rfl⟩
  obtain ⟨t8, ht8⟩ : ∃ b, fl.testBit 3 = b := ⟨_, rfl⟩
  have b8 : (bits .and .i64 (fl : Int) 8 != 0) = t8 := by rw [← ht8]; exact and_pow fl 3 (by omega) (by omega)
  have HP := Lib.hid hpB
  have HT8 := Lib.hid ht8
  have hpd : padded k fl = (pB && t8) := by unfold padded; rw [hpB, ht8]
  clear hpB ht8
  rw [HSS.out] at HRD
  obtain ⟨pt, hpt⟩ : ∃ q, (pB && t8) = q := ⟨_, rfl⟩
  rw [hpt] at hpd
  have HPT := Lib.hid hpt
  have hMn : M ≤ n := by
    have h4 := hbad.out
    rw [← HM.out]
    unfold badSize at h4
    simp at h4
    omega
  have wd : IntKind.i64.wrap ((n : Int) - (M : Int)) = ((n - M : Nat) : Int) := by rw [i64w (by omega)]; omega
  have hpk : pt = false ∨ (pt = true ∧ ∃ y0 yn, ss[0]? = some y0 ∧ y0.toNat = yn ∧ yn ≤ n - M) := by
    cases hc : pt with
    | false => exact .inl rfl
    | true =>
      right
      have h := h6 (by rw [hpd, hc])
      rw [HSS.out, lss, HM.out] at h
      have hbase : 0 < ss.length := by
        rcases Nat.eq_zero_or_pos ss.length with h0 | h0
        · exfalso
          have hM1 : 1 ≤ M := by
            rw [← HM.out]
            unfold must
            rw [hpd, hc]
            simp
            omega
          omega
        · exact h0
      obtain ⟨y, hy⟩ : ∃ y, ss[0]? = some y := ⟨_, List.getElem?_eq_getElem hbase⟩
      have e : ss.headD 0 = y := by rw [List.headD_eq_head?_getD, List.head?_eq_getElem?, hy]; rfl
      rw [e] at h
      exact ⟨rfl, y, _, hy, rfl, h⟩
  have HPK := Lib.hid hpk
  clear hpk h6 hpd hpt
  have H7 := Lib.hid h7
  clear h7
  go_upto_region 15 with (first
    | (go_at_call 42; (with_reducible refine (get_w xs 0 3 _ _ N0.out N3.out (by have := H9.out; omega) HLX.out (by omega) n G1.out _).mono ?_); rintro e w9 ⟨rfl, hw9⟩; rw [hw9]; clear hw9)
    | (go_at_call 42; (with_reducible refine (get_w xs 5 4 _ _ N5.out N4.out (by have := H9.out; omega) HLX.out (by omega) v G2.out _).mono ?_); rintro e w9 ⟨rfl, hw9⟩; rw [hw9]; clear hw9)
    | (go_at_call 43; (with_reducible refine (low_w v s G3.out V64.out _).mono ?_); rintro e w9 ⟨rfl, hw9⟩; rw [hw9]; clear hw9)
    | (go_at_call 45; (with_reducible refine (stray_w k s _ HSt.out _).mono ?_); rintro e w9 ⟨rfl, hw9⟩; rw [hw9]; clear hw9)
    | (go_at_call 46; (with_reducible refine (least_w k fl k8 f8 M J HM.out HJ.out _).mono ?_); rintro e w7 ⟨rfl, hb⟩
       have hK' := blk_below HK.out hb
       have hX' := blk_below HX.out hb
       have hY' := blk_below HY.out hb
       have hF' : Fr (· = p) w w7 := HF.out.trans (Fr.of_below (S := (· = p)) hb (fun i h1 h2 => absurd h1 (by omega))) (fun _ _ h => h)
       clear HK HX HY HF z0 z1 z2 hlu hb
       have HK := Lib.hid hK'
       have HX := Lib.hid hX'
       have HY := Lib.hid hY'
       have HF := Lib.hid hF'
       clear hK' hX' hY' hF'
       have z0 := HK.out.cell 0
       have z1 := HK.out.cell 1
       have z2 := HK.out.cell 2
       have hlu := HK.out.lt
       simp only [List.getElem?_cons_zero, List.getElem?_cons_succ] at z0 z1 z2))
  go_cut [122] (fun s wx => s = .bool false ∧ wx = w7)
  case first =>
    as_aux_lemma =>
      have r6 : (n : Int).tmod 6 = ((n % 6 : Nat) : Int) := by rw [Int.tmod_eq_emod_of_nonneg (by omega)]; omega
      have ways := bad_ways HM.out HJ.out HT0.out hbad.out
      clear HM HJ HT0 hbad HF HK HX HY z0 z1 z2 hlu HSt HSS esl lss h99 h9n i3 i4 E3 E4 w1 w2 w3 w4 t9 t3 t4 h1 h2
      rcases ways with ⟨c1, c2⟩ | ⟨c1, rfl, c2, c3⟩ | ⟨c1, rfl | ⟨rfl, rfl⟩, c3, c4⟩ | ⟨c1, rfl, c3, c4, c5⟩ | ⟨c1, rfl, c3, c4, rfl, c5, c6⟩ | ⟨c1, rfl, c3, c4, rfl, c5, c6⟩ | ⟨c1, rfl, c3, c4, rfl, c5⟩
      · go_wp2
        go_meet
        case rel => first | exact ⟨rfl, rfl⟩ | cases c2
      · have e1 : (n != M) = true := by simpa using c2
        have e2 : ((n : Int) != (M : Int)) = true := by simp; omega
        clear r6 c2
        go_wp2
        go_meet
        case rel => first | exact ⟨rfl, rfl⟩ | cases c3
      · have e1 : ((k : Int) == 4) = false := by simp; omega
        clear r6 c3
        go_wp2
        go_meet
        case rel => first | exact ⟨rfl, rfl⟩ | cases c4
      · have e1 : ((k : Int) == 4) = false := by simp; omega
        clear r6 c3
        go_wp2
        go_meet
        case rel => first | exact ⟨rfl, rfl⟩ | cases c4
      · have e1 : ((k : Int) == 4) = true := by simp; omega
        obtain ⟨q6, hq6⟩ : ∃ q, n % 6 = q := ⟨_, rfl⟩
        rw [hq6] at c4 r6
        have r7 : (n : Int) % 6 = (q6 : Int) := by omega
        have e2 : ((q6 : Int) != 0) = true := by simp; omega
        have e3 : (q6 != 0) = true := by simpa using c4
        clear c3 hq6
        go_wp2
        go_meet
        case rel => first | exact ⟨rfl, rfl⟩ | cases c5
      · have e1 : ((k : Int) == 4) = true := by simp; omega
        have e2 : (n : Int).tmod 6 = 0 := by rw [r6, c4]; rfl
        have r7 : (n : Int) % 6 = 0 := by omega
        have e4 : (0 : Int) < (n : Int) := by omega
        have e5 : decide (0 < n) = true := decide_eq_true c5
        clear c3 c4 r6
        go_wp2
        go_meet
        case rel => first | exact ⟨rfl, rfl⟩ | exact ⟨by rw [e5], rfl⟩ | cases c6
      · have e1 : ((k : Int) == 4) = true := by simp; omega
        have e2 : (n : Int).tmod 6 = 0 := by rw [r6, c4]; rfl
        have r7 : (n : Int) % 6 = 0 := by omega
        have e3 : ¬ 0 < n := by omega
        clear c3 c4 r6 c5
        go_wp2
        go_meet
        case rel => first | exact ⟨rfl, rfl⟩ | cases c6
      · have e1 : ((k : Int) == 4) = true := by simp; omega
        have e2 : (n : Int).tmod 6 = 0 := by rw [r6, c4]; rfl
        have r7 : (n : Int) % 6 = 0 := by omega
        clear c3 c4 r6
        go_wp2
        go_meet
        case rel => first | exact ⟨rfl, rfl⟩ | cases c5
  case' rest => obtain ⟨rfl, hw⟩ := hcut; rw [hw]; clear hw
  go_upto_region 20 with (fail)
  go_cut [12] (fun t wx => t = .bool pt ∧ Below w7.heap.size w7 wx)
  case first =>
    clear HM HJ HT0 hbad HF HX HY HSt HSS h99 h9n i3 i4 E3 E4 w1 w2 w3 w4 t9 t3 t4 h1 h2 HRD esr
    as_aux_lemma =>
      have h := HPT.out
      clear HPK
      cases pB <;> cases t8 <;> subst h
      all_goals
        go_wp2_with (first
          | (go_at_call 48; (with_reducible refine (has_c k _).mono ?_); rintro e w6 ⟨rfl, hb⟩
             have HBB := Lib.hid hb
             clear hb)
          | (go_at_call 47; (with_reducible refine (ltr_p k _ HP.out _).mono ?_); rintro e w5 ⟨rfl, hw5⟩; rw [hw5]; clear hw5))
        go_meet
        case rel => exact ⟨rfl, HBB.out⟩
  case' rest => obtain ⟨rfl, hbc⟩ := hcut
  have hK' := blk_below HK.out hbc
  have hX' := blk_below HX.out hbc
  have hY' := blk_below HY.out hbc
  have hF' : Fr (· = p) w wc := HF.out.trans (Fr.of_below (S := (· = p)) hbc (fun i h1 h2 => absurd h1 (by omega))) (fun _ _ h => h)
  clear HK HX HY HF z0 z1 z2 hlu hbc
  have HK := Lib.hid hK'
  have HX := Lib.hid hX'
  have HY := Lib.hid hY'
  have HF := Lib.hid hF'
  clear hK' hX' hY' hF'
  have z0 := HK.out.cell 0
  have z1 := HK.out.cell 1
  have z2 := HK.out.cell 2
  have hlu := HK.out.lt
  simp only [List.getElem?_cons_zero, List.getElem?_cons_succ] at z0 z1 z2
  go_upto_region 21 with (fail)
  go_cut [160] (fun t wx => t = .bool false ∧ wx = wc)
  case first =>
    clear HM HJ HT0 hbad HF HX HY HSt HSS h99 h9n i3 i4 E3 E4 w1 w2 w3 w4 t9 t3 t4 h1 h2 HRD esr
    as_aux_lemma =>
      rcases HPK.out with rfl | ⟨rfl, y0, yn, hy0, hyn, hle⟩
      · go_wp2
        go_meet
        case rel => exact ⟨rfl, rfl⟩
      · have i0 := ba_el ss 0 y0 hy0
        have l0 : 0 < ss.length := (List.getElem?_eq_some_iff.1 hy0).1
        have y256 : yn < 256 := by rw [← hyn]; exact y0.toNat_lt
        have wy : IntKind.i64.wrap (yn : Int) = (yn : Int) := i64w (by omega)
        have h9 : ¬ ((n - M : Nat) : Int) < (yn : Int) := by omega
        have h9' : ¬ n - M < yn := by omega
        clear hy0 HPK
        go_wp2
        go_meet
        case rel => exact ⟨rfl, rfl⟩
  case' rest => obtain ⟨rfl, hw⟩ := hcut; rw [hw]; clear hw
  go_upto_region 25 with (first
    | (go_at_call 49; (with_reducible refine (HRD.out _).mono ?_); rintro e w4 ⟨A, c, B, d, rfl, ra, rb, hb, ga, gb⟩
       have lK := HK.out.lt
       have lX := HX.out.lt
       have lY := HY.out.lt
       have GA : Hid (∀ a, A = some a → a.block ≠ p ∧ a.block ≠ w.heap.size ∧ a.block ≠ w.heap.size + 1) := fun a ha => by have := ga a ha; omega
       have GB : Hid (∀ a, B = some a → a.block ≠ p ∧ a.block ≠ w.heap.size ∧ a.block ≠ w.heap.size + 1) := fun a ha => by have := gb a ha; omega
       clear ga gb lK lX lY
       have hK' := blk_below HK.out hb
       have hX' := blk_below HX.out hb
       have hY' := blk_below HY.out hb
       have hF' : Fr (· = p) w w4 := HF.out.trans (Fr.of_below (S := (· = p)) hb (fun i h1 h2 => absurd h1 (by omega))) (fun _ _ h => h)
       clear HK HX HY HF z0 z1 z2 hlu hb
       have HK := Lib.hid hK'
       have HX := Lib.hid hX'
       have HY := Lib.hid hY'
       have HF := Lib.hid hF'
       clear hK' hX' hY' hF'
       have z0 := HK.out.cell 0
       have z1 := HK.out.cell 1
       have z2 := HK.out.cell 2
       have hlu := HK.out.lt
       simp only [List.getElem?_cons_zero, List.getElem?_cons_succ] at z0 z1 z2
       have RA := Lib.hid ra
       have RB := Lib.hid rb
       clear ra rb))
  have hZ : Blk (w4.alloc (.cells #[.int .i64 F.kind, .int .i64 (s : Int), .bool F.fin, .bool F.eh, .bool F.ack, .bool F.prio, .slice A F.pay.length c, .int .i64 F.flags, .int .i64 F.pad, .int .i64 F.depend, .bool F.excl, .int .i64 F.weight, .int .u32 (F.code : Int), .slice B F.list.length d, .int .i64 F.last, .int .i64 F.inc] 27)) w4.heap.size 27 [.int .i64 F.kind, .int .i64 (s : Int), .bool F.fin, .bool F.eh, .bool F.ack, .bool F.prio, .slice A F.pay.length c, .int .i64 F.flags, .int .i64 F.pad, .int .i64 F.depend, .bool F.excl, .int .i64 F.weight, .int .u32 (F.code : Int), .slice B F.list.length d, .int .i64 F.last, .int .i64 F.inc] := Blk.new _ _ _
  have hK' := HK.out.alloc (.cells #[.int .i64 F.kind, .int .i64 (s : Int), .bool F.fin, .bool F.eh, .bool F.ack, .bool F.prio, .slice A F.pay.length c, .int .i64 F.flags, .int .i64 F.pad, .int .i64 F.depend, .bool F.excl, .int .i64 F.weight, .int .u32 (F.code : Int), .slice B F.list.length d, .int .i64 F.last, .int .i64 F.inc] 27)
  have hX' := HX.out.alloc (.cells #[.int .i64 F.kind, .int .i64 (s : Int), .bool F.fin, .bool F.eh, .bool F.ack, .bool F.prio, .slice A F.pay.length c, .int .i64 F.flags, .int .i64 F.pad, .int .i64 F.depend, .bool F.excl, .int .i64 F.weight, .int .u32 (F.code : Int), .slice B F.list.length d, .int .i64 F.last, .int .i64 F.inc] 27)
  have hY' := HY.out.alloc (.cells #[.int .i64 F.kind, .int .i64 (s : Int), .bool F.fin, .bool F.eh, .bool F.ack, .bool F.prio, .slice A F.pay.length c, .int .i64 F.flags, .int .i64 F.pad, .int .i64 F.depend, .bool F.excl, .int .i64 F.weight, .int .u32 (F.code : Int), .slice B F.list.length d, .int .i64 F.last, .int .i64 F.inc] 27)
  have hF' : Fr (· = p) w (w4.alloc (.cells #[.int .i64 F.kind, .int .i64 (s : Int), .bool F.fin, .bool F.eh, .bool F.ack, .bool F.prio, .slice A F.pay.length c, .int .i64 F.flags, .int .i64 F.pad, .int .i64 F.depend, .bool F.excl, .int .i64 F.weight, .int .u32 (F.code : Int), .slice B F.list.length d, .int .i64 F.last, .int .i64 F.inc] 27)) := HF.out.alloc _
  have ra' := RA.out.below ((Below.refl _ w4).alloc (Nat.le_refl _) (.cells #[.int .i64 F.kind, .int .i64 (s : Int), .bool F.fin, .bool F.eh, .bool F.ack, .bool F.prio, .slice A F.pay.length c, .int .i64 F.flags, .int .i64 F.pad, .int .i64 F.depend, .bool F.excl, .int .i64 F.weight, .int .u32 (F.code : Int), .slice B F.list.length d, .int .i64 F.last, .int .i64 F.inc] 27))
  have rb' := RB.out.below ((Below.refl _ w4).alloc (Nat.le_refl _) (.cells #[.int .i64 F.kind, .int .i64 (s : Int), .bool F.fin, .bool F.eh, .bool F.ack, .bool F.prio, .slice A F.pay.length c, .int .i64 F.flags, .int .i64 F.pad, .int .i64 F.depend, .bool F.excl, .int .i64 F.weight, .int .u32 (F.code : Int), .slice B F.list.length d, .int .i64 F.last, .int .i64 F.inc] 27))
  have np : ¬ w4.heap.size = p := by have := HK.out.lt; omega
  have nx1 : ¬ w4.heap.size = w.heap.size := by have := HX.out.lt; omega
  have nx2 : ¬ w4.heap.size = w.heap.size + 1 := by have := HY.out.lt; omega
  clear HK HX HY HF RA RB z0 z1 z2 hlu
  generalize w4.alloc (.cells #[.int .i64 F.kind, .int .i64 (s : Int), .bool F.fin, .bool F.eh, .bool F.ack, .bool F.prio, .slice A F.pay.length c, .int .i64 F.flags, .int .i64 F.pad, .int .i64 F.depend, .bool F.excl, .int .i64 F.weight, .int .u32 (F.code : Int), .slice B F.list.length d, .int .i64 F.last, .int .i64 F.inc] 27) = u3 at hZ hK' hX' hY' hF' ra' rb' ⊢
  generalize w4.heap.size = fb at hZ np nx1 nx2 ⊢
  have HK := Lib.hid hK'
  have HX := Lib.hid hX'
  have HY := Lib.hid hY'
  have HF := Lib.hid hF'
  have RA := Lib.hid ra'
  have RB := Lib.hid rb'
  have HZ := Lib.hid hZ
  clear hK' hX' hY' hF' ra' rb' hZ
  have z0 := HK.out.cell 0
  have z1 := HK.out.cell 1
  have z2 := HK.out.cell 2
  have hlu := HK.out.lt
  simp only [List.getElem?_cons_zero, List.getElem?_cons_succ] at z0 z1 z2
  have v0 := HZ.out.cell 0
  have v1 := HZ.out.cell 1
  have v2 := HZ.out.cell 2
  have v3 := HZ.out.cell 3
  have v4 := HZ.out.cell 4
  have v5 := HZ.out.cell 5
  have v6 := HZ.out.cell 6
  have v7 := HZ.out.cell 7
  have v8 := HZ.out.cell 8
  have v9 := HZ.out.cell 9
  have v10 := HZ.out.cell 10
  have v11 := HZ.out.cell 11
  have v12 := HZ.out.cell 12
  have v13 := HZ.out.cell 13
  have v14 := HZ.out.cell 14
  have v15 := HZ.out.cell 15
  simp only [List.getElem?_cons_zero, List.getElem?_cons_succ] at v0 v1 v2 v3 v4 v5 v6 v7 v8 v9 v10 v11 v12 v13 v14 v15
  have lz := HZ.out.lt
  go_cut [191] (fun t wx => t = .bool false ∧ wx = u3)
  case first =>
    try clear HM; try clear HJ; try clear HT0; try clear hbad; try clear HF; try clear HX; try clear HY; try clear HK; try clear HSt; try clear HSS; try clear h99; try clear h9n; try clear i3; try clear i4; try clear E3; try clear E4; try clear w1; try clear w2; try clear w3; try clear w4; try clear t9; try clear t3; try clear t4; try clear h1; try clear h2; try clear HRD; try clear esr; try clear esl; try clear lss; try clear GA; try clear GB; try clear RA; try clear RB; try clear HZ; try clear HPK; try clear HPT; try clear HP; try clear HT8; try clear wd; try clear hMn; try clear b0; try clear b8; try clear z0; try clear z1; try clear z2; try clear G1; try clear G2; try clear G3; try clear HLX; try clear H9; try clear HX24; try clear V64; try clear N0; try clear N3; try clear N4; try clear N5; try clear hss; try clear hrr; try clear np; try clear nx1; try clear nx2; try clear v0; try clear v1; try clear v2; try clear v3; try clear v4; try clear v5; try clear v6; try clear v7; try clear v8; try clear v9; try clear v10; try clear v11; try clear v12; try clear v13
    as_aux_lemma =>
      obtain ⟨c1, c2, c3, c4⟩ := H7.out
      go_wp2
      go_meet
      case rel => exact ⟨rfl, rfl⟩
  case' rest => obtain ⟨rfl, hw⟩ := hcut; rw [hw]; clear hw
  have hfz := HK.out.frozen 0
  go_upto_region 28 with (fail)
  have hZ' := HZ.out.far (p := ⟨p, 0, none⟩) np (.string ⟨rr.toArray⟩)
  have ra' := RA.out.fr (S := (· = p)) (Fr.setCell (S := (· = p)) (Fr.refl _ _) (p := ⟨p, 0, none⟩) (.inl rfl) (.string ⟨rr.toArray⟩)) (fun a ha => (GA.out a ha).1)
  have rb' := RB.out.fr (S := (· = p)) (Fr.setCell (S := (· = p)) (Fr.refl _ _) (p := ⟨p, 0, none⟩) (.inl rfl) (.string ⟨rr.toArray⟩)) (fun a ha => (GB.out a ha).1)
  clear HZ RA RB v0 v1 v2 v3 v4 v5 v6 v7 v8 v9 v10 v11 v12 v13 v14 v15 lz
  have hK9 := HK.out
  have hK' : Blk (u3.setCell ⟨p, 0, none⟩ (.string ⟨rr.toArray⟩)) p 55 [.string ⟨rr.toArray⟩, .int .i64 (m : Int), .bool false] := HK.out.set_ 0 (.string ⟨rr.toArray⟩)
  have hX' := HX.out.far (p := ⟨p, 0, none⟩) (fun e => by have := hpl.out; have e' : w.heap.size = p := e; omega) (.string ⟨rr.toArray⟩)
  have hY' := HY.out.far (p := ⟨p, 0, none⟩) (fun e => by have := hpl.out; have e' : w.heap.size + 1 = p := e; omega) (.string ⟨rr.toArray⟩)
  have hF' : Fr (· = p) w (u3.setCell ⟨p, 0, none⟩ (.string ⟨rr.toArray⟩)) := HF.out.trans (Fr.setCell (S := (· = p)) (Fr.refl _ _) (p := ⟨p, 0, none⟩) (.inl rfl) _) (fun _ _ h => h)
  clear HK HX HY HF z0 z1 z2 hlu hfz
  generalize u3.setCell ⟨p, 0, none⟩ (.string ⟨rr.toArray⟩) = u4 at hK' hX' hY' hF' hZ' ra' rb' ⊢
  have HK := Lib.hid hK'
  have HX := Lib.hid hX'
  have HY := Lib.hid hY'
  have HF := Lib.hid hF'
  clear hK' hX' hY' hF'
  have HZ := Lib.hid hZ'
  have RA := Lib.hid ra'
  have RB := Lib.hid rb'
  clear hZ' ra' rb' hK9
  have v0 := HZ.out.cell 0
  have v1 := HZ.out.cell 1
  have v2 := HZ.out.cell 2
  have v3 := HZ.out.cell 3
  have v4 := HZ.out.cell 4
  have v5 := HZ.out.cell 5
  have v6 := HZ.out.cell 6
  have v7 := HZ.out.cell 7
  have v8 := HZ.out.cell 8
  have v9 := HZ.out.cell 9
  have v10 := HZ.out.cell 10
  have v11 := HZ.out.cell 11
  have v12 := HZ.out.cell 12
  have v13 := HZ.out.cell 13
  have v14 := HZ.out.cell 14
  have v15 := HZ.out.cell 15
  simp only [List.getElem?_cons_zero, List.getElem?_cons_succ] at v0 v1 v2 v3 v4 v5 v6 v7 v8 v9 v10 v11 v12 v13 v14 v15
  have lz := HZ.out.lt
  go_cut [213] (fun t wx => t = .bool true ∧ wx = u4)
  case first =>
    try clear HM; try clear HJ; try clear HT0; try clear hbad; try clear HF; try clear HX; try clear HY; try clear HK; try clear HSt; try clear HSS; try clear h99; try clear h9n; try clear i3; try clear i4; try clear E3; try clear E4; try clear w1; try clear w2; try clear w3; try clear w4; try clear t9; try clear t3; try clear t4; try clear h1; try clear h2; try clear HRD; try clear esr; try clear esl; try clear lss; try clear GA; try clear GB; try clear RA; try clear RB; try clear HZ; try clear HPK; try clear HPT; try clear HP; try clear HT8; try clear wd; try clear hMn; try clear b0; try clear b8; try clear z0; try clear z1; try clear z2; try clear G1; try clear G2; try clear G3; try clear HLX; try clear H9; try clear HX24; try clear V64; try clear N0; try clear N3; try clear N4; try clear N5; try clear hss; try clear hrr; try clear np; try clear nx1; try clear nx2; try clear v0; try clear v1; try clear v2; try clear v3; try clear v4; try clear v5; try clear v6; try clear v7; try clear v8; try clear v9; try clear v10; try clear v11; try clear v12; try clear v13
    as_aux_lemma =>
      obtain ⟨c1, c2, c3, c4⟩ := H7.out
      go_wp2
      go_meet
      case rel => exact ⟨rfl, rfl⟩
  case' rest => obtain ⟨rfl, hw⟩ := hcut; rw [hw]; clear hw
  obtain ⟨r0, r1, r2, r3, r4, r5, r6, r7, r8, r9, r10, r11, r12, r13, r14, r15⟩ := cells16 (HX.out : Blk _ _ _ zero16)
  have q0 := HY.out.cell 0
  have q1 := HY.out.cell 1
  have q2 := HY.out.cell 2
  simp only [List.getElem?_cons_zero, List.getElem?_cons_succ] at q0 q1 q2
  have yf := fun i => HX.out.frozen i
  have yg := fun i => HY.out.frozen i
  have l1 := HX.out.lt
  have l2 := HY.out.lt
  go_wp2
  have hK2 : Blk u4 p 55 [.string ⟨(xs.drop (9 + n)).toArray⟩, .int .i64 (m : Int), .bool false] := by rw [hrr]; exact HK.out
  clear HK
  have HK := Lib.hid hK2
  obtain ⟨S1, S2⟩ := store16 (HX.out : Blk _ _ _ zero16) (.int .i64 0) (.int .i64 0) (.bool false) (.bool false) (.bool false) (.bool false) (.slice none 0 0) (.int .i64 0) (.int .i64 0) (.int .i64 0) (.bool false) (.int .i64 0) (.int .u32 0) (.slice none 0 0) (.int .i64 0) (.int .i64 0)
  obtain ⟨S3, S4⟩ := store3 (HY.out.fr S2 (fun e => by omega)) (.bool true) (.int .u32 1) (.int .i64 (s : Int))
  have s2 := S2.mono (S' := fun i => i = w.heap.size ∨ i = w.heap.size + 1) (fun i _ h => .inl h)
  have s4 := S4.mono (S' := fun i => i = w.heap.size ∨ i = w.heap.size + 1) (fun i _ h => .inr h)
  have hpl' := hpl.out
  exact bodyPost_ret (res_ffb (p := 2) (q := 3) (r := 4) rfl rfl rfl rfl rfl (S1.fr S4 (fun e => by omega)) S3) rfl ⟨none, 0, none, 0, rfl, Rd.nil _ _ _, Rd.nil _ _ _, (HK.out.fr S2 (fun e => by omega)).fr S4 (fun e => by omega), HF.out.trans (s2.trans s4 (fun _ _ h => h)) (fun i hi h => by rcases h with h | h <;> omega)⟩
end Go.Proofs.YtokbdkbljgdcpaaDoor

/- The document's Next: padding that is too much. -/
namespace Go.Proofs.YtokbdkbljgdcpaaDoor
open Go.RowKit Go.Own Go.Frm
set_option linter.unusedVariables false
set_option linter.unusedSimpArgs false
set_option maxRecDepth 100000
set_option maxHeartbeats 16000000 in
theorem rnx_pad {w : World} {p m n k fl s : Nat} {xs : List UInt8} (hin : NxIn w p m xs n k fl s) (h1 : ¬ m < n) (h2 : ¬ xs.length < 9 + n) (h3 : stray k (s : Int) = false) (h4 : badSize k fl n = false) (h5 : padded k fl = true) (h6 : n - must k fl < (((xs.drop 9).take n).headD 0).toNat) : Calls Tryd.prog 22 #[.pointer (some ⟨p, 0, none⟩)] w (RNx p m zeroF (conF 1) true [] true w) := by
  obtain ⟨hb, hx, hm, h9, hn, hk, hf, hs⟩ := hin
  have hlx : xs.length ≤ 140737488355328 := by omega
  obtain ⟨x3, h3⟩ : ∃ x, xs[3]? = some x := ⟨_, List.getElem?_eq_getElem (by omega)⟩
  obtain ⟨x4, h4⟩ : ∃ x, xs[4]? = some x := ⟨_, List.getElem?_eq_getElem (by omega)⟩
  have E3 : x3.toNat = k := by rw [← hk]; exact (nx_k xs 3 x3 h3).symm
  have E4 : x4.toNat = fl := by rw [← hf]; exact (nx_k xs 4 x4 h4).symm
  have k8 : k < 256 := by rw [← E3]; exact x3.toNat_lt
  have f8 : fl < 256 := by rw [← E4]; exact x4.toNat_lt
  have i3 := ba_el xs 3 x3 h3
  have i4 := ba_el xs 4 x4 h4
  have n24 : n < 16777216 := by rw [← hn]; exact num_take_lt _ 3
  obtain ⟨v, hv⟩ : ∃ v, num ((xs.drop 5).take 4) = v := ⟨_, rfl⟩
  have v32 : v < 4294967296 := by rw [← hv]; exact num_take_lt _ 4
  have hsv : low v = s := by rw [← hv]; exact hs
  have G1 : Hid (num ((xs.drop 0).take 3) = n) := hn
  have G2 := Lib.hid hv
  have G3 := Lib.hid hsv
  have HLX := Lib.hid hlx
  have N0 : Hid ((0 : Int) = ((0 : Nat) : Int)) := rfl
  have N3 : Hid ((3 : Int) = ((3 : Nat) : Int)) := rfl
  have N4 : Hid ((4 : Int) = ((4 : Nat) : Int)) := rfl
  have N5 : Hid ((5 : Int) = ((5 : Nat) : Int)) := rfl
  have H9 := Lib.hid h9
  have HX24 := Lib.hid hx
  have V64 : Hid (v < 18446744073709551616) := (by omega : v < 18446744073709551616)
  have w1 : IntKind.i64.wrap (n : Int) = (n : Int) := i64w (by omega)
  have w2 : IntKind.i64.wrap (k : Int) = (k : Int) := i64w (by omega)
  have w3 : IntKind.i64.wrap (fl : Int) = (fl : Int) := i64w (by omega)
  have w4 : IntKind.i64.wrap (9 + (n : Int)) = ((9 + n : Nat) : Int) := by rw [i64w (by omega)]; omega
  have t9 : ¬ xs.length < 9 := by omega
  have t3 : 3 < xs.length := by omega
  have t4 : 4 < xs.length := by omega
  have X2 := Lib.hid (blk_new1 w (.cells #[.bool false, .int .u32 0, .int .i64 0] 46) 27 [.int .i64 0, .int .i64 0, .bool false, .bool false, .bool false, .bool false, .slice none 0 0, .int .i64 0, .int .i64 0, .int .i64 0, .bool false, .int .i64 0, .int .u32 0, .slice none 0 0, .int .i64 0, .int .i64 0])
  have Y2 := Lib.hid (blk_new2 w (.cells #[.int .i64 0, .int .i64 0, .bool false, .bool false, .bool false, .bool false, .slice none 0 0, .int .i64 0, .int .i64 0, .int .i64 0, .bool false, .int .i64 0, .int .u32 0, .slice none 0 0, .int .i64 0, .int .i64 0] 27) 46 [.bool false, .int .u32 0, .int .i64 0])
  have K2 := Lib.hid ((hb.alloc (.cells #[.int .i64 0, .int .i64 0, .bool false, .bool false, .bool false, .bool false, .slice none 0 0, .int .i64 0, .int .i64 0, .int .i64 0, .bool false, .int .i64 0, .int .u32 0, .slice none 0 0, .int .i64 0, .int .i64 0] 27)).alloc (.cells #[.bool false, .int .u32 0, .int .i64 0] 46))
  have B2 := Lib.hid (((Below.refl _ w).alloc (Nat.le_refl _) (.cells #[.int .i64 0, .int .i64 0, .bool false, .bool false, .bool false, .bool false, .slice none 0 0, .int .i64 0, .int .i64 0, .int .i64 0, .bool false, .int .i64 0, .int .u32 0, .slice none 0 0, .int .i64 0, .int .i64 0] 27)).alloc (by simp) (.cells #[.bool false, .int .u32 0, .int .i64 0] 46))
  have hpl := Lib.hid hb.lt
  clear hb hn hk hf hs hv hsv h3 h4 hlx hx h9 hm
  go_enter Tryd.func22, Tryd.ntmps22
  go_upto_region 1 with (fail)
  generalize ((w.alloc (.cells #[.int .i64 0, .int .i64 0, .bool false, .bool false, .bool false, .bool false, .slice none 0 0, .int .i64 0, .int .i64 0, .int .i64 0, .bool false, .int .i64 0, .int .u32 0, .slice none 0 0, .int .i64 0, .int .i64 0] 27)).alloc (.cells #[.bool false, .int .u32 0, .int .i64 0] 46)) = u at K2 X2 Y2 B2 ⊢
  have HK := Lib.hid K2.out
  have HX := Lib.hid X2.out
  have HY := Lib.hid Y2.out
  have HF : Hid (Fr (· = p) w u) := Fr.of_below B2.out (fun i h1 h2 => absurd h1 (by omega))
  have z0 := HK.out.cell 0
  have z1 := HK.out.cell 1
  have z2 := HK.out.cell 2
  have hlu := HK.out.lt
  simp only [List.getElem?_cons_zero, List.getElem?_cons_succ] at z0 z1 z2
  clear K2 X2 Y2 B2
  have HSt := Lib.hid h3
  have hbad := Lib.hid h4
  clear h3 h4
  have h9n : 9 + n ≤ xs.length := by omega
  have h99 : 9 ≤ 9 + n := by omega
  obtain ⟨ss, hss⟩ : ∃ ss, (xs.drop 9).take n = ss := ⟨_, rfl⟩
  have esl : ({ data := xs.toArray } : ByteArray).extract 9 (9 + n) = ⟨ss.toArray⟩ := by rw [ba_ext, show 9 + n - 9 = n by omega, hss]
  have lss : ss.length = n := by rw [← hss, List.length_take, List.length_drop]; omega
  obtain ⟨M, hM⟩ : ∃ M, must k fl = M := ⟨_, rfl⟩
  obtain ⟨J, hJ⟩ : ∃ J, just k = J := ⟨_, rfl⟩
  obtain ⟨t0, ht0⟩ : ∃ t, fl.testBit 0 = t := ⟨_, rfl⟩
  have b0 : (bits .and .i64 (fl : Int) 1 != 0) = t0 := by rw [← ht0]; exact and_pow fl 0 (by omega) (by omega)
  have HM := Lib.hid hM
  have HJ := Lib.hid hJ
  have HT0 := Lib.hid ht0
  have HSS := Lib.hid hss
  clear hM hJ ht0 hss
  obtain ⟨pB, hpB⟩ : ∃ b, hP k = b := ⟨_, rfl⟩
  obtain ⟨t8, ht8⟩ : ∃ b, fl.testBit 3 = b := ⟨_, rfl⟩
  have b8 : (bits .and .i64 (fl : Int) 8 != 0) = t8 := by rw [← ht8]; exact and_pow fl 3 (by omega) (by omega)
  have HP := Lib.hid hpB
  have HT8 := Lib.hid ht8
  have hpd : padded k fl = (pB && t8) := by unfold padded; rw [hpB, ht8]
  clear hpB ht8
  have hMn : M ≤ n := by
    have h4 := hbad.out
    rw [← HM.out]
    unfold badSize at h4
    simp at h4
    omega
  rw [hpd] at h5
  have hp1 : pB = true := by cases pB <;> simp_all
  have hp2 : t8 = true := by cases t8 <;> simp_all
  subst hp1
  subst hp2
  have hn0 : 0 < ss.length := by
    rcases Nat.eq_zero_or_pos ss.length with h | h
    · have e : ss = [] := List.eq_nil_of_length_eq_zero h
      rw [HSS.out, e] at h6
      simp at h6
    · exact h
  obtain ⟨y0, hy0⟩ : ∃ y, ss[0]? = some y := ⟨_, List.getElem?_eq_getElem hn0⟩
  have i0 := ba_el ss 0 y0 hy0
  obtain ⟨yn, hyn⟩ : ∃ q, y0.toNat = q := ⟨_, rfl⟩
  have h8 : n - M < yn := by
    rw [← hyn, ← HM.out]
    have e : ss.headD 0 = y0 := by rw [List.headD_eq_head?_getD, List.head?_eq_getElem?, hy0]; rfl
    rw [HSS.out, e] at h6
    exact h6
  have y256 : yn < 256 := by rw [← hyn]; exact y0.toNat_lt
  have wy : IntKind.i64.wrap (yn : Int) = (yn : Int) := i64w (by omega)
  have wd : IntKind.i64.wrap ((n : Int) - (M : Int)) = ((n - M : Nat) : Int) := by rw [i64w (by omega)]; omega
  have h9 : ((n - M : Nat) : Int) < (yn : Int) := by omega
  clear h5 h6 hpd hy0
  go_upto_region 15 with (first
    | (go_at_call 42; (with_reducible refine (get_w xs 0 3 _ _ N0.out N3.out (by have := H9.out; omega) HLX.out (by omega) n G1.out _).mono ?_); rintro e w9 ⟨rfl, hw9⟩; rw [hw9]; clear hw9)
    | (go_at_call 42; (with_reducible refine (get_w xs 5 4 _ _ N5.out N4.out (by have := H9.out; omega) HLX.out (by omega) v G2.out _).mono ?_); rintro e w9 ⟨rfl, hw9⟩; rw [hw9]; clear hw9)
    | (go_at_call 43; (with_reducible refine (low_w v s G3.out V64.out _).mono ?_); rintro e w9 ⟨rfl, hw9⟩; rw [hw9]; clear hw9)
    | (go_at_call 45; (with_reducible refine (stray_w k s _ HSt.out _).mono ?_); rintro e w9 ⟨rfl, hw9⟩; rw [hw9]; clear hw9)
    | (go_at_call 46; (with_reducible refine (least_w k fl k8 f8 M J HM.out HJ.out _).mono ?_); rintro e w7 ⟨rfl, hb⟩
       have hK' := blk_below HK.out hb
       have hX' := blk_below HX.out hb
       have hY' := blk_below HY.out hb
       have hF' : Fr (· = p) w w7 := HF.out.trans (Fr.of_below (S := (· = p)) hb (fun i h1 h2 => absurd h1 (by omega))) (fun _ _ h => h)
       clear HK HX HY HF z0 z1 z2 hlu hb
       have HK := Lib.hid hK'
       have HX := Lib.hid hX'
       have HY := Lib.hid hY'
       have HF := Lib.hid hF'
       clear hK' hX' hY' hF'
       have z0 := HK.out.cell 0
       have z1 := HK.out.cell 1
       have z2 := HK.out.cell 2
       have hlu := HK.out.lt
       simp only [List.getElem?_cons_zero, List.getElem?_cons_succ] at z0 z1 z2))
  go_cut [122] (fun s wx => s = .bool false ∧ wx = w7)
  case first =>
    have r6 : (n : Int).tmod 6 = ((n % 6 : Nat) : Int) := by rw [Int.tmod_eq_emod_of_nonneg (by omega)]; omega
    have ways := bad_ways HM.out HJ.out HT0.out hbad.out
    clear HM HJ HT0 hbad HF HK HX HY z0 z1 z2 hlu HSt HSS esl lss h99 h9n i3 i4 E3 E4 w1 w2 w3 w4 t9 t3 t4 h1 h2
    rcases ways with ⟨c1, c2⟩ | ⟨c1, rfl, c2, c3⟩ | ⟨c1, rfl | ⟨rfl, rfl⟩, c3, c4⟩ | ⟨c1, rfl, c3, c4, c5⟩ | ⟨c1, rfl, c3, c4, rfl, c5, c6⟩ | ⟨c1, rfl, c3, c4, rfl, c5, c6⟩ | ⟨c1, rfl, c3, c4, rfl, c5⟩
    · go_wp2
      go_meet
      case rel => first | exact ⟨rfl, rfl⟩ | cases c2
    · have e1 : (n != M) = true := by simpa using c2
      have e2 : ((n : Int) != (M : Int)) = true := by simp; omega
      clear r6 c2
      go_wp2
      go_meet
      case rel => first | exact ⟨rfl, rfl⟩ | cases c3
    · have e1 : ((k : Int) == 4) = false := by simp; omega
      clear r6 c3
      go_wp2
      go_meet
      case rel => first | exact ⟨rfl, rfl⟩ | cases c4
    · have e1 : ((k : Int) == 4) = false := by simp; omega
      clear r6 c3
      go_wp2
      go_meet
      case rel => first | exact ⟨rfl, rfl⟩ | cases c4
    · have e1 : ((k : Int) == 4) = true := by simp; omega
      obtain ⟨q6, hq6⟩ : ∃ q, n % 6 = q := ⟨_, rfl⟩
      rw [hq6] at c4 r6
      have r7 : (n : Int) % 6 = (q6 : Int) := by omega
      have e2 : ((q6 : Int) != 0) = true := by simp; omega
      have e3 : (q6 != 0) = true := by simpa using c4
      clear c3 hq6
      go_wp2
      go_meet
      case rel => first | exact ⟨rfl, rfl⟩ | cases c5
    · have e1 : ((k : Int) == 4) = true := by simp; omega
      have e2 : (n : Int).tmod 6 = 0 := by rw [r6, c4]; rfl
      have r7 : (n : Int) % 6 = 0 := by omega
      have e4 : (0 : Int) < (n : Int) := by omega
      have e5 : decide (0 < n) = true := decide_eq_true c5
      clear c3 c4 r6
      go_wp2
      go_meet
      case rel => first | exact ⟨rfl, rfl⟩ | exact ⟨by rw [e5], rfl⟩ | cases c6
    · have e1 : ((k : Int) == 4) = true := by simp; omega
      have e2 : (n : Int).tmod 6 = 0 := by rw [r6, c4]; rfl
      have r7 : (n : Int) % 6 = 0 := by omega
      have e3 : ¬ 0 < n := by omega
      clear c3 c4 r6 c5
      go_wp2
      go_meet
      case rel => first | exact ⟨rfl, rfl⟩ | cases c6
    · have e1 : ((k : Int) == 4) = true := by simp; omega
      have e2 : (n : Int).tmod 6 = 0 := by rw [r6, c4]; rfl
      have r7 : (n : Int) % 6 = 0 := by omega
      clear c3 c4 r6
      go_wp2
      go_meet
      case rel => first | exact ⟨rfl, rfl⟩ | cases c5
  case' rest => obtain ⟨rfl, hw⟩ := hcut; rw [hw]; clear hw
  go_wp2_with (first
    | (go_at_call 48; (with_reducible refine (has_c k _).mono ?_); rintro e w6 ⟨rfl, hb⟩
       have hK' := blk_below HK.out hb
       have hX' := blk_below HX.out hb
       have hY' := blk_below HY.out hb
       have hF' : Fr (· = p) w w6 := HF.out.trans (Fr.of_below (S := (· = p)) hb (fun i h1 h2 => absurd h1 (by omega))) (fun _ _ h => h)
       clear HK HX HY HF z0 z1 z2 hlu hb
       have HK := Lib.hid hK'
       have HX := Lib.hid hX'
       have HY := Lib.hid hY'
       have HF := Lib.hid hF'
       clear hK' hX' hY' hF'
       have z0 := HK.out.cell 0
       have z1 := HK.out.cell 1
       have z2 := HK.out.cell 2
       have hlu := HK.out.lt
       simp only [List.getElem?_cons_zero, List.getElem?_cons_succ] at z0 z1 z2)
    | (go_at_call 47; (with_reducible refine (ltr_p k _ HP.out _).mono ?_); rintro e w5 ⟨rfl, hw5⟩; rw [hw5]; clear hw5)
    | (go_at_call 44; (with_reducible refine (broken_w HK.out 1 1 rfl).mono ?_); rintro e w8 ⟨rfl, hb8, hf8⟩
       have hX' := HX.out.fr hf8 (fun e => by have := hpl.out; omega)
       have hY' := HY.out.fr hf8 (fun e => by have := hpl.out; omega)
       have hF' : Fr (· = p) w w8 := HF.out.trans hf8 (fun _ _ h => h)
       clear HK HX HY HF z0 z1 z2 hlu hf8
       have HK := Lib.hid hb8
       have HX := Lib.hid hX'
       have HY := Lib.hid hY'
       have HF := Lib.hid hF'
       clear hb8 hX' hY' hF'
       obtain ⟨r0, r1, r2, r3, r4, r5, r6, r7, r8, r9, r10, r11, r12, r13, r14, r15⟩ := cells16 (HX.out : Blk _ _ _ zero16)
       have q0 := HY.out.cell 0
       have q1 := HY.out.cell 1
       have q2 := HY.out.cell 2
       simp only [List.getElem?_cons_zero, List.getElem?_cons_succ] at q0 q1 q2
       have yf := fun i => HX.out.frozen i
       have yg := fun i => HY.out.frozen i
       have l1 := HX.out.lt
       have l2 := HY.out.lt))
  obtain ⟨S1, S2⟩ := store16 (HX.out : Blk _ _ _ zero16) (.int .i64 0) (.int .i64 0) (.bool false) (.bool false) (.bool false) (.bool false) (.slice none 0 0) (.int .i64 0) (.int .i64 0) (.int .i64 0) (.bool false) (.int .i64 0) (.int .u32 0) (.slice none 0 0) (.int .i64 0) (.int .i64 0)
  obtain ⟨S3, S4⟩ := store3 (HY.out.fr S2 (fun e => by omega)) (.bool true) (.int .u32 1) (.int .i64 0)
  have s2 := S2.mono (S' := fun i => i = w.heap.size ∨ i = w.heap.size + 1) (fun i _ h => .inl h)
  have s4 := S4.mono (S' := fun i => i = w.heap.size ∨ i = w.heap.size + 1) (fun i _ h => .inr h)
  have hpl' := hpl.out
  exact bodyPost_ret (res_ffb (p := 2) (q := 3) (r := 4) rfl rfl rfl rfl rfl (S1.fr S4 (fun e => by omega)) S3) rfl ⟨none, 0, none, 0, rfl, Rd.nil _ _ _, Rd.nil _ _ _, (HK.out.fr S2 (fun e => by omega)).fr S4 (fun e => by omega), HF.out.trans (s2.trans s4 (fun _ _ h => h)) (fun i hi h => by rcases h with h | h <;> omega)⟩
end Go.Proofs.YtokbdkbljgdcpaaDoor
