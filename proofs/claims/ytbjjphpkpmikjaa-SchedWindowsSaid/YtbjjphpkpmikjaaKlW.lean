/- The law SchedWindows: the walk. -/
import Derived.Test.YtbjjphpkpmikjaaKiV
namespace Go.Proofs.Ytbjjphpkpmikjaa
open Go.RowKit Go.Own Go.Sch
set_option linter.unusedVariables false
set_option linter.unusedSimpArgs false
set_option maxRecDepth 100000
set_option maxHeartbeats 32000000 in
theorem lawWindows {w0 : World} {A C G : Option Addr} {n c nc cc ng cg : Nat} {l : List Rw} {zs gs : List Int} (most : Int) (hr : Rd w0 3 A n (rcells l)) (hn : l.length = n) (hc : Rd w0 1 C nc (zs.map (Value.int .i64))) (hz : zs.length = nc)
    (hzr : ∀ x ∈ zs, -9223372036854775808 ≤ x ∧ x ≤ 9223372036854775807) (hg : Rd w0 1 G ng (gs.map (Value.int .i64))) (hgl : gs.length = ng) :
    Calls Try.prog 3 #[.int .i64 most, .slice A n c, .slice C nc cc, .slice G ng cg] w0 fun e w' => e = .returned (.bool true) ∧ Below w0.heap.size w0 w' := by
  obtain ⟨M, hM⟩ : ∃ M, min nc 200 = M := ⟨_, rfl⟩
  obtain ⟨fl, hfl⟩ : ∃ fl, flowsOf l = fl := ⟨_, rfl⟩
  obtain ⟨N, hN⟩ : ∃ N, fl.length = N := ⟨_, rfl⟩
  obtain ⟨F, hF⟩ : ∃ F, frV most = F := ⟨_, rfl⟩
  have hok := flowsOf_ok l most
  rw [hF, hfl] at hok
  have hN30 : N ≤ 30 := by rw [← hN, ← hfl, flowsOf_length]; omega
  have hfb := FB.start l
  rw [hfl] at hfb
  have HM := Lib.hid hM
  have HF := Lib.hid hF
  have HNl := Lib.hid hN
  have HFl := Lib.hid hfl
  have HR := Lib.hid hr
  have Hn := Lib.hid hn
  have HC := Lib.hid hc
  have HZ := Lib.hid hz
  have HZr := Lib.hid hzr
  have HG := Lib.hid hg
  have HGl := Lib.hid hgl
  have HOk0 : Hid (SdOk (qOf fl) 65535 F ∧ Ties (qOf fl) fl ∧ fl.length = N ∧ FB 0 fl ∧ (0 : Int) ≤ 65535 ∧ (65535 : Int) ≤ 65535 + 65535 * ((0 : Nat) : Int)) := ⟨hok, qOf_ties fl, hN, hfb, by omega, by omega⟩
  have HN30 := Lib.hid hN30
  clear hM hN hr hn hfl hok hF hN30 hfb hc hz hzr hg hgl
  go_enter Try.func3, Try.ntmps3
  go_upto_region 5 with (first
    | (go_at_call 8; (with_reducible refine (shown_c _).mono ?_); rintro e w1 ⟨rfl, hb1⟩
       have HB1 := Lib.hid hb1
       have HR1 := Lib.hid (HR.out.below hb1)
       clear hb1)
    | (go_at_call 9; (with_reducible refine (put_c HR1.out Hn.out most F HF.out).mono ?_); rintro e w2 ⟨p, Af, df, rfl, t2⟩
       rw [HFl.out, HNl.out] at t2 ⊢
       have T2 := Lib.hid t2
       clear t2))
  go_wp2
  go_loopg [13, 12] M (fun gh i al wr => ∃ (k : Nat) (q : List Fl) (W : Int) (fs : List Fw), gh + k = M ∧ i = .int .i64 k ∧ al = .int .i64 W ∧ Hid (SdOk q W F ∧ Ties q fs ∧ fs.length = N ∧ FB k fs ∧ 0 ≤ W ∧ W ≤ 65535 + 65535 * (k : Int)) ∧
    Hid (St (fun _ => False) w1 wr [SO p [] q W F, QO 32 3 (.slice Af N df) N (wcells fs)]))
  case atStart => exact ⟨0, _, _, _, by omega, rfl, rfl, HOk0.out, T2.out⟩
  case round =>
    obtain ⟨k, q, W, fs, hgk, rfl, rfl, HOk, HS⟩ := hrel
    clear T2 HOk0
    have hM := HM.out
    cases gk with
    | zero =>
      as_aux_lemma =>
      obtain rfl : k = M := by omega
      have hend : ¬ k < nc ∨ (k < nc ∧ ¬ k < 200) := by omega
      clear hgk hM
      rcases hend with h1 | ⟨h1, h2⟩
      all_goals
        go_wp2_with (first
          | (go_at_call 12; (with_reducible refine (window_c HS.out).mono ?_); rintro e w7 ⟨rfl, hw7⟩; subst hw7))
        go_ret
        exact ⟨rfl, HB1.out.trans (HS.out.below.mono HB1.out.size)⟩
    | succ g1 =>
      have hkc : k < nc := by omega
      have hk200 : k < 200 := by omega
      have hk99 := Lib.hid hk200
      clear hM
      go_upto_block 1 with (fail)
      clear hk200
      go_step
      go_step
      go_cut [12] (fun al wx => ∃ (q : List Fl) (W : Int) (fs : List Fw), al = .int .i64 W ∧ Hid (SdOk q W F ∧ Ties q fs ∧ fs.length = N ∧ FB (k + 1) fs ∧ 0 ≤ W ∧ W ≤ 65535 + 65535 * ((k + 1 : Nat) : Int)) ∧
        Hid (St (fun _ => False) w1 wx [SO p [] q W F, QO 32 3 (.slice Af N df) N (wcells fs)]))
      case first =>
        as_aux_lemma =>
        by_cases hgo : k < ng
        · obtain ⟨gz, hgz⟩ : ∃ gz, gs[k]? = some gz := ⟨gs[k]'(by rw [HGl.out]; exact hgo), List.getElem?_eq_getElem _⟩
          obtain ⟨bg, og, rfl, hgc⟩ := HG.out.2 (by omega)
          have c0 : w0.cell? ⟨bg, og + k, none⟩ = some (.int .i64 gz) := hgc _ _ (by rw [List.getElem?_map, hgz]; rfl)
          have c1 := cell_to11 (HB1.out.trans (HS.out.below.mono HB1.out.size)) c0
          have gl := World.block_lt_of_cell? _ _ c1
          obtain ⟨g16, hg16⟩ : ∃ g16, a16 gz = g16 := ⟨_, rfl⟩
          have m1 := a16_eq gz
          rw [hg16] at m1
          obtain ⟨m1, m2⟩ := m1
          obtain ⟨h, hh⟩ : ∃ h, a5 (gz / 65536) = h := ⟨_, rfl⟩
          have m3 := a5_eq (gz / 65536)
          rw [hh] at m3
          obtain ⟨m3, m4⟩ := m3
          have m5 : IntKind.i64.wrap (2 * (h : Int)) = 2 * (h : Int) := w64 (by omega) (by omega)
          have m6 : IntKind.i64.wrap (2 * (h : Int) + 1) = 2 * (h : Int) + 1 := w64 (by omega) (by omega)
          obtain ⟨u1, u2, u3, u4, u5, u6⟩ := HOk.out
          have hk99' := hk99.out
          obtain ⟨W', hW'⟩ : ∃ W', W + (g16 : Int) = W' := ⟨_, rfl⟩
          have w1' : IntKind.i64.wrap (W + (g16 : Int)) = W' := by rw [w64 (by omega) (by omega), hW']
          have HWW := Lib.hid hW'
          have HWb : Hid (-2147483647 ≤ W ∧ W ≤ 2147483647 ∧ -2147483647 - W ≤ (g16 : Int) ∧ (g16 : Int) ≤ 2147483647 - W) := by unfold Hid; omega
          have hok3 : SdOk q W' F := ⟨u1.fl, u1.len, by omega, by omega, u1.f1, u1.f2⟩
          have HLq : Hid (q.length ≤ 1000) := u1.len
          have HId0 : Hid (¬ 2 * (h : Int) + 1 = 0) := by unfold Hid; omega
          have q1 : (2 * (h : Int) + 1).tdiv 2 = (h : Int) := by rw [Int.tdiv_eq_ediv_of_nonneg (by omega)]; omega
          have q2 : (2 * (h : Int) + 1) / 2 = (h : Int) := by omega
          have q6 : IntKind.i64.wrap (h : Int) = (h : Int) := w64 (by omega) (by omega)
          clear hgz hgc c0 hg16 hh
          cases ha : atQ (2 * h + 1) q with
          | none =>
            have HNo : Hid (∀ f ∈ q, (f.id : Int) ≠ 2 * (h : Int) + 1) := fun f hf e => atQ_none ha f hf (by omega)
            have HOk2 : Hid (SdOk q W' F ∧ Ties q fs ∧ fs.length = N ∧ FB (k + 1) fs ∧ 0 ≤ W' ∧ W' ≤ 65535 + 65535 * ((k + 1 : Nat) : Int)) := ⟨hok3, u2, u3, u4.up, by omega, by omega⟩
            clear ha u1 u2 u3 u4 u5 u6 hk99' hok3 hW'
            as_aux_lemma =>
            go_wp2_with (first
              | (go_at_call 10; (with_reducible refine (grant0I HS.out _ W' HWW.out HWb.out.1 HWb.out.2.1 HWb.out.2.2.1 HWb.out.2.2.2).mono ?_); rintro e w3 ⟨rfl, t3⟩
                 have T3 := Lib.hid t3
                 clear t3)
              | (go_at_call 10; (with_reducible refine (grantS_none T3.out HLq.out _ HId0.out HNo.out _).mono ?_); rintro e w4 ⟨rfl, t4⟩
                 have T4 := Lib.hid t4
                 clear t4))
            go_meet
            exact ⟨q, W', fs, rfl, HOk2.out, T4.out⟩
          | some f =>
            obtain ⟨ql, qr, hq, hid, hna⟩ := atQ_split ha
            have hfm : f ∈ q := by rw [hq]; simp
            obtain ⟨h', hh1, hh2, hh3⟩ := u2.id_lt hfm
            obtain rfl : h' = h := by omega
            have hfb := u4.at_ hh3
            have HQ := Lib.hid hq
            have HId : Hid ((f.id : Int) = 2 * (h' : Int) + 1) := by unfold Hid; omega
            have HNa : Hid (∀ g ∈ ql, (g.id : Int) ≠ 2 * (h' : Int) + 1) := fun g hg e => hna g hg (by omega)
            obtain ⟨b, o, rfl⟩ := flow_from HS.out (by omega)
            obtain ⟨v, hv⟩ : ∃ v, f.win + (g16 : Int) = v := ⟨_, rfl⟩
            have w2' : IntKind.i64.wrap (f.win + (g16 : Int)) = v := by rw [w64 (by simp only at hfb; omega) (by simp only at hfb; omega), hv]
            have hfb2 : -2147483647 ≤ f.win ∧ f.win ≤ 2147483647 ∧ -2147483647 - f.win ≤ (g16 : Int) ∧ (g16 : Int) ≤ 2147483647 - f.win := by simp only at hfb; omega
            have HFb := Lib.hid hfb2
            have hN2 : (h' : Int) < (N : Int) := by omega
            have HX := Lib.hid hh3
            have HOk2 : Hid (SdOk (ql ++ ⟨f.id, f.win + (g16 : Int), f.wait, f.en⟩ :: qr) W' F ∧ Ties (ql ++ ⟨f.id, f.win + (g16 : Int), f.wait, f.en⟩ :: qr) (fs.set h' ⟨v, f.wait, f.en⟩) ∧ (fs.set h' ⟨v, f.wait, f.en⟩).length = N ∧ FB (k + 1) (fs.set h' ⟨v, f.wait, f.en⟩) ∧ 0 ≤ W' ∧ W' ≤ 65535 + 65535 * ((k + 1 : Nat) : Int)) := by
              refine ⟨(hq ▸ hok3 : SdOk (ql ++ f :: qr) W' F).grant (by omega) (by omega), ?_, by rw [List.length_set]; exact u3, u4.up.set _ ?_, by omega, by omega⟩
              · rw [← hv]
                exact (hq ▸ u2 : Ties (ql ++ f :: qr) fs).grant2 hid hh3 _
              · simp only at hfb ⊢
                omega
            obtain ⟨fv, hfv⟩ : ∃ fv, f.win = fv := ⟨_, rfl⟩
            have hset : ∀ w', St (fun _ => False) w1 w' [SO p [] (ql ++ ⟨f.id, f.win + (g16 : Int), f.wait, f.en⟩ :: qr) W' F, QO 32 3 (.slice (some ⟨b, o, none⟩) N df) N (wcells fs)] →
                w'.cell? ⟨b, o + h' * 3, none⟩ = some (.int .i64 fv) ∧ b < w'.heap.size ∧ w'.frozen? ⟨b, o + h' * 3, none⟩ = false ∧
                St (fun _ => False) w1 (w'.setCell ⟨b, o + h' * 3, none⟩ (.int .i64 v)) [SO p [] (ql ++ ⟨f.id, f.win + (g16 : Int), f.wait, f.en⟩ :: qr) W' F, QO 32 3 (.slice (some ⟨b, o, none⟩) N df) N (wcells (fs.set h' ⟨v, f.wait, f.en⟩))] := fun w' s' => by
              obtain ⟨i1, i2⟩ := flow_cell s' (j := 0) hh3 (by omega)
              obtain ⟨i3, i4⟩ := flow_set s' hh3 0 (by omega) (.int .i64 v) rfl ⟨v, f.wait, f.en⟩ rfl
              rw [← hfv]
              exact ⟨i1, i2, i4, i3⟩
            have HSet := Lib.hid hset
            rw [hfv] at w2'
            clear ha u1 u2 u3 u4 u5 u6 hk99' hok3 hW' hq hid hna hfm hh1 hh2 hh3 hfb hv hfb2 hset hfv
            as_aux_lemma =>
            go_wp2_with (first
              | (go_at_call 10; (with_reducible refine (grant0I HS.out _ W' HWW.out HWb.out.1 HWb.out.2.1 HWb.out.2.2.1 HWb.out.2.2.2).mono ?_); rintro e w3 ⟨rfl, t3⟩
                 have T3 := Lib.hid t3
                 clear t3)
              | (go_at_call 10; (with_reducible refine (grantS_ok T3.out HLq.out _ HId0.out HQ.out HId.out HNa.out _ HFb.out.1 HFb.out.2.1 HFb.out.2.2.1 HFb.out.2.2.2).mono ?_); rintro e w4 ⟨rfl, t4⟩
                 obtain ⟨d1, d2, d3, t5⟩ := HSet.out _ t4
                 have T5 := Lib.hid t5
                 clear t4 t5))
            go_meet
            exact ⟨_, W', _, rfl, HOk2.out, T5.out⟩
        · have HOk2 : Hid (SdOk q W F ∧ Ties q fs ∧ fs.length = N ∧ FB (k + 1) fs ∧ 0 ≤ W ∧ W ≤ 65535 + 65535 * ((k + 1 : Nat) : Int)) := by
            obtain ⟨u1, u2, u3, u4, u5, u6⟩ := HOk.out
            exact ⟨u1, u2, u3, u4.up, u5, by omega⟩
          as_aux_lemma =>
          go_wp2
          go_meet
          exact ⟨q, W, fs, rfl, HOk2.out, HS.out⟩
      case rest =>
        clear HS HOk
        obtain ⟨q, W, fs, rfl, HOk, HS⟩ := hcut
        obtain ⟨cz, hcz⟩ : ∃ cz, zs[k]? = some cz := ⟨zs[k]'(by rw [HZ.out]; exact hkc), List.getElem?_eq_getElem _⟩
        obtain ⟨bc, oc, rfl, hcc⟩ := HC.out.2 (by omega)
        have c0 : w0.cell? ⟨bc, oc + k, none⟩ = some (.int .i64 cz) := hcc _ _ (by rw [List.getElem?_map, hcz]; rfl)
        have hcap := HZr.out cz (List.mem_of_getElem? hcz)
        have hce : ∀ w', St (fun _ => False) w1 w' [] → w'.cell? ⟨bc, oc + k, none⟩ = some (.int .i64 cz) ∧ bc < w'.heap.size := fun w' s' => by
          have h := cell_to11 (HB1.out.trans (s'.below.mono HB1.out.size)) c0
          exact ⟨h, World.block_lt_of_cell? _ _ h⟩
        have HCe := Lib.hid hce
        have HCap := Lib.hid hcap
        obtain ⟨c1, gl⟩ := hce _ (St.drop0 (St.drop0 HS.out))
        have hk99' := hk99.out
        have i3 : IntKind.i64.wrap ((k : Int) + 1) = (k : Int) + 1 := w64 (by omega) (by omega)
        have hkci : (k : Int) < (nc : Int) := by omega
        clear hcz hcc c0 hcap hce
        rcases hnx : nextQ W F cz.toNat q with _ | ⟨id, nn, z, q'⟩
        · have HNx := Lib.hid hnx
          clear hnx hk99'
          as_aux_lemma =>
          go_wp2_with (first
            | (go_at_call 11; (with_reducible refine (next_none HS.out HOk.out.1 cz HCap.out HNx.out).mono ?_); rintro e w6 ⟨rfl, t6⟩
               have T6 := Lib.hid (t6.alloc (.cells #[.slice none 0 0, .int .i64 0, .int .i64 0, .bool false] 35))
               clear t6))
          go_roundg g1
          case measure => omega
          case rel => exact ⟨k + 1, q, W, fs, by omega, by go_num, rfl, HOk.out, T6.out⟩
        · obtain ⟨u1, u2, u3, u4, u5, u6⟩ := HOk.out
          obtain ⟨s1, s2, s3⟩ := next_small u1 u5 hnx
          obtain ⟨y, x, hid, hx, n1, n2, n3, n4, n5, n6, n7, n8⟩ := u2.next (by have := u1.f1; omega) hnx
          have hxb := u4.at_ hx
          have hyN : y < N := by rw [← u3]; exact (List.getElem?_eq_some_iff.1 hx).1
          obtain ⟨W', hW'⟩ : ∃ W', W - (nn : Int) = W' := ⟨_, rfl⟩
          rw [hW'] at s1 s2
          obtain ⟨idI, hidI⟩ : ∃ idI, ((id : Nat) : Int) = idI := ⟨_, rfl⟩
          obtain ⟨xw, hxw⟩ : ∃ xw, x.win = xw := ⟨_, rfl⟩
          obtain ⟨xo, hxo⟩ : ∃ xo, x.oct = xo := ⟨_, rfl⟩
          obtain ⟨xe, hxe⟩ : ∃ xe, x.en = xe := ⟨_, rfl⟩
          obtain ⟨v1, hv1⟩ : ∃ v1, xw - (nn : Int) = v1 := ⟨_, rfl⟩
          obtain ⟨o1, ho1⟩ : ∃ o1, xo - nn = o1 := ⟨_, rfl⟩
          obtain rfl : x = ⟨xw, xo, xe⟩ := by cases x; simp only at hxw hxo hxe; rw [hxw, hxo, hxe]
          simp only at n1 n5 n6 n8 hxb
          clear hxw hxo hxe
          rw [hv1, ho1] at n8
          have hy30 : N ≤ 30 := HN30.out
          have q1 : idI.tdiv 2 = (y : Int) := by rw [Int.tdiv_eq_ediv_of_nonneg (by omega)]; omega
          have q2 : idI / 2 = (y : Int) := by omega
          have q3 : ¬ idI < 1 := by omega
          have q4 : bits .and .i64 idI 1 = 1 := by rw [show idI = ((2 * y + 1 : Nat) : Int) by omega]; exact bit_odd y (by omega)
          have q5 : ¬ (N : Int) ≤ (y : Int) := by omega
          have q6 : IntKind.i64.wrap (y : Int) = (y : Int) := w64 (by omega) (by omega)
          have q7 : ¬ (nn : Int) < 0 := by omega
          have hf2 := u1.f2
          have q8 : IntKind.i64.wrap ((nn : Int) + 9) = (nn : Int) + 9 := w64 (by omega) (by omega)
          have q9 : ¬ cz < (nn : Int) + 9 := by omega
          have hFm := frV_max most
          rw [HF.out] at hFm
          have q10 : ¬ max most 1 < (nn : Int) := by omega
          have q11 : (y : Int) < (N : Int) := by omega
          have w1' : IntKind.i64.wrap (xw - (nn : Int)) = v1 := by rw [w64 (by omega) (by omega), hv1]
          have w2' : IntKind.i64.wrap ((xo : Int) - (nn : Int)) = (o1 : Int) := by rw [w64 (by omega) (by omega)]; omega
          have w3' : IntKind.i64.wrap (W - (nn : Int)) = W' := by rw [w64 (by omega) (by omega), hW']
          have HQs : Hid (decide (idI < 1) = false ∧ decide (N ≤ y) = false ∧ decide ((nn : Int) < 0) = false ∧ decide (cz < (nn : Int) + 9) = false ∧ decide (max most 1 < (nn : Int)) = false) := ⟨decide_eq_false q3, decide_eq_false (by omega), decide_eq_false q7, decide_eq_false q9, decide_eq_false q10⟩
          clear q3 q5 q7 q9 q10
          have HI1 := Lib.hid hidI
          have HWW := Lib.hid hW'
          have HNx := Lib.hid hnx
          obtain ⟨b, o, rfl⟩ := flow_from HS.out (by omega)
          have HX := Lib.hid hx
          have key : (nn = 0 ∧ z = true) ∨ (0 < nn ∧ z = true) ∨ (0 < nn ∧ z = false) := by
            rcases Nat.eq_zero_or_pos nn with h | h
            · exact .inl ⟨h, n4 h⟩
            · cases z
              · exact .inr (.inr ⟨h, rfl⟩)
              · exact .inr (.inl ⟨h, rfl⟩)
          have HSs : Hid (SdOk q' W' F ∧ 0 ≤ W' ∧ W' ≤ 65535 + 65535 * ((k + 1 : Nat) : Int)) := ⟨s1, s2, by omega⟩
          have HFb := Lib.hid u4
          have HLn := Lib.hid u3
          have HXb : Hid (-1000 ≤ v1 ∧ v1 ≤ 1047575 + 65535 * ((k + 1 : Nat) : Int) ∧ o1 ≤ 1048575) := by
            have : -1000 ≤ v1 := by
              rcases Nat.eq_zero_or_pos nn with h | h
              · omega
              · have := n5 h; omega
            unfold Hid
            omega
          have HV : Hid (0 < nn → 0 ≤ v1) := fun h => by have := n5 h; omega
          have HO : Hid (z = true → xe = true ∧ o1 = 0) := fun h => ⟨(n6 h).1, by have := (n6 h).2; omega⟩
          have H7 := Lib.hid n7
          have H8 := Lib.hid n8
          have H5 := Lib.hid n5
          have H6 := Lib.hid n6
          clear u1 u2 u3 u4 u5 u6 s1 s2 s3 n1 n2 n3 n4 n5 n6 n7 n8 hxb hyN hidI hW' hnx hid hx hf2 hFm hv1 ho1 hk99' hy30
          go_upto_region 24 with (first
            | (go_at_call 11; (with_reducible refine (nextI HS.out HOk.out.1 cz HCap.out id nn z q' HNx.out W' HWW.out idI _ HI1.out rfl).mono ?_); rintro e w5 ⟨rfl, t5⟩
               have t5' : St _ _ _ [SO p [] q' W' F, QO 32 3 (.slice (some ⟨b, o, none⟩) N df) N (wcells fs), BLo w5.heap.size 35 [.slice none 0 0, .int .i64 idI, .int .i64 (nn : Int), .bool z]] := St.block t5 35 [.slice none 0 0, .int .i64 idI, .int .i64 (nn : Int), .bool z]
               have T5 := Lib.hid t5'
               have r5 : w5.heap.size < w5.heap.size + 1 := by omega
               clear t5 t5'))
          obtain ⟨rp, hrp⟩ : ∃ rp, w5.heap.size = rp := ⟨_, rfl⟩
          rw [hrp] at T5 ⊢
          obtain ⟨W5, hW5⟩ : ∃ W5, w5.alloc (.cells #[.slice none 0 0, .int .i64 idI, .int .i64 (nn : Int), .bool z] 35) = W5 := ⟨_, rfl⟩
          have T6 : Hid (St (fun _ => False) w1 W5 [SO p [] q' W' F, QO 32 3 (.slice (some ⟨b, o, none⟩) N df) N (wcells fs), BLo rp 35 [.slice none 0 0, .int .i64 idI, .int .i64 (nn : Int), .bool z]]) := by rw [← hW5]; exact T5.out
          clear T5
          rw [hW5]
          obtain ⟨cc1, cl1⟩ := HCe.out _ (St.drop0 (St.drop0 (St.drop0 T6.out)))
          clear c1 gl
          have bp := St.blk2 T6.out
          have p0 := bp.cell 0
          have p1 := bp.cell 1
          have p2 := bp.cell 2
          have p3 := bp.cell 3
          have pl := bp.lt
          simp only [List.getElem?_cons_zero, List.getElem?_cons_succ] at p0 p1 p2 p3
          clear bp hrp hW5 r5
          have HKey := Lib.hid key
          clear key
          go_cut [169] (fun v wx => v = .bool false ∧ ∃ nq, wx = W5.drewN nq)
          case first =>
            obtain ⟨q3, q5, q7, q9, q10⟩ := HQs.out
            have hmx : ∀ (ts : Array TypeId) (t : TypeId) (w : World), (Builtin.max_ ts t #[.int .i64 most, .int .i64 1]).run Try.prog w = .ok (.int .i64 (max most 1)) w := fun ts t w => run_max2 ts t most 1
            have k2 : (nn = 0 ∧ z = true) ∨ 0 < nn := by
              rcases HKey.out with h | h | h
              · exact .inl h
              · exact .inr h.1
              · exact .inr h.1
            rcases k2 with ⟨h0, rfl⟩ | h0
            · have he : ((nn : Int) == 0) = true := by simp; omega
              clear h0 HKey
              as_aux_lemma =>
              go_big_quiet (fail)
              go_wp2
              go_meet
              exact ⟨rfl, _, rfl⟩
            · have he : ((nn : Int) == 0) = false := by simp; omega
              clear h0 HKey
              as_aux_lemma =>
              go_big_quiet (fail)
              go_wp2
              go_meet
              exact ⟨rfl, _, rfl⟩
          case rest =>
            obtain ⟨rfl, nq, rfl⟩ := hcut
            as_aux_lemma =>
            have T7' := T6.out.drewN nq
            obtain ⟨W7, hW7⟩ : ∃ W7, W5.drewN nq = W7 := ⟨_, rfl⟩
            rw [hW7] at T7' ⊢
            have T7 := Lib.hid T7'
            clear T6 T7' hW7 cc1 cl1 p0 p1 p2 p3 pl q4 q8
            obtain ⟨a1, a2⟩ := flow_cell T7.out (j := 0) HX.out (by omega)
            obtain ⟨t8, a3⟩ := flow_set T7.out HX.out 0 (by omega) (.int .i64 v1) rfl ⟨v1, xo, xe⟩ rfl
            simp only [Nat.add_zero] at a1 a3 t8
            have bp := St.blk2 T7.out
            have p2 := bp.cell 2
            have pl := bp.lt
            simp only [List.getElem?_cons_zero, List.getElem?_cons_succ] at p2
            have T8 := Lib.hid t8.drew
            clear t8 bp T7
            go_upto_region 26 with (fail)
            go_still_tail 12, (by kernel_rfl)
            change wpList _ _ _ _ _ W7.drew
            go_upto_region 27 with (fail)
            · obtain ⟨W8, hW8⟩ : ∃ W8, (W7.setCell ⟨b, o + y * 3, none⟩ (.int .i64 v1)).drew = W8 := ⟨_, rfl⟩
              rw [hW8] at T8 ⊢
              clear a1 a2 a3 p2 pl hW8 w1'
              have hx1 : (fs.set y ⟨v1, xo, xe⟩)[y]? = some ⟨v1, xo, xe⟩ := List.getElem?_set_self (by have := (List.getElem?_eq_some_iff.1 HX.out).1; exact this)
              obtain ⟨a1, a2⟩ := flow_cell T8.out (j := 1) hx1 (by omega)
              obtain ⟨t9, a3⟩ := flow_set T8.out hx1 1 (by omega) (.int .i64 (o1 : Int)) rfl ⟨v1, o1, xe⟩ rfl
              rw [List.set_set] at t9
              rw [← Nat.add_assoc] at a1 a3 t9
              have bp := St.blk2 T8.out
              have p2 := bp.cell 2
              have pl := bp.lt
              simp only [List.getElem?_cons_zero, List.getElem?_cons_succ] at p2
              have T9 := Lib.hid t9.drew
              clear t9 bp T8 hx1
              go_still_tail 12, (by kernel_rfl)
              change wpList _ _ _ _ _ W8.drew
              go_upto_region 28 with (fail)
              · obtain ⟨W9, hW9⟩ : ∃ W9, (W8.setCell ⟨b, o + y * 3 + 1, none⟩ (.int .i64 (o1 : Int))).drew = W9 := ⟨_, rfl⟩
                rw [hW9] at T9 ⊢
                clear a1 a2 a3 p2 pl hW9 w2'
                have hx1 : (fs.set y ⟨v1, o1, xe⟩)[y]? = some ⟨v1, o1, xe⟩ := List.getElem?_set_self (by have := (List.getElem?_eq_some_iff.1 HX.out).1; exact this)
                obtain ⟨a0, a2⟩ := flow_cell T9.out (j := 0) hx1 (by omega)
                obtain ⟨a1, _⟩ := flow_cell T9.out (j := 1) hx1 (by omega)
                obtain ⟨a3, _⟩ := flow_cell T9.out (j := 2) hx1 (by omega)
                rw [← Nat.add_assoc] at a1 a3
                rw [Nat.add_zero] at a0
                have bp := St.blk2 T9.out
                have p2 := bp.cell 2
                have p3 := bp.cell 3
                have pl := bp.lt
                simp only [List.getElem?_cons_zero, List.getElem?_cons_succ] at p2 p3
                clear bp
                have HX1 := Lib.hid hx1
                have hs2 := HSs.out.2.1
                have ho0 : ¬ (o1 : Int) < 0 := by omega
                clear hx1
                as_aux_lemma =>
                rcases HKey.out with ⟨h0, rfl⟩ | ⟨h0, rfl⟩ | ⟨h0, rfl⟩
                · have hg : ¬ (0 : Int) < (nn : Int) := by omega
                  have hw : ¬ W' < 0 := by omega
                  obtain ⟨rfl, rfl⟩ := HO.out rfl
                  have HTi := Lib.hid (H7.out rfl ⟨0, 0, false⟩)
                  obtain ⟨fz0, fz1, fz2, tz⟩ := flow_zero T9.out HX1.out
                  rw [List.set_set] at tz
                  have TZ := Lib.hid tz
                  have HZb : Hid (-1000 ≤ (0 : Int) ∧ (0 : Int) ≤ 1047575 + 65535 * ((k + 1 : Nat) : Int) ∧ 0 ≤ 1048575) := by unfold Hid; omega
                  clear h0 hs2 tz
                  as_aux_lemma =>
                  go_wp2
                  go_roundg g1
                  case measure => omega
                  case rel => exact ⟨k + 1, q', W', _, by omega, by go_num, rfl, ⟨HSs.out.1, HTi.out, by rw [List.length_set]; exact HLn.out, HFb.out.set _ HZb.out, HSs.out.2⟩, St.drop2 TZ.out⟩
                · have hg : (0 : Int) < (nn : Int) := by omega
                  have hv : ¬ v1 < 0 := by have := HV.out h0; omega
                  have hw : ¬ W' < 0 := by omega
                  obtain ⟨rfl, rfl⟩ := HO.out rfl
                  have HTi := Lib.hid (H7.out rfl ⟨0, 0, false⟩)
                  obtain ⟨fz0, fz1, fz2, tz⟩ := flow_zero T9.out HX1.out
                  rw [List.set_set] at tz
                  have TZ := Lib.hid tz
                  have HZb : Hid (-1000 ≤ (0 : Int) ∧ (0 : Int) ≤ 1047575 + 65535 * ((k + 1 : Nat) : Int) ∧ 0 ≤ 1048575) := by unfold Hid; omega
                  clear h0 hs2 tz
                  as_aux_lemma =>
                  go_wp2
                  go_roundg g1
                  case measure => omega
                  case rel => exact ⟨k + 1, q', W', _, by omega, by go_num, rfl, ⟨HSs.out.1, HTi.out, by rw [List.length_set]; exact HLn.out, HFb.out.set _ HZb.out, HSs.out.2⟩, St.drop2 TZ.out⟩
                · have hg : (0 : Int) < (nn : Int) := by omega
                  have hv : ¬ v1 < 0 := by have := HV.out h0; omega
                  have hw : ¬ W' < 0 := by omega
                  have HTi := Lib.hid (H8.out rfl)
                  clear h0 hs2
                  as_aux_lemma =>
                  go_wp2
                  go_roundg g1
                  case measure => omega
                  case rel => exact ⟨k + 1, q', W', _, by omega, by go_num, rfl, ⟨HSs.out.1, HTi.out, by rw [List.length_set]; exact HLn.out, HFb.out.set _ HXb.out, HSs.out.2⟩, St.drop2 T9.out⟩
theorem lawWindowsH {w : World} {A C G : Option Addr} {n c nc cc ng cg : Nat} (most : Int) (hA : HoldsT Try.prog w 9 22 [.slice A n c]) (hC : HoldsT Try.prog w 9 23 [.slice C nc cc]) (hG : HoldsT Try.prog w 9 23 [.slice G ng cg]) :
    Calls Try.prog 3 #[.int .i64 most, .slice A n c, .slice C nc cc, .slice G ng cg] w fun e w' => e = .returned (.bool true) ∧ Below w.heap.size w w' := by
  obtain ⟨l, hr, hn, _⟩ := flows_arg hA
  obtain ⟨zs, hc, hz, hzr, _⟩ := ints_arg hC
  obtain ⟨gs, hg, hgl, _, _⟩ := ints_arg hG
  exact lawWindows most hr hn hc hz hzr hg hgl
end Go.Proofs.Ytbjjphpkpmikjaa
