/- The law SchedControls: the walk. -/
import Derived.Test.YtbjjphpkpmikjaaKiY
namespace Go.Proofs.Ytbjjphpkpmikjaa
open Go.RowKit Go.Own Go.Sch
set_option linter.unusedVariables false
set_option linter.unusedSimpArgs false
set_option maxRecDepth 100000
set_option maxHeartbeats 32000000 in
theorem lawControls {w0 : World} {A B C : Option Addr} {n c nb cb nc cc : Nat} {l : List Rw} {zs : List Int} (hr : Rd w0 3 A n (rcells l)) (hn : l.length = n) (hB : HoldsT Try.prog w0 9 46 [.slice B nb cb]) (hc : Rd w0 1 C nc (zs.map (Value.int .i64))) (hz : zs.length = nc)
    (hzr : ∀ x ∈ zs, -9223372036854775808 ≤ x ∧ x ≤ 9223372036854775807) :
    Calls Try.prog 5 #[.slice A n c, .slice B nb cb, .slice C nc cc] w0 fun e w' => e = .returned (.bool true) ∧ Below w0.heap.size w0 w' := by
  obtain ⟨M, hM⟩ : ∃ M, min nc 100 = M := ⟨_, rfl⟩
  obtain ⟨N, hN⟩ : ∃ N, (flowsOf l).length = N := ⟨_, rfl⟩
  have HM := Lib.hid hM
  have HNl := Lib.hid hN
  have HR := Lib.hid hr
  have Hn := Lib.hid hn
  have HBs := Lib.hid hB
  have HC := Lib.hid hc
  have HZ := Lib.hid hz
  have HZr := Lib.hid hzr
  have hok := flowsOf_ok l 100
  rw [show frV 100 = 100 from rfl] at hok
  have HOk0 := Lib.hid hok
  clear hM hN hr hn hB hc hz hzr hok
  go_enter Try.func5, Try.ntmps5
  go_wp2_with (first
    | (go_at_call 8; (with_reducible refine (shown_c _).mono ?_); rintro e w1 ⟨rfl, hb1⟩
       have HB1 := Lib.hid hb1
       have HR1 := Lib.hid (HR.out.below hb1)
       clear hb1)
    | (go_at_call 9; (with_reducible refine (put_c HR1.out Hn.out 100 100 rfl).mono ?_); rintro e w2 ⟨p, Af, df, rfl, t2⟩
       rw [HNl.out] at t2 ⊢
       have nq : St (fun _ => False) w2 w2 [QO 9 1 (.slice none 0 0) ([] : List (List UInt8)).length (([] : List (List UInt8)).map sv)] := St.made (w := w2) (w' := w2) (F := fun _ => False) (framed_QO 9 1 (.slice none 0 0) 0 []) (.inl ⟨rfl, rfl, rfl, rfl⟩) (fun _ h => h.elim) (Below.refl _ _)
       have T2 := Lib.hid (t2.add nq)
       clear t2 nq))
  clear HOk0
  have HOk0 := Lib.hid (flowsOf_ok l 100)
  have HQ0 : Hid ((qOf (flowsOf l)).length ≤ N) := by unfold Hid; rw [qOf_length, HNl.out]; exact Nat.le_refl _
  have HN30 : Hid (N ≤ 30) := by unfold Hid; rw [← HNl.out, flowsOf_length]; omega
  go_loopg [11, 10] M (fun gh i wv w => ∃ (k : Nat) (A3 : Option Addr) (m3 d3 : Nat) (fs : List (List UInt8)) (q : List Fl) (W : Int), gh + k = M ∧ i = .int .i64 k ∧ wv = .slice A3 m3 d3 ∧ Hid (fs.length = m3 ∧ fs.length ≤ k) ∧ Hid (SdOk q W 100 ∧ 0 ≤ W ∧ q.length ≤ N) ∧
    Hid (St (fun _ => False) w1 w [SO p fs q W 100, QO 32 3 (.slice Af N df) N (wcells (flowsOf l)), QO 9 1 (.slice A3 m3 d3) fs.length (fs.map sv)]))
  case atStart => exact ⟨0, none, 0, 0, [], _, 65535, by omega, rfl, rfl, ⟨rfl, Nat.le_refl _⟩, ⟨HOk0.out, by omega, HQ0.out⟩, T2.out⟩
  case round =>
    obtain ⟨k, A3, m3, d3, fs, q, W, hgk, rfl, rfl, HL, HOk, HS⟩ := hrel
    clear T2 HOk0 HQ0
    have hM := HM.out
    cases gk with
    | zero =>
      obtain rfl : k = M := by omega
      have hend : ¬ k < nc ∨ (k < nc ∧ ¬ k < 100) := by omega
      clear hgk hM
      rcases hend with h1 | ⟨h1, h2⟩
      all_goals
        go_wp2
        go_ret
        exact ⟨rfl, HB1.out.trans (HS.out.below.mono HB1.out.size)⟩
    | succ g1 =>
      have hkc : k < nc := by omega
      have hk100 : k < 100 := by omega
      have hk99 := Lib.hid hk100
      clear hM
      go_upto_block 1 with (fail)
      clear hk100
      go_step
      go_step
      go_cut [10] (fun wv wx => ∃ (A3 : Option Addr) (m3 d3 : Nat) (fs : List (List UInt8)), wv = .slice A3 m3 d3 ∧ Hid (fs.length = m3 ∧ fs.length ≤ k + 1) ∧
        Hid (St (fun _ => False) w1 wx [SO p fs q W 100, QO 32 3 (.slice Af N df) N (wcells (flowsOf l)), QO 9 1 (.slice A3 m3 d3) fs.length (fs.map sv)]))
      case first =>
        by_cases hgo : k < nb ∧ k < 30
        · obtain ⟨h1, h2⟩ := hgo
          obtain ⟨b, o, Bk, mk, dk, xs, rfl, c1, hrx, hxl, hmd, hd2⟩ := bytes_arg HBs.out h1
          have hbel := HB1.out.trans (HS.out.below.mono HB1.out.size)
          have c1 := cell_to11 hbel c1
          have gl := World.block_lt_of_cell? _ _ c1
          have hrw := HS.out.rd (hrx.below HB1.out) (fun _ _ h => h)
          obtain ⟨my, hmy⟩ : ∃ my, min mk 300 = my := ⟨_, rfl⟩
          have e1 : (if (300 : Int) < (mk : Int) then 300 else (mk : Int)) = (my : Int) := by split <;> omega
          have e2 : (0 : Int) ≤ (my : Int) := by omega
          have e3 : (my : Int) ≤ (dk : Int) := by omega
          have e4 : my ≤ dk := by omega
          have h1i : (k : Int) < (nb : Int) := by omega
          have h2i : (k : Int) < 30 := by omega
          obtain ⟨ys, hys⟩ : ∃ ys, xs.take my = ys := ⟨_, rfl⟩
          have hyl : ys.length = my := by rw [← hys, List.length_take, hxl]; omega
          have hrd : ∀ w', St (fun _ => False) w1 w' [] → Rd w' 1 Bk my (ys.map BV) := fun w' s' => by
            have h := (s'.rd (hrx.below HB1.out) (fun _ _ h => h)).take (k := my) (by omega)
            rw [Nat.mul_one, ← List.map_take, hys] at h
            exact h
          have HRd := Lib.hid hrd
          have HYl := Lib.hid hyl
          have HMy : Hid (my ≤ 300) := by unfold Hid; omega
          have e5 : ¬ (300 : Int) < (my : Int) := by omega
          clear hbel hrx hxl hmd hd2 hrw hmy hys hyl hrd
          go_upto_region 10 with (fail)
          refine wp_region_still_lit (by kernel_rfl) (by kernel_rfl) ?_
          iterate 12 still_step
          refine wpStill_nil ?_
          clear c1 gl
          have HS1 := Lib.hid HS.out.drew
          clear HS
          rcases Nat.eq_zero_or_pos my with h0 | h0
          · subst h0
            have HL2 : Hid (fs.length = m3 ∧ fs.length ≤ k + 1) := ⟨HL.out.1, by have := HL.out.2; omega⟩
            go_wp2_with (first
              | (go_at_call 17; (with_reducible refine (control_none HS1.out _ _).mono ?_); rintro e w5 ⟨rfl, t5⟩
                 have T5 := Lib.hid t5
                 clear t5))
            go_meet
            exact ⟨A3, m3, d3, fs, rfl, HL2.out, T5.out⟩
          · have hr5 := HRd.out _ (St.drop0 (St.drop0 (St.drop0 HS1.out)))
            obtain ⟨bb, oo, rfl, _⟩ := hr5.2 h0
            have HR5 := Lib.hid hr5
            have HN1 : Hid (my ≤ 100000) := by have := HMy.out; unfold Hid; omega
            have H0 := Lib.hid h0
            have HF1 : Hid (fs.length ≤ 1000) := by have := HL.out.2; have := hk99.out; unfold Hid; omega
            have hap : Hid (∀ w5, St (fun _ => False) w1 w5 [SO p (fs ++ [ys]) q W 100, QO 32 3 (.slice Af N df) N (wcells (flowsOf l)), QO 9 1 (.slice A3 m3 d3) fs.length (fs.map sv)] →
                ((convert 33 9 (.slice (some ⟨bb, oo, none⟩) my dk)).run Try.prog w5 = .ok (.string ⟨ys.toArray⟩) w5) ∧
                ∃ A6 d6 w6, (Builtin.append_ #[47, 47] 47 #[.slice A3 m3 d3, .slice (some ⟨w5.heap.size, 0, none⟩) 1 1]).run Try.prog (w5.alloc (.cells #[.string ⟨ys.toArray⟩] 9)) = .ok (.slice A6 (m3 + 1) d6) w6 ∧
                  St (fun _ => False) w1 w6 [SO p (fs ++ [ys]) q W 100, QO 32 3 (.slice Af N df) N (wcells (flowsOf l)), QO 9 1 (.slice A6 (m3 + 1) d6) (fs ++ [ys]).length ((fs ++ [ys]).map sv)]) := by
              intro w5 t5
              refine ⟨run_conv_bytes (P := Try.prog) (src := 33) (dst := 9) (e := 5) Try.underlying33 Try.underlying5 Try.underlying9 (c := dk) (HRd.out _ (St.drop0 (St.drop0 (St.drop0 t5)))), ?_⟩
              obtain ⟨A6, d6, w6, hrun, h6⟩ := append_s (t5.alloc (.cells #[.string ⟨ys.toArray⟩] 9)) ys (c := 1) (rd_sv1 w5 ys) (by have := HF1.out; omega)
              rw [HL.out.1] at hrun h6
              exact ⟨A6, d6, w6, hrun, h6⟩
            have HL2 : Hid ((fs ++ [ys]).length = m3 + 1 ∧ (fs ++ [ys]).length ≤ k + 1) := by have := HL.out; unfold Hid; rw [List.length_append]; simp; omega
            clear hr5
            go_wp2_with (first
              | (go_at_call 17; (with_reducible refine (control_some HS1.out HR5.out HN1.out H0.out HF1.out).mono ?_); rintro e w5 ⟨rfl, t5⟩
                 obtain ⟨hcv, A6, d6, w6, hrun, h6⟩ := hap.out _ t5
                 have HRun := Lib.hid hrun
                 have T6 := Lib.hid h6
                 clear t5 hrun h6)
              | (at_builtin
                 refine wpList_app_run rfl (.tmp 60) (.tmp 63) 47 47 rfl _ _ rfl rfl HRun.out ?_))
            go_meet
            exact ⟨A6, m3 + 1, d6, fs ++ [ys], rfl, HL2.out, T6.out⟩
        · have hno : ¬ k < nb ∨ (k < nb ∧ ¬ k < 30) := by omega
          have HL2 : Hid (fs.length = m3 ∧ fs.length ≤ k + 1) := ⟨HL.out.1, by have := HL.out.2; omega⟩
          clear hgo
          rcases hno with h1 | ⟨h1, h2⟩
          all_goals
            go_wp2
            go_meet
            exact ⟨A3, m3, d3, fs, rfl, HL2.out, HS.out⟩
      case rest =>
        clear HS HL
        obtain ⟨A3, m3, d3, fs, rfl, HL, HS⟩ := hcut
        obtain ⟨cz, hcz⟩ : ∃ cz, zs[k]? = some cz := ⟨zs[k]'(by rw [HZ.out]; exact hkc), List.getElem?_eq_getElem _⟩
        obtain ⟨bc, oc, rfl, hcc⟩ := HC.out.2 (by omega)
        have c0 : w0.cell? ⟨bc, oc + k, none⟩ = some (.int .i64 cz) := hcc _ _ (by rw [List.getElem?_map, hcz]; rfl)
        have hcap := HZr.out cz (List.mem_of_getElem? hcz)
        have hce : ∀ w', St (fun _ => False) w1 w' [] → w'.cell? ⟨bc, oc + k, none⟩ = some (.int .i64 cz) ∧ bc < w'.heap.size := fun w' s' => by
          have h := cell_to11 (HB1.out.trans (s'.below.mono HB1.out.size)) c0
          exact ⟨h, World.block_lt_of_cell? _ _ h⟩
        have HCe := Lib.hid hce
        have HCap := Lib.hid hcap
        obtain ⟨c1, gl⟩ := hce _ (St.drop0 (St.drop0 (St.drop0 HS.out)))
        have i3 : IntKind.i64.wrap ((k : Int) + 1) = (k : Int) + 1 := by have := hk99.out; exact w64 (by omega) (by omega)
        have hkci : (k : Int) < (nc : Int) := by omega
        have hqN : ¬ (N : Int) < (q.length : Int) := by have := HOk.out.2.2; omega
        have hqN2 : ¬ N < q.length := by have := HOk.out.2.2; omega
        clear hcz hcc c0 hcap hce
        cases fs with
        | nil =>
          have hm0 : m3 = 0 := HL.out.1.symm
          subst hm0
          rcases hnx : nextQ W 100 cz.toNat q with _ | ⟨id, nn, z, q'⟩
          · have HNx := Lib.hid hnx
            have HL2 : Hid (([] : List (List UInt8)).length = 0 ∧ ([] : List (List UInt8)).length ≤ k + 1) := ⟨rfl, Nat.zero_le _⟩
            clear hnx
            go_wp2_with (first
              | (go_at_call 16; (with_reducible refine (len_c HS.out).mono ?_); rintro e w5 ⟨rfl, hw5⟩; subst hw5)
              | (go_at_call 11; (with_reducible refine (next_none HS.out.drew HOk.out.1 cz HCap.out HNx.out).mono ?_); rintro e w6 ⟨rfl, t6⟩
                 have T6 := Lib.hid (t6.alloc (.cells #[.slice none 0 0, .int .i64 0, .int .i64 0, .bool false] 35))
                 clear t6))
            go_roundg g1
            case measure => omega
            case rel => exact ⟨k + 1, A3, 0, d3, [], q, W, by omega, by go_num, rfl, HL2.out, HOk.out, T6.out⟩
          · obtain ⟨s1, s2, s3⟩ := next_small HOk.out.1 HOk.out.2.1 hnx
            obtain ⟨W', hW'⟩ : ∃ W', W - (nn : Int) = W' := ⟨_, rfl⟩
            rw [hW'] at s1 s2
            have HOk2 : Hid (SdOk q' W' 100 ∧ 0 ≤ W' ∧ q'.length ≤ N) := ⟨s1, s2, Nat.le_trans s3 HOk.out.2.2⟩
            have HNx := Lib.hid hnx
            have HWW := Lib.hid hW'
            have HL2 : Hid (([] : List (List UInt8)).length = 0 ∧ ([] : List (List UInt8)).length ≤ k + 1) := ⟨rfl, Nat.zero_le _⟩
            clear hnx s1 s2 s3 hW'
            go_wp2_with (first
              | (go_at_call 16; (with_reducible refine (len_c HS.out).mono ?_); rintro e w5 ⟨rfl, hw5⟩; subst hw5)
              | (go_at_call 11; (with_reducible refine (next_some HS.out.drew HOk.out.1 cz HCap.out id nn z q' HNx.out W' HWW.out).mono ?_); rintro e w6 ⟨rfl, t6⟩
                 have T6 := Lib.hid (t6.alloc (.cells #[.slice none 0 0, .int .i64 (id : Int), .int .i64 (nn : Int), .bool z] 35))
                 clear t6))
            go_roundg g1
            case measure => omega
            case rel => exact ⟨k + 1, A3, 0, d3, [], q', W', by omega, by go_num, rfl, HL2.out, HOk2.out, T6.out⟩
        | cons x r =>
          obtain ⟨b, o, rfl, hmd, hd, hfst, htl⟩ := first_s HS.out HL.out.1
          have HFst := Lib.hid hfst
          have HTl := Lib.hid htl
          obtain ⟨xl, hxl⟩ : ∃ xl, x.length = xl := ⟨_, rfl⟩
          obtain ⟨m4, rfl⟩ : ∃ m4, m3 = m4 + 1 := ⟨m3 - 1, by have := HL.out.1; simp at this; omega⟩
          have hrm : r.length = m4 := by have := HL.out.1; simpa using this
          have hm0 : ¬ ((m4 : Int) + 1 = 0) := by omega
          have hm1 : (((m4 : Int) + 1) == 0) = false := by simp; omega
          have HL2 : Hid ((x :: r).length = m4 + 1 ∧ (x :: r).length ≤ k + 1) := HL.out
          have HX := Lib.hid hxl
          by_cases hcx : (xl : Int) ≤ cz
          · have HCx : Hid ((x.length : Int) ≤ cz) := by unfold Hid; rw [hxl]; exact hcx
            have HL3 : Hid (r.length = m4 ∧ r.length ≤ k + 1) := ⟨hrm, by have := HL.out.2; simp at this; omega⟩
            rw [show (x :: r).length = m4 + 1 from HL.out.1] at HS
            have HMd : Hid (m4 + 1 ≤ d3 ∧ d3 ≤ maxLen) := ⟨hmd, hd⟩
            clear hmd hd hfst htl
            go_upto_region 21 with (first
              | (go_at_call 16; (with_reducible refine (len_c HS.out).mono ?_); rintro e w5 ⟨rfl, hw5⟩; subst hw5)
              | (go_at_call 11; (with_reducible refine (next_cyes HS.out.drew cz HCx.out xl HX.out).mono ?_); rintro e w6 ⟨Ap, dp, rfl, t6⟩
                 have t6' : St _ _ _ [SO p r q W 100, QO 32 3 (.slice Af N df) N (wcells (flowsOf l)), QO 9 1 (.slice (some ⟨b, o, none⟩) (m4 + 1) d3) (m4 + 1) ((x :: r).map sv), SLo 0 5 1 (.slice Ap xl dp) xl (x.map BV), BLo w6.heap.size 35 [.slice Ap xl dp, .int .i64 0, .int .i64 0, .bool false]] := St.block t6 35 [.slice Ap xl dp, .int .i64 0, .int .i64 0, .bool false]
                 have T6 := Lib.hid t6'
                 clear t6 t6'))
            obtain ⟨rp, hrp⟩ : ∃ rp, w6.heap.size = rp := ⟨_, rfl⟩
            rw [hrp] at T6 ⊢
            obtain ⟨W5, hW5⟩ : ∃ W5, w6.alloc (.cells #[.slice Ap xl dp, .int .i64 0, .int .i64 0, .bool false] 35) = W5 := ⟨_, rfl⟩
            have T6' : Hid (St (fun _ => False) w1 W5 [SO p r q W 100, QO 32 3 (.slice Af N df) N (wcells (flowsOf l)), QO 9 1 (.slice (some ⟨b, o, none⟩) (m4 + 1) d3) (m4 + 1) ((x :: r).map sv), SLo 0 5 1 (.slice Ap xl dp) xl (x.map BV), BLo rp 35 [.slice Ap xl dp, .int .i64 0, .int .i64 0, .bool false]]) := by rw [← hW5]; exact T6.out
            clear T6
            rw [hW5]
            have hcv : ∀ q, (convert 33 9 (.slice Ap xl dp)).run Try.prog (W5.drewN q) = .ok (.string ⟨x.toArray⟩) (W5.drewN q) := fun q => run_conv_bytes (P := Try.prog) Try.underlying33 Try.underlying5 Try.underlying9 (Rd.of_own (St.own3 (T6'.out.drewN q)))
            obtain ⟨f1, f2⟩ := first_at T6'.out HL2.out.1
            obtain ⟨cc1, cl1⟩ := HCe.out _ (St.drop0 (St.drop0 (St.drop0 (St.drop0 (St.drop0 T6'.out)))))
            clear c1 gl
            have bp := St.blk4 T6'.out
            have p0 := bp.cell 0
            have p1 := bp.cell 1
            have p2 := bp.cell 2
            have p3 := bp.cell 3
            have pl := bp.lt
            simp only [List.getElem?_cons_zero, List.getElem?_cons_succ] at p0 p1 p2 p3
            have f3 : (x.length : Int) = (xl : Int) := by rw [hxl]
            have f4 : decide ((xl : Int) ≤ cz) = true := by simpa using hcx
            clear bp hrp hW5
            go_big_quiet (fail)
            have T7 := Lib.hid (T6'.out.drewN nq)
            clear T6'
            have g1' : (m4 : Int) + 1 ≤ (d3 : Int) := by have := HMd.out.1; omega
            have g2' : (1 : Int) ≤ (m4 : Int) + 1 := by omega
            have g3' : (1 : Int) ≤ (d3 : Int) := by omega
            have HTl2 := Lib.hid (tail_s (St.drop4 T7.out))
            clear T7
            have hd31 : d3 = 1 ∨ 1 < d3 := by omega
            rcases hd31 with rfl | hq3
            · have T8 : Hid (St (fun _ => False) w1 (W5.drewN nq) [SO p r q W 100, QO 32 3 (.slice Af N df) N (wcells (flowsOf l)), QO 9 1 (.slice (some ⟨b, o, none⟩) m4 0) m4 (r.map sv)]) := by have h := HTl2.out; rw [if_pos rfl] at h; exact St.drop3 h
              clear HTl2
              go_wp2
              go_roundg g1
              case measure => omega
              case rel => exact ⟨k + 1, _, m4, 0, r, q, W, by omega, by go_num, rfl, HL3.out, HOk.out, by rw [HL3.out.1]; exact T8.out⟩
            · have hq4 : ¬ d3 = 1 := by omega
              have T8 : Hid (St (fun _ => False) w1 (W5.drewN nq) [SO p r q W 100, QO 32 3 (.slice Af N df) N (wcells (flowsOf l)), QO 9 1 (.slice (some ⟨b, o + 1, none⟩) m4 (d3 - 1)) m4 (r.map sv)]) := by have h := HTl2.out; rw [if_neg hq4] at h; exact St.drop3 h
              clear HTl2
              go_wp2
              go_roundg g1
              case measure => omega
              case rel => exact ⟨k + 1, _, m4, d3 - 1, r, q, W, by omega, by go_num, rfl, HL3.out, HOk.out, by rw [HL3.out.1]; exact T8.out⟩
          · have hcx2 : cz < (xl : Int) := by omega
            have HCx : Hid (cz < (x.length : Int)) := by unfold Hid; rw [hxl]; exact hcx2
            rw [show (x :: r).length = m4 + 1 from HL.out.1] at HS
            clear hmd hd hfst htl
            go_upto_region 21 with (first
              | (go_at_call 16; (with_reducible refine (len_c HS.out).mono ?_); rintro e w5 ⟨rfl, hw5⟩; subst hw5)
              | (go_at_call 11; (with_reducible refine (next_cno HS.out.drew cz HCx.out).mono ?_); rintro e w6 ⟨rfl, t6⟩
                 have t6' : St _ _ _ [SO p (x :: r) q W 100, QO 32 3 (.slice Af N df) N (wcells (flowsOf l)), QO 9 1 (.slice (some ⟨b, o, none⟩) (m4 + 1) d3) (m4 + 1) ((x :: r).map sv), BLo w6.heap.size 35 [.slice none 0 0, .int .i64 0, .int .i64 0, .bool false]] := St.block t6 35 [.slice none 0 0, .int .i64 0, .int .i64 0, .bool false]
                 have T6 := Lib.hid t6'
                 clear t6 t6'))
            obtain ⟨rp, hrp⟩ : ∃ rp, w6.heap.size = rp := ⟨_, rfl⟩
            rw [hrp] at T6 ⊢
            obtain ⟨W5, hW5⟩ : ∃ W5, w6.alloc (.cells #[.slice none 0 0, .int .i64 0, .int .i64 0, .bool false] 35) = W5 := ⟨_, rfl⟩
            have T6' : Hid (St (fun _ => False) w1 W5 [SO p (x :: r) q W 100, QO 32 3 (.slice Af N df) N (wcells (flowsOf l)), QO 9 1 (.slice (some ⟨b, o, none⟩) (m4 + 1) d3) (m4 + 1) ((x :: r).map sv), BLo rp 35 [.slice none 0 0, .int .i64 0, .int .i64 0, .bool false]]) := by rw [← hW5]; exact T6.out
            clear T6
            rw [hW5]
            obtain ⟨f1, f2⟩ := first_at T6'.out HL2.out.1
            obtain ⟨cc1, cl1⟩ := HCe.out _ (St.drop0 (St.drop0 (St.drop0 (St.drop0 T6'.out))))
            clear c1 gl
            have bp := St.blk3 T6'.out
            have p0 := bp.cell 0
            have p1 := bp.cell 1
            have p2 := bp.cell 2
            have p3 := bp.cell 3
            have pl := bp.lt
            simp only [List.getElem?_cons_zero, List.getElem?_cons_succ] at p0 p1 p2 p3
            have f3 : (x.length : Int) = (xl : Int) := by rw [hxl]
            have f4 : decide ((xl : Int) ≤ cz) = false := by simp; omega
            clear bp hrp hW5
            go_big_quiet (fail)
            have T7 := Lib.hid (St.drop3 (T6'.out.drewN nq))
            clear T6'
            go_wp2
            go_roundg g1
            case measure => omega
            case rel => exact ⟨k + 1, some ⟨b, o, none⟩, m4 + 1, d3, x :: r, q, W, by omega, by go_num, rfl, HL2.out, HOk.out, by rw [show (x :: r).length = m4 + 1 from HL2.out.1]; exact T7.out⟩
theorem lawControlsH {w : World} {A B C : Option Addr} {n c nb cb nc cc : Nat} (hA : HoldsT Try.prog w 9 22 [.slice A n c]) (hB : HoldsT Try.prog w 9 46 [.slice B nb cb]) (hC : HoldsT Try.prog w 9 23 [.slice C nc cc]) :
    Calls Try.prog 5 #[.slice A n c, .slice B nb cb, .slice C nc cc] w fun e w' => e = .returned (.bool true) ∧ Below w.heap.size w w' := by
  obtain ⟨l, hr, hn, _⟩ := flows_arg hA
  obtain ⟨zs, hc, hz, hzr, _⟩ := ints_arg hC
  exact lawControls hr hn hB hc hz hzr
end Go.Proofs.Ytbjjphpkpmikjaa
