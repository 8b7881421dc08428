/- HpackLimits, the walk: whatever the numbers and the fields, true. -/
import Derived.Test.YtinieljgcenemaaDoorLe
namespace Go.Proofs.YtinieljgcenemaaDoor
open Go.RowKit Go.Own Go.Tbl Go.Huf Go.Hin
set_option linter.unusedVariables false
set_option maxRecDepth 100000
attribute [local go_sem ↓] Go.wp_at_zero Go.wp_at_succ

theorem szs_leM {M : Nat} : ∀ (fs : List Fld), (∀ f ∈ fs, f.n.size ≤ M ∧ f.v.size ≤ M) → szs fs ≤ fs.length * (2 * M + 32)
  | [], _ => by simp [szs]
  | f :: r, h => by
    have h1 := h f (List.mem_cons_self ..)
    have h2 := szs_leM r (fun g hg => h g (List.mem_cons_of_mem _ hg))
    have h3 : sz f = f.n.size + f.v.size + 32 := rfl
    rw [szs, List.length_cons, Nat.add_mul]
    omega
theorem lim_oct (h : Nat) : blockD statL h h [] [130, 32] = none := by
  have h1 : updsD h ([130, 32] : List UInt8).length h [] [130, 32] = some (h, [], [130, 32]) := updsD_done (by kernel_rfl)
  have h2 : oneD statL h [] [130, 32] = some (fGet, 1, []) := by kernel_rfl
  rw [blockD, h1]
  dsimp only
  rw [if_neg (by omega)]
  show (manyD statL h 2 [] [130, 32]).map _ = none
  rw [manyD_step (by simp), h2]
  dsimp only
  show (Option.map _ (manyD statL h 1 [] [32])).map _ = none
  rw [upd_behind (by decide)]
  rfl
theorem sh5_c3 : (#[.int .u8 130, .int .u8 32] : Array Value) = (([130, 32] : List UInt8).map BV).toArray := rfl
set_option maxHeartbeats 16000000 in
theorem lawLimits {w : World} (m0 : Int) (hm0 : i64 m0) (lo0 : Int) (hlo0 : i64 lo0) {A1 : Option Addr} {n1 c1 : Nat} {la : List Fld} (ha : FldsIn w A1 n1 c1 la) (hC : Cnt w) :
    Calls Tryd.prog 10 #[.int .i64 m0, .int .i64 lo0, .slice A1 n1 c1] w fun e w' => e = .returned (.bool true) ∧ Below w.heap.size w w' := by
  obtain ⟨h, hb1, hh⟩ := and_16 m0
  obtain ⟨q, hb2, hq⟩ := and_16 lo0
  have ch : clampI (h : Int) = h := clampI_nat h (by omega)
  have cq : clampI (q : Int) = q := clampI_nat q (by omega)
  have cq1 : clampI ((q : Int) + 1) = q + 1 := by have := clampI_nat (q + 1) (by omega); rwa [show (((q + 1 : Nat)) : Int) = (q : Int) + 1 by omega] at this
  have ih : i64 (h : Int) := by unfold i64; omega
  have iq : i64 (q : Int) := by unfold i64; omega
  have iq1 : i64 ((q : Int) + 1) := by unfold i64; omega
  have i0 : i64 0 := by unfold i64; omega
  have hOk := ok_new h (by omega)
  obtain ⟨fs, hfs⟩ : ∃ fs, smallL la = fs := ⟨_, rfl⟩
  have hsz := smallL_sz la
  have hln := smallL_len la
  rw [hfs] at hsz hln
  have hsl : szs fs ≤ 16640 := by
    have := szs_leM fs hsz
    omega
  have hsm : Smalls fs := fun f hf => by have := hsz f hf; omega
  have hbig : ∀ f ∈ fs, f.n.size ≤ 16777216 ∧ f.v.size ≤ 16777216 := fun f hf => by have := hsz f hf; omega
  obtain ⟨⟨X, hX, lX⟩, eX⟩ : ∃ z, blockE statL h [] none fs = z := ⟨_, rfl⟩
  have hhX : hX = h := by rw [blockE, updsE] at eX; injection eX with _ eX; injection eX with eX _; exact eX.symm
  subst hhX
  have bX : X.length ≤ 1048576 := by
    have h1 := blockE_len (M := 400) (pd := none) (by omega) (fun a b e => by cases e) hOk hsz
    rw [eX] at h1
    have h2 : X.length ≤ 12 + fs.length * 818 := h1
    omega
  have dX : decR q 1099511627776 (some (hX, [])) X = if q < hX then ([], 3, none) else (fs, 0, some (hX, lX)) := by
    have h1 := limits_untold (limit := q) hOk hsm
    rw [eX] at h1
    simp only [decR]
    have h1 : blockD statL q hX [] X = if q < hX then none else some (fs, hX, (manyE statL hX [] fs).2) := h1
    have h2 : (manyE statL hX [] fs).2 = lX := by rw [blockE, updsE] at eX; injection eX with _ eX; injection eX with _ eX
    rw [h1, h2]
    by_cases hc : q < hX
    · rw [if_pos hc, if_pos hc]
    · rw [if_neg hc, if_neg hc]
      dsimp only
      rw [if_neg (by omega)]
  obtain ⟨⟨Y, hY, lY⟩, eY⟩ : ∃ z, blockE statL hX [] (some (q, q)) fs = z := ⟨_, rfl⟩
  have hhY : hY = q := by rw [blockE, updsE, if_neg (by omega)] at eY; injection eY with _ eY; injection eY with eY _; exact eY.symm
  subst hhY
  have bY : Y.length ≤ 1048576 := by
    have h1 := blockE_len (M := 400) (pd := some (hY, hY)) (by omega) (fun a b e => by injection e with e; injection e with e1 e2; omega) hOk hsz
    rw [eY] at h1
    have h2 : Y.length ≤ 12 + fs.length * 818 := h1
    omega
  have dY : decR hY 1099511627776 (some (hX, [])) Y = (fs, 0, some (hY, lY)) := by
    have h1 := blockD_blockE (limit := hY) (p := some (hY, hY)) (fs := fs) hOk hsm ⟨Nat.le_refl _, rfl, by omega⟩
    rw [eY] at h1
    have h1 : blockD statL hY hX [] Y = some (fs, hY, lY) := h1
    simp only [decR, h1]
    rw [if_neg (by omega)]
  obtain ⟨⟨Z, hZ, lZ⟩, eZ⟩ : ∃ z, blockE statL 0 [] (some (hY + 1, hY + 1)) [] = z := ⟨_, rfl⟩
  have bZ : Z.length ≤ 1048576 := by
    have h1 := blockE_len (M := 400) (fs := []) (pd := some (hY + 1, hY + 1)) (by omega) (fun a b e => by injection e with e; injection e with e1 e2; omega) (ok_new 0 (by omega)) (fun f hf => by cases hf)
    rw [eZ] at h1
    have h2 : Z.length ≤ 12 + 0 * 818 := h1
    omega
  have dZ : decR hY 1099511627776 (some (0, [])) Z = ([], 3, none) := by
    have h1 := limits_high (st := statL) (fs := []) (h := 0) (limit := hY) (n := hY + 1) (l := []) (by omega) (by omega)
    rw [eZ] at h1
    have h1 : blockD statL hY 0 [] Z = none := h1
    simp only [decR, h1]
  have dU : decR hX 1099511627776 (some (hX, [])) [130, 32] = ([], 3, none) := by simp only [decR, lim_oct]
  obtain ⟨NX, hNX⟩ : ∃ N, X.length = N := ⟨_, rfl⟩
  obtain ⟨NY, hNY⟩ : ∃ N, Y.length = N := ⟨_, rfl⟩
  obtain ⟨NZ, hNZ⟩ : ∃ N, Z.length = N := ⟨_, rfl⟩
  rw [hNX] at bX
  rw [hNY] at bY
  rw [hNZ] at bZ
  obtain ⟨fs1, er, st1, m1, hR1, hm1, hcs⟩ : ∃ fs1 er st1 m1, decR hY 1099511627776 (some (hX, [])) X = (fs1, er, st1) ∧ fs1.length = m1 ∧ ((hY < hX ∧ er = 3) ∨ (¬ hY < hX ∧ er = 0)) := by
    by_cases hc : hY < hX
    · exact ⟨[], 3, none, 0, by rw [dX, if_pos hc], rfl, .inl ⟨hc, rfl⟩⟩
    · exact ⟨fs, 0, _, _, by rw [dX, if_neg hc], rfl, .inr ⟨hc, rfl⟩⟩
  have Ha := Lib.hid ha
  have HC := Lib.hid hC
  have Hfs := Lib.hid hfs
  have Hbig := Lib.hid hbig
  have EX := Lib.hid eX
  have EY := Lib.hid eY
  have EZ := Lib.hid eZ
  have DX := Lib.hid hR1
  have DY := Lib.hid dY
  have DZ := Lib.hid dZ
  have DU := Lib.hid dU
  have HNX := Lib.hid hNX
  have HNY := Lib.hid hNY
  have HNZ := Lib.hid hNZ
  have M1 := Lib.hid hm1
  have CH := Lib.hid ch
  have CQ := Lib.hid cq
  have CQ1 := Lib.hid cq1
  have hT : Hid (tell hY none = some (hY, hY)) := rfl
  clear ha hC hfs hbig eX eY eZ hR1 dX dY dZ dU hNX hNY hNZ hm1 ch cq cq1 hOk hsz hsm
  rcases hcs with ⟨hc, rfl⟩ | ⟨hc, rfl⟩
  · have kc : (hY : Int) < (hX : Int) := by omega
    have kb : decide (hY < hX) = true := decide_eq_true hc
    go_enter Tryd.func10, Tryd.ntmps10
    go_wp2_with (first
      | (go_at_call 12; (with_reducible refine (shown5 _ HC.out).mono ?_); rintro e w1 ⟨rfl, hb1⟩
         have S1 : Hid (St NoS w w1 []) := (St.nil NoS w).next hb1
         clear hb1)
      | (go_at_call 17; (with_reducible refine (lSmall S1.out Ha.out.rd Ha.out.len (Nat.le_trans Ha.out.nc Ha.out.cm) Ha.out.ok).mono ?_); rintro e w2 ⟨A2, m2, c2, rfl, hm2, s2⟩
         have s3 : St NoS w w2 [FSo w.heap.size A2 c2 m2 (smallL la)] := s2
         rw [Hfs.out] at s3 hm2
         have hm2l : m2 ≤ 20 := by omega
         have M2 := Lib.hid hm2
         have S2 := Lib.hid s3
         clear s2 s3 hm2)
      | (go_at_call 25; (with_reducible refine (lNewD Sk.out (hX : Int) ih 1099511627776 hX CH.out).mono ?_); rintro e wl ⟨u, rfl, sl⟩
         have Sl : Hid (St NoS w wl [PDo u hX 1099511627776 (some (hX, []))]) := sl
         clear sl Sk)
      | (go_at_call 25; (with_reducible refine (lNewD Sf.out 0 i0 1099511627776 0 rfl).mono ?_); rintro e wg ⟨b, rfl, sg⟩
         have Sg : Hid (St NoS w wg [PEo a 0 [] none, PDo b 0 1099511627776 (some (0, []))]) := sg
         clear sg Sf)
      | (go_at_call 25; (with_reducible refine (lNewD S5.out (hX : Int) ih 1099511627776 hX CH.out).mono ?_); rintro e w6 ⟨v, rfl, s6⟩
         have S6 : Hid (St NoS w w6 [FSo w.heap.size A2 c2 m2 fs, PEo c hX [] none, PEo x hX [] none, PDo d hX 1099511627776 (some (hX, [])), PDo v hX 1099511627776 (some (hX, []))]) := s6
         clear s6 S5)
      | (go_at_call 25; (with_reducible refine (lNewD S4.out (hX : Int) ih 1099511627776 hX CH.out).mono ?_); rintro e w5 ⟨d, rfl, s5⟩
         have S5 : Hid (St NoS w w5 [FSo w.heap.size A2 c2 m2 fs, PEo c hX [] none, PEo x hX [] none, PDo d hX 1099511627776 (some (hX, []))]) := s5
         clear s5 S4)
      | (go_at_call 13; (with_reducible refine (lNewE Se.out 0 i0 0 rfl).mono ?_); rintro e wf ⟨a, rfl, sf⟩
         have Sf : Hid (St NoS w wf [PEo a 0 [] none]) := sf
         clear sf)
      | (go_at_call 13; (with_reducible refine (lNewE S3.out (hX : Int) ih hX CH.out).mono ?_); rintro e w4 ⟨x, rfl, s4⟩
         have S4 : Hid (St NoS w w4 [FSo w.heap.size A2 c2 m2 fs, PEo c hX [] none, PEo x hX [] none]) := s4
         clear s4 S3)
      | (go_at_call 13; (with_reducible refine (lNewE S2.out (hX : Int) ih hX CH.out).mono ?_); rintro e w3 ⟨c, rfl, s3⟩
         have S3 : Hid (St NoS w w3 [FSo w.heap.size A2 c2 m2 fs, PEo c hX [] none]) := s3
         clear s3 S2)
      | (go_at_call 27; (with_reducible refine (lSetMaxD1 Sg.out (hY : Int) iq hY CQ.out).mono ?_); rintro e wh ⟨rfl, sh⟩
         have Sh := Lib.hid sh
         clear sh Sg)
      | (go_at_call 27; (with_reducible refine (lSetMaxD4 S7.out (hY : Int) iq hY CQ.out).mono ?_); rintro e w8 ⟨rfl, s8⟩
         have S8 := Lib.hid s8
         clear s8 S7)
      | (go_at_call 27; (with_reducible refine (lSetMaxD3 S6.out (hY : Int) iq hY CQ.out).mono ?_); rintro e w7 ⟨rfl, s7⟩
         have S7 := Lib.hid s7
         clear s7 S6)
      | (go_at_call 15; (with_reducible refine (lSetMaxE0 Sh.out ((hY : Int) + 1) iq1 (hY + 1) CQ1.out).mono ?_); rintro e wi ⟨rfl, si⟩
         have Si : Hid (St NoS w wi [PEo a 0 [] (some (hY + 1, hY + 1)), PDo b hY 1099511627776 (some (0, []))]) := si
         clear si Sh)
      | (go_at_call 15; (with_reducible refine (lSetMaxE2 S8.out (hY : Int) iq hY CQ.out).mono ?_); rintro e w9 ⟨rfl, s9⟩
         have S9 : Hid (St NoS w w9 [FSo w.heap.size A2 c2 m2 fs, PEo c hX [] none, PEo x hX [] (some (hY, hY)), PDo d hY 1099511627776 (some (hX, [])), PDo v hY 1099511627776 (some (hX, []))]) := s9
         clear s9 S8)
      | (go_at_call 18; (with_reducible refine (lEncodeNil0 Si.out HC.out Z hZ lZ EZ.out NZ HNZ.out (by omega)).mono ?_); rintro e wj ⟨Aj, cj, rfl, sj⟩
         have Sj : Hid (St NoS w wj [PEo a hZ lZ none, PDo b hY 1099511627776 (some (0, [])), BSo w.heap.size Aj cj NZ Z]) := sj
         clear sj Si)
      | (go_at_call 18; (with_reducible refine (lEncode2 Sb.out HC.out (List.Mem.head _) M2.out (by omega) Hbig.out Y hY lY EY.out NY HNY.out (by omega)).mono ?_); rintro e wc ⟨Ac, cc, rfl, sc⟩
         have Sc := Lib.hid sc
         clear sc Sb)
      | (go_at_call 18; (with_reducible refine (lEncode1 S9.out HC.out (List.Mem.head _) M2.out (by omega) Hbig.out X hX lX EX.out NX HNX.out (by omega)).mono ?_); rintro e wa ⟨Aa, ca, rfl, sa⟩
         have Sa := Lib.hid sa
         clear sa S9)
      | (go_at_call 29; (with_reducible refine (lDecodeLit0 Sl.out HC.out [130, 32] 2 rfl (by omega) _ sh5_c3 _ [] 3 none DU.out 0 rfl).mono ?_); rintro e wm ⟨Am, cm, rfl, sm⟩
         have Sm := Lib.hid sm
         clear sm Sl)
      | (go_at_call 29; (with_reducible refine (lDecode1 Sj.out HC.out (List.Mem.tail _ (List.Mem.head _)) (by omega) [] 3 none DZ.out 0 rfl).mono ?_); rintro e wk ⟨Ak, ck, rfl, sk⟩
         have Sk : Hid (St NoS w wk []) := (((sk.drop3).drop2).drop1).drop0
         clear sk Sj)
      | (go_at_call 29; (with_reducible refine (lDecode4 Sc.out HC.out (List.Mem.tail _ (List.Mem.tail _ (List.Mem.tail _ (List.Mem.tail _ (List.Mem.head _))))) (by omega) fs 0 _ DY.out m2 M2.out).mono ?_); rintro e wd ⟨Ad, cd, rfl, sd⟩
         have Sd : Hid (St NoS w wd [FSo w.heap.size A2 c2 m2 fs, PDo v hY 1099511627776 (some (hY, lY)), FSo w.heap.size Ad cd m2 fs]) := ((((sd.drop5).drop3).drop2).drop1)
         clear sd Sc)
      | (go_at_call 29; (with_reducible refine (lDecode3 Sa.out HC.out (List.Mem.tail _ (List.Mem.tail _ (List.Mem.tail _ (List.Mem.tail _ (List.Mem.head _))))) (by omega) _ _ _ DX.out m1 M1.out).mono ?_); rintro e wb ⟨Ab, cb, rfl, sb⟩
         have Sb : Hid (St NoS w wb [FSo w.heap.size A2 c2 m2 fs, PEo c hX lX none, PEo x hX [] (some (hY, hY)), PDo d hY 1099511627776 st1, PDo v hY 1099511627776 (some (hX, []))]) := (sb.drop6).drop5
         clear sb Sa)
      | (go_at_call 19; (with_reducible refine (r5Same_eq (Rd.of_own Sd.out.own2) (Rd.of_own Sd.out.own0) M2.out (by omega)).mono ?_); rintro e we ⟨rfl, hb⟩
         have Se1 := Lib.hid (Sd.out.next hb)
         have Se : Hid (St NoS w we []) := (((Sd.out.next hb).drop2).drop1).drop0
         clear hb Sd)
      | (go_at_call 23; (with_reducible refine (lMaxD1 Se1.out).mono ?_); rintro e wz ⟨rfl, rfl⟩))
    go_ret
    exact ⟨rfl, Sm.out.below⟩
  · have kc : ¬ (hY : Int) < (hX : Int) := by omega
    have kb : decide (hY < hX) = false := decide_eq_false hc
    go_enter Tryd.func10, Tryd.ntmps10
    go_wp2_with (first
      | (go_at_call 12; (with_reducible refine (shown5 _ HC.out).mono ?_); rintro e w1 ⟨rfl, hb1⟩
         have S1 : Hid (St NoS w w1 []) := (St.nil NoS w).next hb1
         clear hb1)
      | (go_at_call 17; (with_reducible refine (lSmall S1.out Ha.out.rd Ha.out.len (Nat.le_trans Ha.out.nc Ha.out.cm) Ha.out.ok).mono ?_); rintro e w2 ⟨A2, m2, c2, rfl, hm2, s2⟩
         have s3 : St NoS w w2 [FSo w.heap.size A2 c2 m2 (smallL la)] := s2
         rw [Hfs.out] at s3 hm2
         have hm2l : m2 ≤ 20 := by omega
         have M2 := Lib.hid hm2
         have S2 := Lib.hid s3
         clear s2 s3 hm2)
      | (go_at_call 25; (with_reducible refine (lNewD Sk.out (hX : Int) ih 1099511627776 hX CH.out).mono ?_); rintro e wl ⟨u, rfl, sl⟩
         have Sl : Hid (St NoS w wl [PDo u hX 1099511627776 (some (hX, []))]) := sl
         clear sl Sk)
      | (go_at_call 25; (with_reducible refine (lNewD Sf.out 0 i0 1099511627776 0 rfl).mono ?_); rintro e wg ⟨b, rfl, sg⟩
         have Sg : Hid (St NoS w wg [PEo a 0 [] none, PDo b 0 1099511627776 (some (0, []))]) := sg
         clear sg Sf)
      | (go_at_call 25; (with_reducible refine (lNewD S5.out (hX : Int) ih 1099511627776 hX CH.out).mono ?_); rintro e w6 ⟨v, rfl, s6⟩
         have S6 : Hid (St NoS w w6 [FSo w.heap.size A2 c2 m2 fs, PEo c hX [] none, PEo x hX [] none, PDo d hX 1099511627776 (some (hX, [])), PDo v hX 1099511627776 (some (hX, []))]) := s6
         clear s6 S5)
      | (go_at_call 25; (with_reducible refine (lNewD S4.out (hX : Int) ih 1099511627776 hX CH.out).mono ?_); rintro e w5 ⟨d, rfl, s5⟩
         have S5 : Hid (St NoS w w5 [FSo w.heap.size A2 c2 m2 fs, PEo c hX [] none, PEo x hX [] none, PDo d hX 1099511627776 (some (hX, []))]) := s5
         clear s5 S4)
      | (go_at_call 13; (with_reducible refine (lNewE Se.out 0 i0 0 rfl).mono ?_); rintro e wf ⟨a, rfl, sf⟩
         have Sf : Hid (St NoS w wf [PEo a 0 [] none]) := sf
         clear sf)
      | (go_at_call 13; (with_reducible refine (lNewE S3.out (hX : Int) ih hX CH.out).mono ?_); rintro e w4 ⟨x, rfl, s4⟩
         have S4 : Hid (St NoS w w4 [FSo w.heap.size A2 c2 m2 fs, PEo c hX [] none, PEo x hX [] none]) := s4
         clear s4 S3)
      | (go_at_call 13; (with_reducible refine (lNewE S2.out (hX : Int) ih hX CH.out).mono ?_); rintro e w3 ⟨c, rfl, s3⟩
         have S3 : Hid (St NoS w w3 [FSo w.heap.size A2 c2 m2 fs, PEo c hX [] none]) := s3
         clear s3 S2)
      | (go_at_call 27; (with_reducible refine (lSetMaxD1 Sg.out (hY : Int) iq hY CQ.out).mono ?_); rintro e wh ⟨rfl, sh⟩
         have Sh := Lib.hid sh
         clear sh Sg)
      | (go_at_call 27; (with_reducible refine (lSetMaxD4 S7.out (hY : Int) iq hY CQ.out).mono ?_); rintro e w8 ⟨rfl, s8⟩
         have S8 := Lib.hid s8
         clear s8 S7)
      | (go_at_call 27; (with_reducible refine (lSetMaxD3 S6.out (hY : Int) iq hY CQ.out).mono ?_); rintro e w7 ⟨rfl, s7⟩
         have S7 := Lib.hid s7
         clear s7 S6)
      | (go_at_call 15; (with_reducible refine (lSetMaxE0 Sh.out ((hY : Int) + 1) iq1 (hY + 1) CQ1.out).mono ?_); rintro e wi ⟨rfl, si⟩
         have Si : Hid (St NoS w wi [PEo a 0 [] (some (hY + 1, hY + 1)), PDo b hY 1099511627776 (some (0, []))]) := si
         clear si Sh)
      | (go_at_call 15; (with_reducible refine (lSetMaxE2 S8.out (hY : Int) iq hY CQ.out).mono ?_); rintro e w9 ⟨rfl, s9⟩
         have S9 : Hid (St NoS w w9 [FSo w.heap.size A2 c2 m2 fs, PEo c hX [] none, PEo x hX [] (some (hY, hY)), PDo d hY 1099511627776 (some (hX, [])), PDo v hY 1099511627776 (some (hX, []))]) := s9
         clear s9 S8)
      | (go_at_call 18; (with_reducible refine (lEncodeNil0 Si.out HC.out Z hZ lZ EZ.out NZ HNZ.out (by omega)).mono ?_); rintro e wj ⟨Aj, cj, rfl, sj⟩
         have Sj : Hid (St NoS w wj [PEo a hZ lZ none, PDo b hY 1099511627776 (some (0, [])), BSo w.heap.size Aj cj NZ Z]) := sj
         clear sj Si)
      | (go_at_call 18; (with_reducible refine (lEncode2 Sb.out HC.out (List.Mem.head _) M2.out (by omega) Hbig.out Y hY lY EY.out NY HNY.out (by omega)).mono ?_); rintro e wc ⟨Ac, cc, rfl, sc⟩
         have Sc := Lib.hid sc
         clear sc Sb)
      | (go_at_call 18; (with_reducible refine (lEncode1 S9.out HC.out (List.Mem.head _) M2.out (by omega) Hbig.out X hX lX EX.out NX HNX.out (by omega)).mono ?_); rintro e wa ⟨Aa, ca, rfl, sa⟩
         have Sa := Lib.hid sa
         clear sa S9)
      | (go_at_call 29; (with_reducible refine (lDecodeLit0 Sl.out HC.out [130, 32] 2 rfl (by omega) _ sh5_c3 _ [] 3 none DU.out 0 rfl).mono ?_); rintro e wm ⟨Am, cm, rfl, sm⟩
         have Sm := Lib.hid sm
         clear sm Sl)
      | (go_at_call 29; (with_reducible refine (lDecode1 Sj.out HC.out (List.Mem.tail _ (List.Mem.head _)) (by omega) [] 3 none DZ.out 0 rfl).mono ?_); rintro e wk ⟨Ak, ck, rfl, sk⟩
         have Sk : Hid (St NoS w wk []) := (((sk.drop3).drop2).drop1).drop0
         clear sk Sj)
      | (go_at_call 29; (with_reducible refine (lDecode4 Sc.out HC.out (List.Mem.tail _ (List.Mem.tail _ (List.Mem.tail _ (List.Mem.tail _ (List.Mem.head _))))) (by omega) fs 0 _ DY.out m2 M2.out).mono ?_); rintro e wd ⟨Ad, cd, rfl, sd⟩
         have Sd : Hid (St NoS w wd [FSo w.heap.size A2 c2 m2 fs, PDo v hY 1099511627776 (some (hY, lY)), FSo w.heap.size Ad cd m2 fs]) := ((((sd.drop5).drop3).drop2).drop1)
         clear sd Sc)
      | (go_at_call 29; (with_reducible refine (lDecode3 Sa.out HC.out (List.Mem.tail _ (List.Mem.tail _ (List.Mem.tail _ (List.Mem.tail _ (List.Mem.head _))))) (by omega) _ _ _ DX.out m1 M1.out).mono ?_); rintro e wb ⟨Ab, cb, rfl, sb⟩
         have Sb : Hid (St NoS w wb [FSo w.heap.size A2 c2 m2 fs, PEo c hX lX none, PEo x hX [] (some (hY, hY)), PDo d hY 1099511627776 st1, PDo v hY 1099511627776 (some (hX, []))]) := (sb.drop6).drop5
         clear sb Sa)
      | (go_at_call 19; (with_reducible refine (r5Same_eq (Rd.of_own Sd.out.own2) (Rd.of_own Sd.out.own0) M2.out (by omega)).mono ?_); rintro e we ⟨rfl, hb⟩
         have Se1 := Lib.hid (Sd.out.next hb)
         have Se : Hid (St NoS w we []) := (((Sd.out.next hb).drop2).drop1).drop0
         clear hb Sd)
      | (go_at_call 23; (with_reducible refine (lMaxD1 Se1.out).mono ?_); rintro e wz ⟨rfl, rfl⟩))
    go_ret
    exact ⟨rfl, Sm.out.below⟩
end Go.Proofs.YtinieljgcenemaaDoor
