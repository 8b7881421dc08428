/- Several texts in one: RfK, RfL. -/
import Derived.Test.YtokbdkbljgdcpaaDoorYWB
import Derived.Test.YtokbdkbljgdcpaaDoorY2
import Derived.Test.YtokbdkbljgdcpaaDoorY1
import Derived.Deep.LoopGhost
import Derived.Deep.Cut
import Derived.Deep.DeepCutAuto
/- The document's May: the long way. -/
namespace Go.Proofs.YtokbdkbljgdcpaaDoor
open Go.RowKit Go.Own Go.Frm
set_option linter.unusedVariables false
set_option maxRecDepth 100000
set_option maxHeartbeats 16000000 in
theorem may_b (f : Fm) (k : Nat) (hk : f.kind = (k : Int)) (hk2 : k < 256) (hs0 : 0 ≤ f.stream) (hs1 : f.stream ≤ 2147483647) (hst : stray k f.stream = false) (A B : Option Addr) (n c m d : Nat) {w : World}
    (hn : f.pay.length = n) (hl : f.list.length = m) (hrd : Rd w 2 B m (scells f.list)) (hm : m ≤ 9223372036854775807) (hn2 : n ≤ 9223372036854775807) (r : Bool) (hr : mayB f = r) :
    Calls Tryd.prog 35 #[frV f (.slice A n c) (.slice B m d)] w fun e w' => e = .returned (.bool r) ∧ Below w.heap.size w w' := by
  obtain ⟨kind, stream, fin, eh, ack, prio, pay, flags, pad, depend, excl, weight, code, list, last, inc⟩ := f
  simp only at *
  subst hk
  have HKK : Hid ((Fm.mk (k : Int) stream fin eh ack prio pay flags pad depend excl weight code list last inc).k = k) := rfl
  have HR := Lib.hid hr
  obtain ⟨ve, hve⟩ : ∃ b, hE k = b := ⟨_, rfl⟩
  have Ve := Lib.hid hve
  obtain ⟨vh, hvh⟩ : ∃ b, hH k = b := ⟨_, rfl⟩
  have Vh := Lib.hid hvh
  obtain ⟨va, hva⟩ : ∃ b, hA k = b := ⟨_, rfl⟩
  have Va := Lib.hid hva
  obtain ⟨vr, hvr⟩ : ∃ b, hR k = b := ⟨_, rfl⟩
  have Vr := Lib.hid hvr
  obtain ⟨vb, hvb⟩ : ∃ b, hB k = b := ⟨_, rfl⟩
  have Vb := Lib.hid hvb
  obtain ⟨vf, hvf⟩ : ∃ b, hF k = b := ⟨_, rfl⟩
  have Vf := Lib.hid hvf
  obtain ⟨vp, hvp⟩ : ∃ b, hP k = b := ⟨_, rfl⟩
  have Vp := Lib.hid hvp
  obtain ⟨vc, hvc⟩ : ∃ b, hC k = b := ⟨_, rfl⟩
  have Vc := Lib.hid hvc
  obtain ⟨vl, hvl⟩ : ∃ b, hL k = b := ⟨_, rfl⟩
  have Vl := Lib.hid hvl
  obtain ⟨vt, hvt⟩ : ∃ b, hT k = b := ⟨_, rfl⟩
  have Vt := Lib.hid hvt
  obtain ⟨vi, hvi⟩ : ∃ b, hI k = b := ⟨_, rfl⟩
  have Vi := Lib.hid hvi
  obtain ⟨vw, hvw⟩ : ∃ b, hW k = b := ⟨_, rfl⟩
  have Vw := Lib.hid hvw
  obtain ⟨a7, hta7⟩ := Tst.mk (0 < n)
  have Ta7 := Lib.hid hta7
  obtain ⟨b7, htb7⟩ := Tst.mk (flags ≠ 0)
  have Tb7 := Lib.hid htb7
  obtain ⟨c7, htc7⟩ := Tst.mk (pad ≠ 0)
  have Tc7 := Lib.hid htc7
  obtain ⟨d7, htd7⟩ := Tst.mk (code ≠ 0)
  have Td7 := Lib.hid htd7
  obtain ⟨e7, hte7⟩ := Tst.mk (0 < m)
  have Te7 := Lib.hid hte7
  obtain ⟨a9, hta9⟩ := Tst.mk (last ≠ 0)
  have Ta9 := Lib.hid hta9
  obtain ⟨b9, htb9⟩ := Tst.mk (inc ≠ 0)
  have Tb9 := Lib.hid htb9
  obtain ⟨c9, htc9⟩ := Tst.mk (depend ≠ 0)
  have Tc9 := Lib.hid htc9
  obtain ⟨d9, htd9⟩ := Tst.mk (weight ≠ 0)
  have Td9 := Lib.hid htd9
  obtain ⟨a1, hta1⟩ := Tst.mk (pad < 0 ∨ 256 < pad)
  have Ta1 := Lib.hid hta1
  obtain ⟨b1, htb1⟩ := Tst.mk (flags < 0 ∨ 255 < flags)
  have Tb1 := Lib.hid htb1
  obtain ⟨c1, htc1⟩ := Tst.mk (last < 0 ∨ 2147483647 < last)
  have Tc1 := Lib.hid htc1
  obtain ⟨d1, htd1⟩ := Tst.mk (k = 5 ∧ last = 0)
  have Td1 := Lib.hid htd1
  obtain ⟨a3, hta3⟩ := Tst.mk (depend < 0 ∨ 2147483647 < depend ∨ weight < 1 ∨ 256 < weight)
  have Ta3 := Lib.hid hta3
  obtain ⟨b2, htb2⟩ := Tst.mk (k = 6 ∧ n ≠ 8)
  have Tb2 := Lib.hid htb2
  have PA : Hid (Tst a7 (0 < pay.length)) := by rw [hn]; exact hta7
  have PE : Hid (Tst e7 (0 < list.length)) := by rw [hl]; exact hte7
  have PB2 : Hid (Tst b2 (k = 6 ∧ pay.length ≠ 8)) := by rw [hn]; exact htb2
  obtain ⟨s51, hcs51⟩ : ∃ b, (fin && !ve) = b := ⟨_, rfl⟩
  have Hs51 := Lib.hid hcs51
  obtain ⟨s52, hcs52⟩ : ∃ b, (s51 || (eh && !vh)) = b := ⟨_, rfl⟩
  have Hs52 := Lib.hid hcs52
  obtain ⟨s53, hcs53⟩ : ∃ b, (s52 || (ack && !va)) = b := ⟨_, rfl⟩
  have Hs53 := Lib.hid hcs53
  obtain ⟨s54, hcs54⟩ : ∃ b, (s53 || (prio && !vr)) = b := ⟨_, rfl⟩
  have Hs54 := Lib.hid hcs54
  obtain ⟨wv, hcwv⟩ : ∃ b, (vw || vr && prio) = b := ⟨_, rfl⟩
  have Hwv := Lib.hid hcwv
  obtain ⟨s71, hcs71⟩ : ∃ b, (a7 && !vb) = b := ⟨_, rfl⟩
  have Hs71 := Lib.hid hcs71
  obtain ⟨s72, hcs72⟩ : ∃ b, (s71 || (b7 && !vf)) = b := ⟨_, rfl⟩
  have Hs72 := Lib.hid hcs72
  obtain ⟨s73, hcs73⟩ : ∃ b, (s72 || (c7 && !vp)) = b := ⟨_, rfl⟩
  have Hs73 := Lib.hid hcs73
  obtain ⟨s74, hcs74⟩ : ∃ b, (s73 || (d7 && !vc)) = b := ⟨_, rfl⟩
  have Hs74 := Lib.hid hcs74
  obtain ⟨s75, hcs75⟩ : ∃ b, (s74 || (e7 && !vl)) = b := ⟨_, rfl⟩
  have Hs75 := Lib.hid hcs75
  obtain ⟨s91, hcs91⟩ : ∃ b, (a9 && !vt) = b := ⟨_, rfl⟩
  have Hs91 := Lib.hid hcs91
  obtain ⟨s92, hcs92⟩ : ∃ b, (s91 || (b9 && !vi)) = b := ⟨_, rfl⟩
  have Hs92 := Lib.hid hcs92
  obtain ⟨s93, hcs93⟩ : ∃ b, (s92 || (!wv && ((c9 || excl) || d9))) = b := ⟨_, rfl⟩
  have Hs93 := Lib.hid hcs93
  obtain ⟨s112, hcs112⟩ : ∃ b, (a1 || b1) = b := ⟨_, rfl⟩
  have Hs112 := Lib.hid hcs112
  obtain ⟨s113, hcs113⟩ : ∃ b, (s112 || c1) = b := ⟨_, rfl⟩
  have Hs113 := Lib.hid hcs113
  obtain ⟨s114, hcs114⟩ : ∃ b, (s113 || d1) = b := ⟨_, rfl⟩
  have Hs114 := Lib.hid hcs114
  obtain ⟨s13, hcs13⟩ : ∃ b, (wv && a3) = b := ⟨_, rfl⟩
  have Hs13 := Lib.hid hcs13
  obtain ⟨s201, hcs201⟩ : ∃ b, (ack && e7) = b := ⟨_, rfl⟩
  have Hs201 := Lib.hid hcs201
  obtain ⟨s202, hcs202⟩ : ∃ b, (s201 || b2) = b := ⟨_, rfl⟩
  have Hs202 := Lib.hid hcs202
  have N5 : Hid (((((fin && !hE k) || (eh && !hH k)) || (ack && !hA k)) || (prio && !hR k)) = s54) := by
    unfold Hid
    rw [hve, hvh, hva, hvr, hcs51, hcs52, hcs53, hcs54]
  have N7 : Hid ((((((a7 && !hB k) || (b7 && !hF k)) || (c7 && !hP k)) || (d7 && !hC k)) || (e7 && !hL k)) = s75) := by
    unfold Hid
    rw [hvb, hvf, hvp, hvc, hvl, hcs71, hcs72, hcs73, hcs74, hcs75]
  have N9 : Hid ((((a9 && !hT k) || (b9 && !hI k)) || (!(hW k || hR k && prio) && ((c9 || excl) || d9))) = s93) := by
    unfold Hid
    rw [hvt, hvi, hvw, hvr, hcwv, hcs91, hcs92, hcs93]
  have N11 : Hid ((((a1 || b1) || c1) || d1) = s114) := by
    unfold Hid
    rw [hcs112, hcs113, hcs114]
  have N13 : Hid (((hW k || hR k && prio) && a3) = s13) := by
    unfold Hid
    rw [hvw, hvr, hcwv, hcs13]
  have N20 : Hid (((ack && e7) || b2) = s202) := by
    unfold Hid
    rw [hcs201, hcs202]
  have Hrd := Lib.hid hrd
  have HS0 := Lib.hid hs0
  have HS1 := Lib.hid hs1
  have HST := Lib.hid hst
  have HLL := Lib.hid hl
  clear hr hrd hst hn hl hve hvh hva hvr hvb hvf hvp hvc hvl hvt hvi hvw hta7 htb7 htc7 htd7 hte7 hta9 htb9 htc9 htd9 hta1 htb1 htc1 htd1 hta3 htb2 hcs51 hcs52 hcs53 hcs54 hcwv hcs71 hcs72 hcs73 hcs74 hcs75 hcs91 hcs92 hcs93 hcs112 hcs113 hcs114 hcs13 hcs201 hcs202
  have hk0 : ¬ (k : Int) < 0 := by omega
  have hk1 : ¬ 255 < (k : Int) := by omega
  have hs2 : ¬ stream < 0 := by omega
  have hs3 : ¬ 2147483647 < stream := by omega
  clear hs0 hs1
  go_enter Tryd.func35, Tryd.ntmps35
  go_upto_region 4 with (first
    | (go_at_call 45; (with_reducible refine (stray_n k stream false HST.out _).mono ?_); rintro e w0 ⟨rfl, rfl⟩)
    | (go_at_call 48; (with_reducible refine (has_c k _).mono ?_); rintro e w1 ⟨rfl, hb⟩
       have HBB := Lib.hid (below_box hb)
       have X1 := Lib.hid (blk_below (Blk.new _ 27 (frC (Fm.mk (k : Int) stream fin eh ack prio pay flags pad depend excl weight code list last inc) (.slice A n c) (.slice B m d))) hb)
       clear hb))
  have z0 : w1.cell? ⟨w.heap.size, 0, none⟩ = some (.int .i64 (k : Int)) := X1.out.cell 0
  have z1 : w1.cell? ⟨w.heap.size, 1, none⟩ = some (.int .i64 stream) := X1.out.cell 1
  have z2 : w1.cell? ⟨w.heap.size, 2, none⟩ = some (.bool fin) := X1.out.cell 2
  have z3 : w1.cell? ⟨w.heap.size, 3, none⟩ = some (.bool eh) := X1.out.cell 3
  have z4 : w1.cell? ⟨w.heap.size, 4, none⟩ = some (.bool ack) := X1.out.cell 4
  have z5 : w1.cell? ⟨w.heap.size, 5, none⟩ = some (.bool prio) := X1.out.cell 5
  have z6 : w1.cell? ⟨w.heap.size, 6, none⟩ = some (.slice A n c) := X1.out.cell 6
  have z7 : w1.cell? ⟨w.heap.size, 7, none⟩ = some (.int .i64 flags) := X1.out.cell 7
  have z8 : w1.cell? ⟨w.heap.size, 8, none⟩ = some (.int .i64 pad) := X1.out.cell 8
  have z9 : w1.cell? ⟨w.heap.size, 9, none⟩ = some (.int .i64 depend) := X1.out.cell 9
  have z10 : w1.cell? ⟨w.heap.size, 10, none⟩ = some (.bool excl) := X1.out.cell 10
  have z11 : w1.cell? ⟨w.heap.size, 11, none⟩ = some (.int .i64 weight) := X1.out.cell 11
  have z12 : w1.cell? ⟨w.heap.size, 12, none⟩ = some (.int .u32 (code : Int)) := X1.out.cell 12
  have z13 : w1.cell? ⟨w.heap.size, 13, none⟩ = some (.slice B m d) := X1.out.cell 13
  have z14 : w1.cell? ⟨w.heap.size, 14, none⟩ = some (.int .i64 last) := X1.out.cell 14
  have z15 : w1.cell? ⟨w.heap.size, 15, none⟩ = some (.int .i64 inc) := X1.out.cell 15
  have HL1 := X1.out.lt
  have Hrd1 := Lib.hid (Hrd.out.below HBB.out)
  clear Hrd X1
  refine wp_region_list ?_
  obtain ⟨R, HRl⟩ : ∃ R : Act → World → Prop, Hid (R = fun a' w' => ∃ y0 y6 y7 y8 y9 y10 y11 y12 y13 y14 y15 y16 y17 y18 y19 y20 y21 y22 y23 y24 y25 y26 y27 y28 y29 y30 y31 y32 y33 y34 y35 y36 y37 y38 y39 y40 y41 y42 : Value, a' = { tmps := #[y0, .pointer (some ⟨w.heap.size, 0, none⟩), .bool false, .string ⟨(letS k).toArray⟩, undef, undef, y6, y7, y8, y9, y10, y11, y12, y13, y14, y15, y16, y17, y18, y19, y20, y21, y22, y23, y24, y25, y26, y27, y28, y29, y30, y31, y32, y33, y34, y35, y36, y37, y38, y39, y40, y41, y42, .bool wv, undef, undef, undef, undef, undef, undef, undef, undef, undef, undef, undef, undef, undef, undef, undef, undef, undef, undef, undef, undef, undef, undef, undef, undef, undef, undef, undef, undef, undef, undef, undef, undef, undef, undef, undef, undef, undef, undef, undef, undef, undef, undef, undef, undef, undef, undef, undef, undef, undef, undef, undef, undef, undef, undef, undef, undef, undef, undef, undef, undef, undef, undef, undef, undef, undef, undef, undef, undef, undef, undef, undef, undef, undef, undef, undef, undef, undef, undef, undef, undef, undef, undef, undef, undef, undef, undef, undef, undef, undef, undef, undef, undef, undef, undef, undef, undef, undef, undef, undef, undef, undef, undef, undef, undef, undef, undef, undef, undef, undef, undef, undef, undef, undef, undef, undef, undef, undef, undef, undef, undef, undef, undef, undef, undef, undef, undef, undef, undef, undef, undef, undef, undef, undef, undef, undef, undef, undef, undef, undef, undef, undef, undef, undef, undef, undef, undef, undef, undef, undef, undef, undef, undef, undef, undef, undef, undef, undef, undef, undef, undef, undef, undef, undef, undef, undef, undef, undef, undef, undef, undef, undef, undef, undef, undef, undef, undef, undef, undef, undef, undef, undef, undef, undef, undef, undef, undef, undef, undef, undef, undef, undef, undef, undef, undef, undef, undef, undef, undef, undef, undef, undef, undef, undef, undef, undef, undef, undef, undef, undef, undef, undef, undef, undef, undef, undef, undef, undef, undef, undef, undef, undef, undef, undef, undef, undef, undef, undef, undef, undef, undef, undef, undef, undef, undef], defers := [] } ∧ w' = w1) := ⟨_, rfl⟩
  refine wpList_cutN 10 R ?_ ?_
  · simp only [List.take]
    have key : (vw = true) ∨ (vw = false ∧ vr = true) ∨ (vw = false ∧ vr = false) := by cases vw <;> cases vr <;> simp
    rcases key with rfl | ⟨rfl, rfl⟩ | ⟨rfl, rfl⟩
    all_goals (have h := Hwv.out; subst h)
    all_goals
      go_wp2_with (first
          | (go_at_call 47; (with_reducible refine (ltr_w k _ Vw.out _).mono ?_); rintro e w2 ⟨rfl, rfl⟩)
          | (go_at_call 47; (with_reducible refine (ltr_r k _ Vr.out _).mono ?_); rintro e w2 ⟨rfl, rfl⟩))
    all_goals (rw [HRl.out]; exact ⟨_, _, _, _, _, _, _, _, _, _, _, _, _, _, _, _, _, _, _, _, _, _, _, _, _, _, _, _, _, _, _, _, _, _, _, _, _, _, rfl, rfl⟩)
  intro a' w' hR
  rw [HRl.out] at hR
  obtain ⟨y0, y6, y7, y8, y9, y10, y11, y12, y13, y14, y15, y16, y17, y18, y19, y20, y21, y22, y23, y24, y25, y26, y27, y28, y29, y30, y31, y32, y33, y34, y35, y36, y37, y38, y39, y40, y41, y42, rfl, hw⟩ := hR
  subst w'
  clear HRl
  simp only [List.drop]
  go_upto_region 5 with (fail)
  refine wp_region_list ?_
  obtain ⟨R, HRl⟩ : ∃ R : Act → World → Prop, Hid (R = fun a' w' => ∃ y44 y45 y46 y47 y48 y49 : Value, a' = { tmps := #[y0, .pointer (some ⟨w.heap.size, 0, none⟩), .bool false, .string ⟨(letS k).toArray⟩, .bool wv, undef, y6, y7, y8, y9, y10, y11, y12, y13, y14, y15, y16, y17, y18, y19, y20, y21, y22, y23, y24, y25, y26, y27, y28, y29, y30, y31, y32, y33, y34, y35, y36, y37, y38, y39, y40, y41, y42, .bool wv, y44, y45, y46, y47, y48, y49, .bool s51, undef, undef, undef, undef, undef, undef, undef, undef, undef, undef, undef, undef, undef, undef, undef, undef, undef, undef, undef, undef, undef, undef, undef, undef, undef, undef, undef, undef, undef, undef, undef, undef, undef, undef, undef, undef, undef, undef, undef, undef, undef, undef, undef, undef, undef, undef, undef, undef, undef, undef, undef, undef, undef, undef, undef, undef, undef, undef, undef, undef, undef, undef, undef, undef, undef, undef, undef, undef, undef, undef, undef, undef, undef, undef, undef, undef, undef, undef, undef, undef, undef, undef, undef, undef, undef, undef, undef, undef, undef, undef, undef, undef, undef, undef, undef, undef, undef, undef, undef, undef, undef, undef, undef, undef, undef, undef, undef, undef, undef, undef, undef, undef, undef, undef, undef, undef, undef, undef, undef, undef, undef, undef, undef, undef, undef, undef, undef, undef, undef, undef, undef, undef, undef, undef, undef, undef, undef, undef, undef, undef, undef, undef, undef, undef, undef, undef, undef, undef, undef, undef, undef, undef, undef, undef, undef, undef, undef, undef, undef, undef, undef, undef, undef, undef, undef, undef, undef, undef, undef, undef, undef, undef, undef, undef, undef, undef, undef, undef, undef, undef, undef, undef, undef, undef, undef, undef, undef, undef, undef, undef, undef, undef, undef, undef, undef, undef, undef, undef, undef, undef, undef, undef, undef, undef, undef, undef, undef, undef, undef, undef, undef, undef, undef, undef, undef, undef, undef, undef, undef, undef, undef, undef, undef, undef, undef, undef, undef], defers := [] } ∧ w' = w1) := ⟨_, rfl⟩
  refine wpList_cutN 7 R ?_ ?_
  · simp only [List.take]
    cases fin
    all_goals (have h := Hs51.out; subst h)
    all_goals
      go_wp2_with (first
          | (go_at_call 47; (with_reducible refine (ltr_e k _ Ve.out _).mono ?_); rintro e w2 ⟨rfl, rfl⟩))
    all_goals (rw [HRl.out]; exact ⟨_, _, _, _, _, _, rfl, rfl⟩)
  intro a' w' hR
  rw [HRl.out] at hR
  obtain ⟨y44, y45, y46, y47, y48, y49, rfl, hw⟩ := hR
  subst w'
  clear HRl
  simp only [List.drop]
  obtain ⟨R, HRl⟩ : ∃ R : Act → World → Prop, Hid (R = fun a' w' => ∃ y51 y52 y53 y54 y55 y56 y57 y58 : Value, a' = { tmps := #[y0, .pointer (some ⟨w.heap.size, 0, none⟩), .bool false, .string ⟨(letS k).toArray⟩, .bool wv, undef, y6, y7, y8, y9, y10, y11, y12, y13, y14, y15, y16, y17, y18, y19, y20, y21, y22, y23, y24, y25, y26, y27, y28, y29, y30, y31, y32, y33, y34, y35, y36, y37, y38, y39, y40, y41, y42, .bool wv, y44, y45, y46, y47, y48, y49, .bool s51, y51, y52, y53, y54, y55, y56, y57, y58, .bool s52, undef, undef, undef, undef, undef, undef, undef, undef, undef, undef, undef, undef, undef, undef, undef, undef, undef, undef, undef, undef, undef, undef, undef, undef, undef, undef, undef, undef, undef, undef, undef, undef, undef, undef, undef, undef, undef, undef, undef, undef, undef, undef, undef, undef, undef, undef, undef, undef, undef, undef, undef, undef, undef, undef, undef, undef, undef, undef, undef, undef, undef, undef, undef, undef, undef, undef, undef, undef, undef, undef, undef, undef, undef, undef, undef, undef, undef, undef, undef, undef, undef, undef, undef, undef, undef, undef, undef, undef, undef, undef, undef, undef, undef, undef, undef, undef, undef, undef, undef, undef, undef, undef, undef, undef, undef, undef, undef, undef, undef, undef, undef, undef, undef, undef, undef, undef, undef, undef, undef, undef, undef, undef, undef, undef, undef, undef, undef, undef, undef, undef, undef, undef, undef, undef, undef, undef, undef, undef, undef, undef, undef, undef, undef, undef, undef, undef, undef, undef, undef, undef, undef, undef, undef, undef, undef, undef, undef, undef, undef, undef, undef, undef, undef, undef, undef, undef, undef, undef, undef, undef, undef, undef, undef, undef, undef, undef, undef, undef, undef, undef, undef, undef, undef, undef, undef, undef, undef, undef, undef, undef, undef, undef, undef, undef, undef, undef, undef, undef, undef, undef, undef, undef, undef, undef, undef, undef, undef, undef, undef, undef, undef, undef, undef, undef, undef, undef, undef, undef], defers := [] } ∧ w' = w1) := ⟨_, rfl⟩
  refine wpList_cutN 9 R ?_ ?_
  · simp only [List.take]
    rcases ways2 s51 eh with ⟨rfl, rfl⟩ | ⟨rfl, rfl⟩ | rfl
    all_goals (have h := Hs52.out; subst h)
    all_goals
      go_wp2_with (first
          | (go_at_call 47; (with_reducible refine (ltr_h k _ Vh.out _).mono ?_); rintro e w2 ⟨rfl, rfl⟩))
    all_goals (rw [HRl.out]; exact ⟨_, _, _, _, _, _, _, _, rfl, rfl⟩)
  intro a' w' hR
  rw [HRl.out] at hR
  obtain ⟨y51, y52, y53, y54, y55, y56, y57, y58, rfl, hw⟩ := hR
  subst w'
  clear HRl
  simp only [List.drop]
  obtain ⟨R, HRl⟩ : ∃ R : Act → World → Prop, Hid (R = fun a' w' => ∃ y60 y61 y62 y63 y64 y65 y66 y67 : Value, a' = { tmps := #[y0, .pointer (some ⟨w.heap.size, 0, none⟩), .bool false, .string ⟨(letS k).toArray⟩, .bool wv, undef, y6, y7, y8, y9, y10, y11, y12, y13, y14, y15, y16, y17, y18, y19, y20, y21, y22, y23, y24, y25, y26, y27, y28, y29, y30, y31, y32, y33, y34, y35, y36, y37, y38, y39, y40, y41, y42, .bool wv, y44, y45, y46, y47, y48, y49, .bool s51, y51, y52, y53, y54, y55, y56, y57, y58, .bool s52, y60, y61, y62, y63, y64, y65, y66, y67, .bool s53, undef, undef, undef, undef, undef, undef, undef, undef, undef, undef, undef, undef, undef, undef, undef, undef, undef, undef, undef, undef, undef, undef, undef, undef, undef, undef, undef, undef, undef, undef, undef, undef, undef, undef, undef, undef, undef, undef, undef, undef, undef, undef, undef, undef, undef, undef, undef, undef, undef, undef, undef, undef, undef, undef, undef, undef, undef, undef, undef, undef, undef, undef, undef, undef, undef, undef, undef, undef, undef, undef, undef, undef, undef, undef, undef, undef, undef, undef, undef, undef, undef, undef, undef, undef, undef, undef, undef, undef, undef, undef, undef, undef, undef, undef, undef, undef, undef, undef, undef, undef, undef, undef, undef, undef, undef, undef, undef, undef, undef, undef, undef, undef, undef, undef, undef, undef, undef, undef, undef, undef, undef, undef, undef, undef, undef, undef, undef, undef, undef, undef, undef, undef, undef, undef, undef, undef, undef, undef, undef, undef, undef, undef, undef, undef, undef, undef, undef, undef, undef, undef, undef, undef, undef, undef, undef, undef, undef, undef, undef, undef, undef, undef, undef, undef, undef, undef, undef, undef, undef, undef, undef, undef, undef, undef, undef, undef, undef, undef, undef, undef, undef, undef, undef, undef, undef, undef, undef, undef, undef, undef, undef, undef, undef, undef, undef, undef, undef, undef, undef, undef, undef, undef, undef, undef, undef, undef, undef, undef, undef], defers := [] } ∧ w' = w1) := ⟨_, rfl⟩
  refine wpList_cutN 9 R ?_ ?_
  · simp only [List.take]
    rcases ways2 s52 ack with ⟨rfl, rfl⟩ | ⟨rfl, rfl⟩ | rfl
    all_goals (have h := Hs53.out; subst h)
    all_goals
      go_wp2_with (first
          | (go_at_call 47; (with_reducible refine (ltr_a k _ Va.out _).mono ?_); rintro e w2 ⟨rfl, rfl⟩))
    all_goals (rw [HRl.out]; exact ⟨_, _, _, _, _, _, _, _, rfl, rfl⟩)
  intro a' w' hR
  rw [HRl.out] at hR
  obtain ⟨y60, y61, y62, y63, y64, y65, y66, y67, rfl, hw⟩ := hR
  subst w'
  clear HRl
  simp only [List.drop]
  obtain ⟨R, HRl⟩ : ∃ R : Act → World → Prop, Hid (R = fun a' w' => ∃ y69 y70 y71 y72 y73 y74 y75 y76 : Value, a' = { tmps := #[y0, .pointer (some ⟨w.heap.size, 0, none⟩), .bool false, .string ⟨(letS k).toArray⟩, .bool wv, undef, y6, y7, y8, y9, y10, y11, y12, y13, y14, y15, y16, y17, y18, y19, y20, y21, y22, y23, y24, y25, y26, y27, y28, y29, y30, y31, y32, y33, y34, y35, y36, y37, y38, y39, y40, y41, y42, .bool wv, y44, y45, y46, y47, y48, y49, .bool s51, y51, y52, y53, y54, y55, y56, y57, y58, .bool s52, y60, y61, y62, y63, y64, y65, y66, y67, .bool s53, y69, y70, y71, y72, y73, y74, y75, y76, .bool s54, undef, undef, undef, undef, undef, undef, undef, undef, undef, undef, undef, undef, undef, undef, undef, undef, undef, undef, undef, undef, undef, undef, undef, undef, undef, undef, undef, undef, undef, undef, undef, undef, undef, undef, undef, undef, undef, undef, undef, undef, undef, undef, undef, undef, undef, undef, undef, undef, undef, undef, undef, undef, undef, undef, undef, undef, undef, undef, undef, undef, undef, undef, undef, undef, undef, undef, undef, undef, undef, undef, undef, undef, undef, undef, undef, undef, undef, undef, undef, undef, undef, undef, undef, undef, undef, undef, undef, undef, undef, undef, undef, undef, undef, undef, undef, undef, undef, undef, undef, undef, undef, undef, undef, undef, undef, undef, undef, undef, undef, undef, undef, undef, undef, undef, undef, undef, undef, undef, undef, undef, undef, undef, undef, undef, undef, undef, undef, undef, undef, undef, undef, undef, undef, undef, undef, undef, undef, undef, undef, undef, undef, undef, undef, undef, undef, undef, undef, undef, undef, undef, undef, undef, undef, undef, undef, undef, undef, undef, undef, undef, undef, undef, undef, undef, undef, undef, undef, undef, undef, undef, undef, undef, undef, undef, undef, undef, undef, undef, undef, undef, undef, undef, undef, undef, undef, undef, undef, undef, undef, undef, undef, undef, undef, undef, undef, undef, undef, undef, undef, undef], defers := [] } ∧ w' = w1) := ⟨_, rfl⟩
  refine wpList_cutN 9 R ?_ ?_
  · simp only [List.take]
    rcases ways2 s53 prio with ⟨rfl, rfl⟩ | ⟨rfl, rfl⟩ | rfl
    all_goals (have h := Hs54.out; subst h)
    all_goals
      go_wp2_with (first
          | (go_at_call 47; (with_reducible refine (ltr_r k _ Vr.out _).mono ?_); rintro e w2 ⟨rfl, rfl⟩))
    all_goals (rw [HRl.out]; exact ⟨_, _, _, _, _, _, _, _, rfl, rfl⟩)
  intro a' w' hR
  rw [HRl.out] at hR
  obtain ⟨y69, y70, y71, y72, y73, y74, y75, y76, rfl, hw⟩ := hR
  subst w'
  clear HRl
  simp only [List.drop]
  refine wpList_end ?_
  cases s54
  rotate_left
  · go_wp2
    go_ret
    exact ⟨ret_bool ((no5 HKK.out N5.out).symm.trans HR.out), HBB.out⟩
  go_upto_region 7 with (fail)
  refine wp_region_list ?_
  obtain ⟨R, HRl⟩ : ∃ R : Act → World → Prop, Hid (R = fun a' w' => ∃ y78 y79 y80 y81 y82 y83 y84 y85 : Value, a' = { tmps := #[y0, .pointer (some ⟨w.heap.size, 0, none⟩), .bool false, .string ⟨(letS k).toArray⟩, .bool wv, undef, y6, y7, y8, y9, y10, y11, y12, y13, y14, y15, y16, y17, y18, y19, y20, y21, y22, y23, y24, y25, y26, y27, y28, y29, y30, y31, y32, y33, y34, y35, y36, y37, y38, y39, y40, y41, y42, .bool wv, y44, y45, y46, y47, y48, y49, .bool s51, y51, y52, y53, y54, y55, y56, y57, y58, .bool s52, y60, y61, y62, y63, y64, y65, y66, y67, .bool s53, y69, y70, y71, y72, y73, y74, y75, y76, .bool false, y78, y79, y80, y81, y82, y83, y84, y85, .bool s71, undef, undef, undef, undef, undef, undef, undef, undef, undef, undef, undef, undef, undef, undef, undef, undef, undef, undef, undef, undef, undef, undef, undef, undef, undef, undef, undef, undef, undef, undef, undef, undef, undef, undef, undef, undef, undef, undef, undef, undef, undef, undef, undef, undef, undef, undef, undef, undef, undef, undef, undef, undef, undef, undef, undef, undef, undef, undef, undef, undef, undef, undef, undef, undef, undef, undef, undef, undef, undef, undef, undef, undef, undef, undef, undef, undef, undef, undef, undef, undef, undef, undef, undef, undef, undef, undef, undef, undef, undef, undef, undef, undef, undef, undef, undef, undef, undef, undef, undef, undef, undef, undef, undef, undef, undef, undef, undef, undef, undef, undef, undef, undef, undef, undef, undef, undef, undef, undef, undef, undef, undef, undef, undef, undef, undef, undef, undef, undef, undef, undef, undef, undef, undef, undef, undef, undef, undef, undef, undef, undef, undef, undef, undef, undef, undef, undef, undef, undef, undef, undef, undef, undef, undef, undef, undef, undef, undef, undef, undef, undef, undef, undef, undef, undef, undef, undef, undef, undef, undef, undef, undef, undef, undef, undef, undef, undef, undef, undef, undef, undef, undef, undef, undef, undef, undef, undef, undef, undef, undef, undef, undef], defers := [] } ∧ w' = w1) := ⟨_, rfl⟩
  refine wpList_cutN 9 R ?_ ?_
  · simp only [List.take]
    rcases Ta7.out with ⟨rfl, hp⟩ | ⟨rfl, hp⟩
    all_goals (have h := Hs71.out; subst h)
    all_goals (try (have hq : n = 0 := by omega))
    all_goals (try (have hq : (0 : Int) < (n : Int) := by omega))
    all_goals
      go_wp2_with (first
          | (go_at_call 47; (with_reducible refine (ltr_b k _ Vb.out _).mono ?_); rintro e w2 ⟨rfl, rfl⟩))
    all_goals (rw [HRl.out]; exact ⟨_, _, _, _, _, _, _, _, rfl, rfl⟩)
  intro a' w' hR
  rw [HRl.out] at hR
  obtain ⟨y78, y79, y80, y81, y82, y83, y84, y85, rfl, hw⟩ := hR
  subst w'
  clear HRl
  simp only [List.drop]
  obtain ⟨R, HRl⟩ : ∃ R : Act → World → Prop, Hid (R = fun a' w' => ∃ y87 y88 y89 y90 y91 y92 y93 y94 y95 : Value, a' = { tmps := #[y0, .pointer (some ⟨w.heap.size, 0, none⟩), .bool false, .string ⟨(letS k).toArray⟩, .bool wv, undef, y6, y7, y8, y9, y10, y11, y12, y13, y14, y15, y16, y17, y18, y19, y20, y21, y22, y23, y24, y25, y26, y27, y28, y29, y30, y31, y32, y33, y34, y35, y36, y37, y38, y39, y40, y41, y42, .bool wv, y44, y45, y46, y47, y48, y49, .bool s51, y51, y52, y53, y54, y55, y56, y57, y58, .bool s52, y60, y61, y62, y63, y64, y65, y66, y67, .bool s53, y69, y70, y71, y72, y73, y74, y75, y76, .bool false, y78, y79, y80, y81, y82, y83, y84, y85, .bool s71, y87, y88, y89, y90, y91, y92, y93, y94, y95, .bool s72, undef, undef, undef, undef, undef, undef, undef, undef, undef, undef, undef, undef, undef, undef, undef, undef, undef, undef, undef, undef, undef, undef, undef, undef, undef, undef, undef, undef, undef, undef, undef, undef, undef, undef, undef, undef, undef, undef, undef, undef, undef, undef, undef, undef, undef, undef, undef, undef, undef, undef, undef, undef, undef, undef, undef, undef, undef, undef, undef, undef, undef, undef, undef, undef, undef, undef, undef, undef, undef, undef, undef, undef, undef, undef, undef, undef, undef, undef, undef, undef, undef, undef, undef, undef, undef, undef, undef, undef, undef, undef, undef, undef, undef, undef, undef, undef, undef, undef, undef, undef, undef, undef, undef, undef, undef, undef, undef, undef, undef, undef, undef, undef, undef, undef, undef, undef, undef, undef, undef, undef, undef, undef, undef, undef, undef, undef, undef, undef, undef, undef, undef, undef, undef, undef, undef, undef, undef, undef, undef, undef, undef, undef, undef, undef, undef, undef, undef, undef, undef, undef, undef, undef, undef, undef, undef, undef, undef, undef, undef, undef, undef, undef, undef, undef, undef, undef, undef, undef, undef, undef, undef, undef, undef, undef, undef, undef, undef, undef, undef, undef, undef], defers := [] } ∧ w' = w1) := ⟨_, rfl⟩
  refine wpList_cutN 10 R ?_ ?_
  · simp only [List.take]
    rcases waysT Tb7.out s71 with ⟨rfl, rfl, hp⟩ | ⟨rfl, rfl, hp⟩ | rfl
    all_goals (have h := Hs72.out; subst h)
    all_goals (try (have hq : flags = 0 := by omega))
    all_goals (try (have hq : (flags != 0) = true := by simpa using hp))
    all_goals
      go_wp2_with (first
          | (go_at_call 47; (with_reducible refine (ltr_f k _ Vf.out _).mono ?_); rintro e w2 ⟨rfl, rfl⟩))
    all_goals (rw [HRl.out]; exact ⟨_, _, _, _, _, _, _, _, _, rfl, rfl⟩)
  intro a' w' hR
  rw [HRl.out] at hR
  obtain ⟨y87, y88, y89, y90, y91, y92, y93, y94, y95, rfl, hw⟩ := hR
  subst w'
  clear HRl
  simp only [List.drop]
  obtain ⟨R, HRl⟩ : ∃ R : Act → World → Prop, Hid (R = fun a' w' => ∃ y97 y98 y99 y100 y101 y102 y103 y104 y105 : Value, a' = { tmps := #[y0, .pointer (some ⟨w.heap.size, 0, none⟩), .bool false, .string ⟨(letS k).toArray⟩, .bool wv, undef, y6, y7, y8, y9, y10, y11, y12, y13, y14, y15, y16, y17, y18, y19, y20, y21, y22, y23, y24, y25, y26, y27, y28, y29, y30, y31, y32, y33, y34, y35, y36, y37, y38, y39, y40, y41, y42, .bool wv, y44, y45, y46, y47, y48, y49, .bool s51, y51, y52, y53, y54, y55, y56, y57, y58, .bool s52, y60, y61, y62, y63, y64, y65, y66, y67, .bool s53, y69, y70, y71, y72, y73, y74, y75, y76, .bool false, y78, y79, y80, y81, y82, y83, y84, y85, .bool s71, y87, y88, y89, y90, y91, y92, y93, y94, y95, .bool s72, y97, y98, y99, y100, y101, y102, y103, y104, y105, .bool s73, undef, undef, undef, undef, undef, undef, undef, undef, undef, undef, undef, undef, undef, undef, undef, undef, undef, undef, undef, undef, undef, undef, undef, undef, undef, undef, undef, undef, undef, undef, undef, undef, undef, undef, undef, undef, undef, undef, undef, undef, undef, undef, undef, undef, undef, undef, undef, undef, undef, undef, undef, undef, undef, undef, undef, undef, undef, undef, undef, undef, undef, undef, undef, undef, undef, undef, undef, undef, undef, undef, undef, undef, undef, undef, undef, undef, undef, undef, undef, undef, undef, undef, undef, undef, undef, undef, undef, undef, undef, undef, undef, undef, undef, undef, undef, undef, undef, undef, undef, undef, undef, undef, undef, undef, undef, undef, undef, undef, undef, undef, undef, undef, undef, undef, undef, undef, undef, undef, undef, undef, undef, undef, undef, undef, undef, undef, undef, undef, undef, undef, undef, undef, undef, undef, undef, undef, undef, undef, undef, undef, undef, undef, undef, undef, undef, undef, undef, undef, undef, undef, undef, undef, undef, undef, undef, undef, undef, undef, undef, undef, undef, undef, undef, undef, undef, undef, undef, undef, undef, undef, undef], defers := [] } ∧ w' = w1) := ⟨_, rfl⟩
  refine wpList_cutN 10 R ?_ ?_
  · simp only [List.take]
    rcases waysT Tc7.out s72 with ⟨rfl, rfl, hp⟩ | ⟨rfl, rfl, hp⟩ | rfl
    all_goals (have h := Hs73.out; subst h)
    all_goals (try (have hq : pad = 0 := by omega))
    all_goals (try (have hq : (pad != 0) = true := by simpa using hp))
    all_goals
      go_wp2_with (first
          | (go_at_call 47; (with_reducible refine (ltr_p k _ Vp.out _).mono ?_); rintro e w2 ⟨rfl, rfl⟩))
    all_goals (rw [HRl.out]; exact ⟨_, _, _, _, _, _, _, _, _, rfl, rfl⟩)
  intro a' w' hR
  rw [HRl.out] at hR
  obtain ⟨y97, y98, y99, y100, y101, y102, y103, y104, y105, rfl, hw⟩ := hR
  subst w'
  clear HRl
  simp only [List.drop]
  obtain ⟨R, HRl⟩ : ∃ R : Act → World → Prop, Hid (R = fun a' w' => ∃ y107 y108 y109 y110 y111 y112 y113 y114 y115 : Value, a' = { tmps := #[y0, .pointer (some ⟨w.heap.size, 0, none⟩), .bool false, .string ⟨(letS k).toArray⟩, .bool wv, undef, y6, y7, y8, y9, y10, y11, y12, y13, y14, y15, y16, y17, y18, y19, y20, y21, y22, y23, y24, y25, y26, y27, y28, y29, y30, y31, y32, y33, y34, y35, y36, y37, y38, y39, y40, y41, y42, .bool wv, y44, y45, y46, y47, y48, y49, .bool s51, y51, y52, y53, y54, y55, y56, y57, y58, .bool s52, y60, y61, y62, y63, y64, y65, y66, y67, .bool s53, y69, y70, y71, y72, y73, y74, y75, y76, .bool false, y78, y79, y80, y81, y82, y83, y84, y85, .bool s71, y87, y88, y89, y90, y91, y92, y93, y94, y95, .bool s72, y97, y98, y99, y100, y101, y102, y103, y104, y105, .bool s73, y107, y108, y109, y110, y111, y112, y113, y114, y115, .bool s74, undef, undef, undef, undef, undef, undef, undef, undef, undef, undef, undef, undef, undef, undef, undef, undef, undef, undef, undef, undef, undef, undef, undef, undef, undef, undef, undef, undef, undef, undef, undef, undef, undef, undef, undef, undef, undef, undef, undef, undef, undef, undef, undef, undef, undef, undef, undef, undef, undef, undef, undef, undef, undef, undef, undef, undef, undef, undef, undef, undef, undef, undef, undef, undef, undef, undef, undef, undef, undef, undef, undef, undef, undef, undef, undef, undef, undef, undef, undef, undef, undef, undef, undef, undef, undef, undef, undef, undef, undef, undef, undef, undef, undef, undef, undef, undef, undef, undef, undef, undef, undef, undef, undef, undef, undef, undef, undef, undef, undef, undef, undef, undef, undef, undef, undef, undef, undef, undef, undef, undef, undef, undef, undef, undef, undef, undef, undef, undef, undef, undef, undef, undef, undef, undef, undef, undef, undef, undef, undef, undef, undef, undef, undef, undef, undef, undef, undef, undef, undef, undef, undef, undef, undef, undef, undef, undef, undef, undef, undef, undef, undef], defers := [] } ∧ w' = w1) := ⟨_, rfl⟩
  refine wpList_cutN 10 R ?_ ?_
  · simp only [List.take]
    rcases waysT Td7.out s73 with ⟨rfl, rfl, hp⟩ | ⟨rfl, rfl, hp⟩ | rfl
    all_goals (have h := Hs74.out; subst h)
    all_goals (try (have hq : (code : Int) = 0 := by omega))
    all_goals (try (have hq : ((code : Int) != 0) = true := by simp; omega))
    all_goals
      go_wp2_with (first
          | (go_at_call 47; (with_reducible refine (ltr_c k _ Vc.out _).mono ?_); rintro e w2 ⟨rfl, rfl⟩))
    all_goals (rw [HRl.out]; exact ⟨_, _, _, _, _, _, _, _, _, rfl, rfl⟩)
  intro a' w' hR
  rw [HRl.out] at hR
  obtain ⟨y107, y108, y109, y110, y111, y112, y113, y114, y115, rfl, hw⟩ := hR
  subst w'
  clear HRl
  simp only [List.drop]
  obtain ⟨R, HRl⟩ : ∃ R : Act → World → Prop, Hid (R = fun a' w' => ∃ y117 y118 y119 y120 y121 y122 y123 y124 y125 y126 : Value, a' = { tmps := #[y0, .pointer (some ⟨w.heap.size, 0, none⟩), .bool false, .string ⟨(letS k).toArray⟩, .bool wv, undef, y6, y7, y8, y9, y10, y11, y12, y13, y14, y15, y16, y17, y18, y19, y20, y21, y22, y23, y24, y25, y26, y27, y28, y29, y30, y31, y32, y33, y34, y35, y36, y37, y38, y39, y40, y41, y42, .bool wv, y44, y45, y46, y47, y48, y49, .bool s51, y51, y52, y53, y54, y55, y56, y57, y58, .bool s52, y60, y61, y62, y63, y64, y65, y66, y67, .bool s53, y69, y70, y71, y72, y73, y74, y75, y76, .bool false, y78, y79, y80, y81, y82, y83, y84, y85, .bool s71, y87, y88, y89, y90, y91, y92, y93, y94, y95, .bool s72, y97, y98, y99, y100, y101, y102, y103, y104, y105, .bool s73, y107, y108, y109, y110, y111, y112, y113, y114, y115, .bool s74, y117, y118, y119, y120, y121, y122, y123, y124, y125, y126, .bool s75, undef, undef, undef, undef, undef, undef, undef, undef, undef, undef, undef, undef, undef, undef, undef, undef, undef, undef, undef, undef, undef, undef, undef, undef, undef, undef, undef, undef, undef, undef, undef, undef, undef, undef, undef, undef, undef, undef, undef, undef, undef, undef, undef, undef, undef, undef, undef, undef, undef, undef, undef, undef, undef, undef, undef, undef, undef, undef, undef, undef, undef, undef, undef, undef, undef, undef, undef, undef, undef, undef, undef, undef, undef, undef, undef, undef, undef, undef, undef, undef, undef, undef, undef, undef, undef, undef, undef, undef, undef, undef, undef, undef, undef, undef, undef, undef, undef, undef, undef, undef, undef, undef, undef, undef, undef, undef, undef, undef, undef, undef, undef, undef, undef, undef, undef, undef, undef, undef, undef, undef, undef, undef, undef, undef, undef, undef, undef, undef, undef, undef, undef, undef, undef, undef, undef, undef, undef, undef, undef, undef, undef, undef, undef, undef, undef, undef, undef, undef, undef, undef], defers := [] } ∧ w' = w1) := ⟨_, rfl⟩
  refine wpList_cutN 11 R ?_ ?_
  · simp only [List.take]
    rcases waysT Te7.out s74 with ⟨rfl, rfl, hp⟩ | ⟨rfl, rfl, hp⟩ | rfl
    all_goals (have h := Hs75.out; subst h)
    all_goals (try (have hq : m = 0 := by omega))
    all_goals (try (have hq : (0 : Int) < (m : Int) := by omega))
    all_goals
      go_wp2_with (first
          | (go_at_call 47; (with_reducible refine (ltr_l k _ Vl.out _).mono ?_); rintro e w2 ⟨rfl, rfl⟩))
    all_goals (rw [HRl.out]; exact ⟨_, _, _, _, _, _, _, _, _, _, rfl, rfl⟩)
  intro a' w' hR
  rw [HRl.out] at hR
  obtain ⟨y117, y118, y119, y120, y121, y122, y123, y124, y125, y126, rfl, hw⟩ := hR
  subst w'
  clear HRl
  simp only [List.drop]
  refine wpList_end ?_
  cases s75
  rotate_left
  · go_wp2
    go_ret
    exact ⟨ret_bool ((no7 HKK.out PA.out Tb7.out Tc7.out Td7.out PE.out N7.out).symm.trans HR.out), HBB.out⟩
  go_upto_region 9 with (fail)
  refine wp_region_list ?_
  obtain ⟨R, HRl⟩ : ∃ R : Act → World → Prop, Hid (R = fun a' w' => ∃ y128 y129 y130 y131 y132 y133 y134 : Value, a' = { tmps := #[y0, .pointer (some ⟨w.heap.size, 0, none⟩), .bool false, .string ⟨(letS k).toArray⟩, .bool wv, undef, y6, y7, y8, y9, y10, y11, y12, y13, y14, y15, y16, y17, y18, y19, y20, y21, y22, y23, y24, y25, y26, y27, y28, y29, y30, y31, y32, y33, y34, y35, y36, y37, y38, y39, y40, y41, y42, .bool wv, y44, y45, y46, y47, y48, y49, .bool s51, y51, y52, y53, y54, y55, y56, y57, y58, .bool s52, y60, y61, y62, y63, y64, y65, y66, y67, .bool s53, y69, y70, y71, y72, y73, y74, y75, y76, .bool false, y78, y79, y80, y81, y82, y83, y84, y85, .bool s71, y87, y88, y89, y90, y91, y92, y93, y94, y95, .bool s72, y97, y98, y99, y100, y101, y102, y103, y104, y105, .bool s73, y107, y108, y109, y110, y111, y112, y113, y114, y115, .bool s74, y117, y118, y119, y120, y121, y122, y123, y124, y125, y126, .bool false, y128, y129, y130, y131, y132, y133, y134, .bool s91, undef, undef, undef, undef, undef, undef, undef, undef, undef, undef, undef, undef, undef, undef, undef, undef, undef, undef, undef, undef, undef, undef, undef, undef, undef, undef, undef, undef, undef, undef, undef, undef, undef, undef, undef, undef, undef, undef, undef, undef, undef, undef, undef, undef, undef, undef, undef, undef, undef, undef, undef, undef, undef, undef, undef, undef, undef, undef, undef, undef, undef, undef, undef, undef, undef, undef, undef, undef, undef, undef, undef, undef, undef, undef, undef, undef, undef, undef, undef, undef, undef, undef, undef, undef, undef, undef, undef, undef, undef, undef, undef, undef, undef, undef, undef, undef, undef, undef, undef, undef, undef, undef, undef, undef, undef, undef, undef, undef, undef, undef, undef, undef, undef, undef, undef, undef, undef, undef, undef, undef, undef, undef, undef, undef, undef, undef, undef, undef, undef, undef, undef, undef, undef, undef, undef, undef, undef, undef, undef, undef, undef, undef], defers := [] } ∧ w' = w1) := ⟨_, rfl⟩
  refine wpList_cutN 8 R ?_ ?_
  · simp only [List.take]
    rcases Ta9.out with ⟨rfl, hp⟩ | ⟨rfl, hp⟩
    all_goals (have h := Hs91.out; subst h)
    all_goals (try (have hq : last = 0 := by omega))
    all_goals (try (have hq : (last != 0) = true := by simpa using hp))
    all_goals
      go_wp2_with (first
          | (go_at_call 47; (with_reducible refine (ltr_t k _ Vt.out _).mono ?_); rintro e w2 ⟨rfl, rfl⟩))
    all_goals (rw [HRl.out]; exact ⟨_, _, _, _, _, _, _, rfl, rfl⟩)
  intro a' w' hR
  rw [HRl.out] at hR
  obtain ⟨y128, y129, y130, y131, y132, y133, y134, rfl, hw⟩ := hR
  subst w'
  clear HRl
  simp only [List.drop]
  obtain ⟨R, HRl⟩ : ∃ R : Act → World → Prop, Hid (R = fun a' w' => ∃ y136 y137 y138 y139 y140 y141 y142 y143 y144 : Value, a' = { tmps := #[y0, .pointer (some ⟨w.heap.size, 0, none⟩), .bool false, .string ⟨(letS k).toArray⟩, .bool wv, undef, y6, y7, y8, y9, y10, y11, y12, y13, y14, y15, y16, y17, y18, y19, y20, y21, y22, y23, y24, y25, y26, y27, y28, y29, y30, y31, y32, y33, y34, y35, y36, y37, y38, y39, y40, y41, y42, .bool wv, y44, y45, y46, y47, y48, y49, .bool s51, y51, y52, y53, y54, y55, y56, y57, y58, .bool s52, y60, y61, y62, y63, y64, y65, y66, y67, .bool s53, y69, y70, y71, y72, y73, y74, y75, y76, .bool false, y78, y79, y80, y81, y82, y83, y84, y85, .bool s71, y87, y88, y89, y90, y91, y92, y93, y94, y95, .bool s72, y97, y98, y99, y100, y101, y102, y103, y104, y105, .bool s73, y107, y108, y109, y110, y111, y112, y113, y114, y115, .bool s74, y117, y118, y119, y120, y121, y122, y123, y124, y125, y126, .bool false, y128, y129, y130, y131, y132, y133, y134, .bool s91, y136, y137, y138, y139, y140, y141, y142, y143, y144, .bool s92, undef, undef, undef, undef, undef, undef, undef, undef, undef, undef, undef, undef, undef, undef, undef, undef, undef, undef, undef, undef, undef, undef, undef, undef, undef, undef, undef, undef, undef, undef, undef, undef, undef, undef, undef, undef, undef, undef, undef, undef, undef, undef, undef, undef, undef, undef, undef, undef, undef, undef, undef, undef, undef, undef, undef, undef, undef, undef, undef, undef, undef, undef, undef, undef, undef, undef, undef, undef, undef, undef, undef, undef, undef, undef, undef, undef, undef, undef, undef, undef, undef, undef, undef, undef, undef, undef, undef, undef, undef, undef, undef, undef, undef, undef, undef, undef, undef, undef, undef, undef, undef, undef, undef, undef, undef, undef, undef, undef, undef, undef, undef, undef, undef, undef, undef, undef, undef, undef, undef, undef, undef, undef, undef, undef, undef, undef, undef, undef, undef, undef, undef, undef], defers := [] } ∧ w' = w1) := ⟨_, rfl⟩
  refine wpList_cutN 10 R ?_ ?_
  · simp only [List.take]
    rcases waysT Tb9.out s91 with ⟨rfl, rfl, hp⟩ | ⟨rfl, rfl, hp⟩ | rfl
    all_goals (have h := Hs92.out; subst h)
    all_goals (try (have hq : inc = 0 := by omega))
    all_goals (try (have hq : (inc != 0) = true := by simpa using hp))
    all_goals
      go_wp2_with (first
          | (go_at_call 47; (with_reducible refine (ltr_i k _ Vi.out _).mono ?_); rintro e w2 ⟨rfl, rfl⟩))
    all_goals (rw [HRl.out]; exact ⟨_, _, _, _, _, _, _, _, _, rfl, rfl⟩)
  intro a' w' hR
  rw [HRl.out] at hR
  obtain ⟨y136, y137, y138, y139, y140, y141, y142, y143, y144, rfl, hw⟩ := hR
  subst w'
  clear HRl
  simp only [List.drop]
  obtain ⟨R, HRl⟩ : ∃ R : Act → World → Prop, Hid (R = fun a' w' => ∃ y146 y147 y148 y149 y150 y151 y152 y153 y154 y155 y156 y157 y158 y159 y160 y161 y162 : Value, a' = { tmps := #[y0, .pointer (some ⟨w.heap.size, 0, none⟩), .bool false, .string ⟨(letS k).toArray⟩, .bool wv, undef, y6, y7, y8, y9, y10, y11, y12, y13, y14, y15, y16, y17, y18, y19, y20, y21, y22, y23, y24, y25, y26, y27, y28, y29, y30, y31, y32, y33, y34, y35, y36, y37, y38, y39, y40, y41, y42, .bool wv, y44, y45, y46, y47, y48, y49, .bool s51, y51, y52, y53, y54, y55, y56, y57, y58, .bool s52, y60, y61, y62, y63, y64, y65, y66, y67, .bool s53, y69, y70, y71, y72, y73, y74, y75, y76, .bool false, y78, y79, y80, y81, y82, y83, y84, y85, .bool s71, y87, y88, y89, y90, y91, y92, y93, y94, y95, .bool s72, y97, y98, y99, y100, y101, y102, y103, y104, y105, .bool s73, y107, y108, y109, y110, y111, y112, y113, y114, y115, .bool s74, y117, y118, y119, y120, y121, y122, y123, y124, y125, y126, .bool false, y128, y129, y130, y131, y132, y133, y134, .bool s91, y136, y137, y138, y139, y140, y141, y142, y143, y144, .bool s92, y146, y147, y148, y149, y150, y151, y152, y153, y154, y155, y156, y157, y158, y159, y160, y161, y162, .bool s93, undef, undef, undef, undef, undef, undef, undef, undef, undef, undef, undef, undef, undef, undef, undef, undef, undef, undef, undef, undef, undef, undef, undef, undef, undef, undef, undef, undef, undef, undef, undef, undef, undef, undef, undef, undef, undef, undef, undef, undef, undef, undef, undef, undef, undef, undef, undef, undef, undef, undef, undef, undef, undef, undef, undef, undef, undef, undef, undef, undef, undef, undef, undef, undef, undef, undef, undef, undef, undef, undef, undef, undef, undef, undef, undef, undef, undef, undef, undef, undef, undef, undef, undef, undef, undef, undef, undef, undef, undef, undef, undef, undef, undef, undef, undef, undef, undef, undef, undef, undef, undef, undef, undef, undef, undef, undef, undef, undef, undef, undef, undef, undef, undef, undef], defers := [] } ∧ w' = w1) := ⟨_, rfl⟩
  refine wpList_cutN 18 R ?_ ?_
  · simp only [List.take]
    rcases ways9 Tc9.out Td9.out s92 wv excl with rfl | ⟨rfl, rfl⟩ | ⟨rfl, rfl, rfl, hp⟩ | ⟨rfl, rfl, rfl, hp, rfl⟩ | ⟨rfl, rfl, rfl, hp, rfl, rfl, hp2⟩ | ⟨rfl, rfl, rfl, hp, rfl, rfl, hp2⟩
    all_goals (have h := Hs93.out; subst h)
    all_goals (try (have hq : depend = 0 := by omega))
    all_goals (try (have hq2 : weight = 0 := by omega))
    all_goals (try (have hq3 : (depend != 0) = true := by simpa using hp))
    all_goals (try (have hq4 : (weight != 0) = true := by simpa using hp2))
    all_goals
      go_wp2
    all_goals (rw [HRl.out]; exact ⟨_, _, _, _, _, _, _, _, _, _, _, _, _, _, _, _, _, rfl, rfl⟩)
  intro a' w' hR
  rw [HRl.out] at hR
  obtain ⟨y146, y147, y148, y149, y150, y151, y152, y153, y154, y155, y156, y157, y158, y159, y160, y161, y162, rfl, hw⟩ := hR
  subst w'
  clear HRl
  simp only [List.drop]
  refine wpList_end ?_
  cases s93
  rotate_left
  · go_wp2
    go_ret
    exact ⟨ret_bool ((no9 HKK.out Ta9.out Tb9.out Tc9.out Td9.out N9.out).symm.trans HR.out), HBB.out⟩
  go_upto_region 11 with (fail)
  refine wp_region_list ?_
  obtain ⟨R, HRl⟩ : ∃ R : Act → World → Prop, Hid (R = fun a' w' => ∃ y164 y165 y166 y167 y168 y169 y170 : Value, a' = { tmps := #[y0, .pointer (some ⟨w.heap.size, 0, none⟩), .bool false, .string ⟨(letS k).toArray⟩, .bool wv, undef, y6, y7, y8, y9, y10, y11, y12, y13, y14, y15, y16, y17, y18, y19, y20, y21, y22, y23, y24, y25, y26, y27, y28, y29, y30, y31, y32, y33, y34, y35, y36, y37, y38, y39, y40, y41, y42, .bool wv, y44, y45, y46, y47, y48, y49, .bool s51, y51, y52, y53, y54, y55, y56, y57, y58, .bool s52, y60, y61, y62, y63, y64, y65, y66, y67, .bool s53, y69, y70, y71, y72, y73, y74, y75, y76, .bool false, y78, y79, y80, y81, y82, y83, y84, y85, .bool s71, y87, y88, y89, y90, y91, y92, y93, y94, y95, .bool s72, y97, y98, y99, y100, y101, y102, y103, y104, y105, .bool s73, y107, y108, y109, y110, y111, y112, y113, y114, y115, .bool s74, y117, y118, y119, y120, y121, y122, y123, y124, y125, y126, .bool false, y128, y129, y130, y131, y132, y133, y134, .bool s91, y136, y137, y138, y139, y140, y141, y142, y143, y144, .bool s92, y146, y147, y148, y149, y150, y151, y152, y153, y154, y155, y156, y157, y158, y159, y160, y161, y162, .bool false, y164, y165, y166, y167, y168, y169, y170, .bool a1, undef, undef, undef, undef, undef, undef, undef, undef, undef, undef, undef, undef, undef, undef, undef, undef, undef, undef, undef, undef, undef, undef, undef, undef, undef, undef, undef, undef, undef, undef, undef, undef, undef, undef, undef, undef, undef, undef, undef, undef, undef, undef, undef, undef, undef, undef, undef, undef, undef, undef, undef, undef, undef, undef, undef, undef, undef, undef, undef, undef, undef, undef, undef, undef, undef, undef, undef, undef, undef, undef, undef, undef, undef, undef, undef, undef, undef, undef, undef, undef, undef, undef, undef, undef, undef, undef, undef, undef, undef, undef, undef, undef, undef, undef, undef, undef, undef, undef, undef, undef, undef, undef, undef, undef, undef, undef], defers := [] } ∧ w' = w1) := ⟨_, rfl⟩
  refine wpList_cutN 8 R ?_ ?_
  · simp only [List.take]
    have key := (waysR Ta1.out false).resolve_left (by decide)
    rcases key with ⟨_, rfl, hp⟩ | ⟨_, rfl, hp, hp2⟩ | ⟨_, rfl, hp, hp2⟩
    all_goals
      go_wp2
    all_goals (rw [HRl.out]; exact ⟨_, _, _, _, _, _, _, rfl, rfl⟩)
  intro a' w' hR
  rw [HRl.out] at hR
  obtain ⟨y164, y165, y166, y167, y168, y169, y170, rfl, hw⟩ := hR
  subst w'
  clear HRl
  simp only [List.drop]
  obtain ⟨R, HRl⟩ : ∃ R : Act → World → Prop, Hid (R = fun a' w' => ∃ y172 y173 y174 y175 y176 y177 y178 y179 y180 : Value, a' = { tmps := #[y0, .pointer (some ⟨w.heap.size, 0, none⟩), .bool false, .string ⟨(letS k).toArray⟩, .bool wv, undef, y6, y7, y8, y9, y10, y11, y12, y13, y14, y15, y16, y17, y18, y19, y20, y21, y22, y23, y24, y25, y26, y27, y28, y29, y30, y31, y32, y33, y34, y35, y36, y37, y38, y39, y40, y41, y42, .bool wv, y44, y45, y46, y47, y48, y49, .bool s51, y51, y52, y53, y54, y55, y56, y57, y58, .bool s52, y60, y61, y62, y63, y64, y65, y66, y67, .bool s53, y69, y70, y71, y72, y73, y74, y75, y76, .bool false, y78, y79, y80, y81, y82, y83, y84, y85, .bool s71, y87, y88, y89, y90, y91, y92, y93, y94, y95, .bool s72, y97, y98, y99, y100, y101, y102, y103, y104, y105, .bool s73, y107, y108, y109, y110, y111, y112, y113, y114, y115, .bool s74, y117, y118, y119, y120, y121, y122, y123, y124, y125, y126, .bool false, y128, y129, y130, y131, y132, y133, y134, .bool s91, y136, y137, y138, y139, y140, y141, y142, y143, y144, .bool s92, y146, y147, y148, y149, y150, y151, y152, y153, y154, y155, y156, y157, y158, y159, y160, y161, y162, .bool false, y164, y165, y166, y167, y168, y169, y170, .bool a1, y172, y173, y174, y175, y176, y177, y178, y179, y180, .bool s112, undef, undef, undef, undef, undef, undef, undef, undef, undef, undef, undef, undef, undef, undef, undef, undef, undef, undef, undef, undef, undef, undef, undef, undef, undef, undef, undef, undef, undef, undef, undef, undef, undef, undef, undef, undef, undef, undef, undef, undef, undef, undef, undef, undef, undef, undef, undef, undef, undef, undef, undef, undef, undef, undef, undef, undef, undef, undef, undef, undef, undef, undef, undef, undef, undef, undef, undef, undef, undef, undef, undef, undef, undef, undef, undef, undef, undef, undef, undef, undef, undef, undef, undef, undef, undef, undef, undef, undef, undef, undef, undef, undef, undef, undef, undef, undef], defers := [] } ∧ w' = w1) := ⟨_, rfl⟩
  refine wpList_cutN 10 R ?_ ?_
  · simp only [List.take]
    rcases waysR Tb1.out a1 with rfl | ⟨rfl, rfl, hp⟩ | ⟨rfl, rfl, hp, hp2⟩ | ⟨rfl, rfl, hp, hp2⟩
    all_goals (have h := Hs112.out; subst h)
    all_goals
      go_wp2
    all_goals (rw [HRl.out]; exact ⟨_, _, _, _, _, _, _, _, _, rfl, rfl⟩)
  intro a' w' hR
  rw [HRl.out] at hR
  obtain ⟨y172, y173, y174, y175, y176, y177, y178, y179, y180, rfl, hw⟩ := hR
  subst w'
  clear HRl
  simp only [List.drop]
  obtain ⟨R, HRl⟩ : ∃ R : Act → World → Prop, Hid (R = fun a' w' => ∃ y182 y183 y184 y185 y186 y187 y188 y189 y190 : Value, a' = { tmps := #[y0, .pointer (some ⟨w.heap.size, 0, none⟩), .bool false, .string ⟨(letS k).toArray⟩, .bool wv, undef, y6, y7, y8, y9, y10, y11, y12, y13, y14, y15, y16, y17, y18, y19, y20, y21, y22, y23, y24, y25, y26, y27, y28, y29, y30, y31, y32, y33, y34, y35, y36, y37, y38, y39, y40, y41, y42, .bool wv, y44, y45, y46, y47, y48, y49, .bool s51, y51, y52, y53, y54, y55, y56, y57, y58, .bool s52, y60, y61, y62, y63, y64, y65, y66, y67, .bool s53, y69, y70, y71, y72, y73, y74, y75, y76, .bool false, y78, y79, y80, y81, y82, y83, y84, y85, .bool s71, y87, y88, y89, y90, y91, y92, y93, y94, y95, .bool s72, y97, y98, y99, y100, y101, y102, y103, y104, y105, .bool s73, y107, y108, y109, y110, y111, y112, y113, y114, y115, .bool s74, y117, y118, y119, y120, y121, y122, y123, y124, y125, y126, .bool false, y128, y129, y130, y131, y132, y133, y134, .bool s91, y136, y137, y138, y139, y140, y141, y142, y143, y144, .bool s92, y146, y147, y148, y149, y150, y151, y152, y153, y154, y155, y156, y157, y158, y159, y160, y161, y162, .bool false, y164, y165, y166, y167, y168, y169, y170, .bool a1, y172, y173, y174, y175, y176, y177, y178, y179, y180, .bool s112, y182, y183, y184, y185, y186, y187, y188, y189, y190, .bool s113, undef, undef, undef, undef, undef, undef, undef, undef, undef, undef, undef, undef, undef, undef, undef, undef, undef, undef, undef, undef, undef, undef, undef, undef, undef, undef, undef, undef, undef, undef, undef, undef, undef, undef, undef, undef, undef, undef, undef, undef, undef, undef, undef, undef, undef, undef, undef, undef, undef, undef, undef, undef, undef, undef, undef, undef, undef, undef, undef, undef, undef, undef, undef, undef, undef, undef, undef, undef, undef, undef, undef, undef, undef, undef, undef, undef, undef, undef, undef, undef, undef, undef, undef, undef, undef, undef], defers := [] } ∧ w' = w1) := ⟨_, rfl⟩
  refine wpList_cutN 10 R ?_ ?_
  · simp only [List.take]
    rcases waysR Tc1.out s112 with rfl | ⟨rfl, rfl, hp⟩ | ⟨rfl, rfl, hp, hp2⟩ | ⟨rfl, rfl, hp, hp2⟩
    all_goals (have h := Hs113.out; subst h)
    all_goals
      go_wp2
    all_goals (rw [HRl.out]; exact ⟨_, _, _, _, _, _, _, _, _, rfl, rfl⟩)
  intro a' w' hR
  rw [HRl.out] at hR
  obtain ⟨y182, y183, y184, y185, y186, y187, y188, y189, y190, rfl, hw⟩ := hR
  subst w'
  clear HRl
  simp only [List.drop]
  obtain ⟨R, HRl⟩ : ∃ R : Act → World → Prop, Hid (R = fun a' w' => ∃ y192 y193 y194 y195 y196 y197 y198 y199 y200 : Value, a' = { tmps := #[y0, .pointer (some ⟨w.heap.size, 0, none⟩), .bool false, .string ⟨(letS k).toArray⟩, .bool wv, undef, y6, y7, y8, y9, y10, y11, y12, y13, y14, y15, y16, y17, y18, y19, y20, y21, y22, y23, y24, y25, y26, y27, y28, y29, y30, y31, y32, y33, y34, y35, y36, y37, y38, y39, y40, y41, y42, .bool wv, y44, y45, y46, y47, y48, y49, .bool s51, y51, y52, y53, y54, y55, y56, y57, y58, .bool s52, y60, y61, y62, y63, y64, y65, y66, y67, .bool s53, y69, y70, y71, y72, y73, y74, y75, y76, .bool false, y78, y79, y80, y81, y82, y83, y84, y85, .bool s71, y87, y88, y89, y90, y91, y92, y93, y94, y95, .bool s72, y97, y98, y99, y100, y101, y102, y103, y104, y105, .bool s73, y107, y108, y109, y110, y111, y112, y113, y114, y115, .bool s74, y117, y118, y119, y120, y121, y122, y123, y124, y125, y126, .bool false, y128, y129, y130, y131, y132, y133, y134, .bool s91, y136, y137, y138, y139, y140, y141, y142, y143, y144, .bool s92, y146, y147, y148, y149, y150, y151, y152, y153, y154, y155, y156, y157, y158, y159, y160, y161, y162, .bool false, y164, y165, y166, y167, y168, y169, y170, .bool a1, y172, y173, y174, y175, y176, y177, y178, y179, y180, .bool s112, y182, y183, y184, y185, y186, y187, y188, y189, y190, .bool s113, y192, y193, y194, y195, y196, y197, y198, y199, y200, .bool s114, undef, undef, undef, undef, undef, undef, undef, undef, undef, undef, undef, undef, undef, undef, undef, undef, undef, undef, undef, undef, undef, undef, undef, undef, undef, undef, undef, undef, undef, undef, undef, undef, undef, undef, undef, undef, undef, undef, undef, undef, undef, undef, undef, undef, undef, undef, undef, undef, undef, undef, undef, undef, undef, undef, undef, undef, undef, undef, undef, undef, undef, undef, undef, undef, undef, undef, undef, undef, undef, undef, undef, undef, undef, undef, undef, undef], defers := [] } ∧ w' = w1) := ⟨_, rfl⟩
  refine wpList_cutN 10 R ?_ ?_
  · simp only [List.take]
    rcases waysA Td1.out s113 with rfl | ⟨rfl, rfl, hp⟩ | ⟨rfl, rfl, hp, hp2⟩ | ⟨rfl, rfl, hp, hp2⟩
    all_goals (have h := Hs114.out; subst h)
    all_goals (try (have hq : ((k : Int) == 5) = true := by simp; omega))
    all_goals (try (have hq : ((k : Int) == 5) = false := by simp; omega))
    all_goals (try (have hq2 : (last == 0) = false := by simpa using hp2))
    all_goals (try (have hq2 : (last == 0) = true := by simpa using hp2))
    all_goals (try clear hp)
    all_goals
      go_wp2
    all_goals (rw [HRl.out]; exact ⟨_, _, _, _, _, _, _, _, _, rfl, rfl⟩)
  intro a' w' hR
  rw [HRl.out] at hR
  obtain ⟨y192, y193, y194, y195, y196, y197, y198, y199, y200, rfl, hw⟩ := hR
  subst w'
  clear HRl
  simp only [List.drop]
  refine wpList_end ?_
  cases s114
  rotate_left
  · go_wp2
    go_ret
    exact ⟨ret_bool ((no11 HKK.out Ta1.out Tb1.out Tc1.out Td1.out N11.out).symm.trans HR.out), HBB.out⟩
  go_upto_region 13 with (fail)
  refine wp_region_list ?_
  obtain ⟨R, HRl⟩ : ∃ R : Act → World → Prop, Hid (R = fun a' w' => ∃ y202 y203 y204 y205 y206 y207 y208 y209 y210 y211 y212 y213 y214 y215 y216 y217 y218 y219 y220 y221 : Value, a' = { tmps := #[y0, .pointer (some ⟨w.heap.size, 0, none⟩), .bool false, .string ⟨(letS k).toArray⟩, .bool wv, undef, y6, y7, y8, y9, y10, y11, y12, y13, y14, y15, y16, y17, y18, y19, y20, y21, y22, y23, y24, y25, y26, y27, y28, y29, y30, y31, y32, y33, y34, y35, y36, y37, y38, y39, y40, y41, y42, .bool wv, y44, y45, y46, y47, y48, y49, .bool s51, y51, y52, y53, y54, y55, y56, y57, y58, .bool s52, y60, y61, y62, y63, y64, y65, y66, y67, .bool s53, y69, y70, y71, y72, y73, y74, y75, y76, .bool false, y78, y79, y80, y81, y82, y83, y84, y85, .bool s71, y87, y88, y89, y90, y91, y92, y93, y94, y95, .bool s72, y97, y98, y99, y100, y101, y102, y103, y104, y105, .bool s73, y107, y108, y109, y110, y111, y112, y113, y114, y115, .bool s74, y117, y118, y119, y120, y121, y122, y123, y124, y125, y126, .bool false, y128, y129, y130, y131, y132, y133, y134, .bool s91, y136, y137, y138, y139, y140, y141, y142, y143, y144, .bool s92, y146, y147, y148, y149, y150, y151, y152, y153, y154, y155, y156, y157, y158, y159, y160, y161, y162, .bool false, y164, y165, y166, y167, y168, y169, y170, .bool a1, y172, y173, y174, y175, y176, y177, y178, y179, y180, .bool s112, y182, y183, y184, y185, y186, y187, y188, y189, y190, .bool s113, y192, y193, y194, y195, y196, y197, y198, y199, y200, .bool false, y202, y203, y204, y205, y206, y207, y208, y209, y210, y211, y212, y213, y214, y215, y216, y217, y218, y219, y220, y221, .bool s13, undef, undef, undef, undef, undef, undef, undef, undef, undef, undef, undef, undef, undef, undef, undef, undef, undef, undef, undef, undef, undef, undef, undef, undef, undef, undef, undef, undef, undef, undef, undef, undef, undef, undef, undef, undef, undef, undef, undef, undef, undef, undef, undef, undef, undef, undef, undef, undef, undef, undef, undef, undef, undef, undef, undef], defers := [] } ∧ w' = w1) := ⟨_, rfl⟩
  refine wpList_cutN 21 R ?_ ?_
  · simp only [List.take]
    rcases ways13 Ta3.out wv with rfl | ⟨rfl, rfl, hp⟩ | ⟨rfl, rfl, hp, hp2⟩ | ⟨rfl, rfl, hp, hp2, hp3⟩ | ⟨rfl, rfl, hp, hp2, hp3, hp4⟩ | ⟨rfl, rfl, hp, hp2, hp3, hp4⟩
    all_goals (have h := Hs13.out; subst h)
    all_goals
      go_wp2
    all_goals (rw [HRl.out]; exact ⟨_, _, _, _, _, _, _, _, _, _, _, _, _, _, _, _, _, _, _, _, rfl, rfl⟩)
  intro a' w' hR
  rw [HRl.out] at hR
  obtain ⟨y202, y203, y204, y205, y206, y207, y208, y209, y210, y211, y212, y213, y214, y215, y216, y217, y218, y219, y220, y221, rfl, hw⟩ := hR
  subst w'
  clear HRl
  simp only [List.drop]
  refine wpList_end ?_
  cases s13
  rotate_left
  · go_wp2
    go_ret
    exact ⟨ret_bool ((no13 HKK.out Ta3.out N13.out).symm.trans HR.out), HBB.out⟩
  go_wp2
  go_loopg [5] m (fun gh i w' => ∃ j : Nat, gh + j = m ∧ i = .int .i64 (j : Int) ∧ w' = w1 ∧ Hid (∀ (q : Nat) (s : Int × Nat), list[q]? = some s → q < j → 0 ≤ s.1 ∧ s.1 ≤ 65535))
  case atStart => exact ⟨0, by omega, rfl, rfl, fun q s _ h => absurd h (by omega)⟩
  case round =>
    obtain ⟨j, hj, rfl, hw, Hids⟩ := hrel
    subst wr
    cases gk with
    | succ g1 =>
      have k1 : j < m := by omega
      obtain ⟨s, hs⟩ : ∃ s, list[j]? = some s := ⟨_, List.getElem?_eq_getElem (by rw [HLL.out]; exact k1)⟩
      obtain ⟨b, o, rfl, d0, d1⟩ := rd_set Hrd1.out hs
      have Hs := Lib.hid hs
      clear hs d1
      have key : s.1 < 0 ∨ (¬ s.1 < 0 ∧ 65535 < s.1) ∨ (¬ s.1 < 0 ∧ ¬ 65535 < s.1) := by omega
      rcases key with h1 | ⟨h1, h2⟩ | ⟨h1, h2⟩
      · go_wp2
        go_ret
        exact ⟨ret_bool ((no17 (f := (Fm.mk (k : Int) stream fin eh ack prio pay flags pad depend excl weight code list last inc)) Hs.out (.inl h1)).symm.trans HR.out), HBB.out⟩
      · go_wp2
        go_ret
        exact ⟨ret_bool ((no17 (f := (Fm.mk (k : Int) stream fin eh ack prio pay flags pad depend excl weight code list last inc)) Hs.out (.inr h2)).symm.trans HR.out), HBB.out⟩
      · go_wp2
        go_roundg g1
        case measure => omega
        case rel =>
          refine ⟨j + 1, by omega, by go_num, rfl, fun q t hq hlt => ?_⟩
          rcases Nat.lt_or_ge q j with h | h
          · exact Hids.out q t hq h
          · obtain rfl : q = j := by omega
            rw [Hs.out] at hq
            obtain rfl := Option.some.inj hq
            exact ⟨by omega, by omega⟩
    | zero =>
      have k1 : ¬ j < m := by omega
      obtain rfl : j = m := by omega
      have HIDS : Hid (∀ (q : Nat) (s : Int × Nat), list[q]? = some s → 0 ≤ s.1 ∧ s.1 ≤ 65535) := fun q s hq => Hids.out q s hq (by have := (List.getElem?_eq_some_iff.1 hq).1; rw [HLL.out] at this; exact this)
      clear Hids
      go_upto_region 20 with (fail)
      refine wp_region_list ?_
      obtain ⟨R, HRl⟩ : ∃ R : Act → World → Prop, Hid (R = fun a' w' => ∃ y2 y5 y223 y224 y225 y226 y227 y228 y229 y230 y231 y232 y233 y234 y235 y236 y237 y238 y239 y240 y241 y242 y243 y244 y245 y246 y247 y248 y249 y250 y251 y252 : Value, a' = { tmps := #[y0, .pointer (some ⟨w.heap.size, 0, none⟩), y2, .string ⟨(letS k).toArray⟩, .bool wv, y5, y6, y7, y8, y9, y10, y11, y12, y13, y14, y15, y16, y17, y18, y19, y20, y21, y22, y23, y24, y25, y26, y27, y28, y29, y30, y31, y32, y33, y34, y35, y36, y37, y38, y39, y40, y41, y42, .bool wv, y44, y45, y46, y47, y48, y49, .bool s51, y51, y52, y53, y54, y55, y56, y57, y58, .bool s52, y60, y61, y62, y63, y64, y65, y66, y67, .bool s53, y69, y70, y71, y72, y73, y74, y75, y76, .bool false, y78, y79, y80, y81, y82, y83, y84, y85, .bool s71, y87, y88, y89, y90, y91, y92, y93, y94, y95, .bool s72, y97, y98, y99, y100, y101, y102, y103, y104, y105, .bool s73, y107, y108, y109, y110, y111, y112, y113, y114, y115, .bool s74, y117, y118, y119, y120, y121, y122, y123, y124, y125, y126, .bool false, y128, y129, y130, y131, y132, y133, y134, .bool s91, y136, y137, y138, y139, y140, y141, y142, y143, y144, .bool s92, y146, y147, y148, y149, y150, y151, y152, y153, y154, y155, y156, y157, y158, y159, y160, y161, y162, .bool false, y164, y165, y166, y167, y168, y169, y170, .bool a1, y172, y173, y174, y175, y176, y177, y178, y179, y180, .bool s112, y182, y183, y184, y185, y186, y187, y188, y189, y190, .bool s113, y192, y193, y194, y195, y196, y197, y198, y199, y200, .bool false, y202, y203, y204, y205, y206, y207, y208, y209, y210, y211, y212, y213, y214, y215, y216, y217, y218, y219, y220, y221, .bool false, y223, y224, y225, y226, y227, y228, y229, y230, y231, y232, y233, y234, y235, y236, y237, y238, y239, y240, y241, y242, y243, y244, y245, y246, y247, y248, y249, y250, y251, y252, .bool s201, undef, undef, undef, undef, undef, undef, undef, undef, undef, undef, undef, undef, undef, undef, undef, undef, undef, undef, undef, undef, undef, undef, undef, undef], defers := [] } ∧ w' = w1) := ⟨_, rfl⟩
      refine wpList_cutN 8 R ?_ ?_
      · simp only [List.take]
        rcases Te7.out with ⟨rfl, hp⟩ | ⟨rfl, hp⟩ <;> cases ack
        all_goals (have h := Hs201.out; subst h)
        all_goals (try (have hq : j = 0 := by omega))
        all_goals (try (have hq : (0 : Int) < (j : Int) := by omega))
        all_goals
          go_wp2
        all_goals (rw [HRl.out]; exact ⟨_, _, _, _, _, _, _, _, _, _, _, _, _, _, _, _, _, _, _, _, _, _, _, _, _, _, _, _, _, _, _, _, rfl, rfl⟩)
      intro a' w' hR
      rw [HRl.out] at hR
      obtain ⟨y2, y5, y223, y224, y225, y226, y227, y228, y229, y230, y231, y232, y233, y234, y235, y236, y237, y238, y239, y240, y241, y242, y243, y244, y245, y246, y247, y248, y249, y250, y251, y252, rfl, hw⟩ := hR
      subst w'
      clear HRl
      simp only [List.drop]
      obtain ⟨R, HRl⟩ : ∃ R : Act → World → Prop, Hid (R = fun a' w' => ∃ y254 y255 y256 y257 y258 y259 y260 y261 y262 y263 : Value, a' = { tmps := #[y0, .pointer (some ⟨w.heap.size, 0, none⟩), y2, .string ⟨(letS k).toArray⟩, .bool wv, y5, y6, y7, y8, y9, y10, y11, y12, y13, y14, y15, y16, y17, y18, y19, y20, y21, y22, y23, y24, y25, y26, y27, y28, y29, y30, y31, y32, y33, y34, y35, y36, y37, y38, y39, y40, y41, y42, .bool wv, y44, y45, y46, y47, y48, y49, .bool s51, y51, y52, y53, y54, y55, y56, y57, y58, .bool s52, y60, y61, y62, y63, y64, y65, y66, y67, .bool s53, y69, y70, y71, y72, y73, y74, y75, y76, .bool false, y78, y79, y80, y81, y82, y83, y84, y85, .bool s71, y87, y88, y89, y90, y91, y92, y93, y94, y95, .bool s72, y97, y98, y99, y100, y101, y102, y103, y104, y105, .bool s73, y107, y108, y109, y110, y111, y112, y113, y114, y115, .bool s74, y117, y118, y119, y120, y121, y122, y123, y124, y125, y126, .bool false, y128, y129, y130, y131, y132, y133, y134, .bool s91, y136, y137, y138, y139, y140, y141, y142, y143, y144, .bool s92, y146, y147, y148, y149, y150, y151, y152, y153, y154, y155, y156, y157, y158, y159, y160, y161, y162, .bool false, y164, y165, y166, y167, y168, y169, y170, .bool a1, y172, y173, y174, y175, y176, y177, y178, y179, y180, .bool s112, y182, y183, y184, y185, y186, y187, y188, y189, y190, .bool s113, y192, y193, y194, y195, y196, y197, y198, y199, y200, .bool false, y202, y203, y204, y205, y206, y207, y208, y209, y210, y211, y212, y213, y214, y215, y216, y217, y218, y219, y220, y221, .bool false, y223, y224, y225, y226, y227, y228, y229, y230, y231, y232, y233, y234, y235, y236, y237, y238, y239, y240, y241, y242, y243, y244, y245, y246, y247, y248, y249, y250, y251, y252, .bool s201, y254, y255, y256, y257, y258, y259, y260, y261, y262, y263, .bool s202, undef, undef, undef, undef, undef, undef, undef, undef, undef, undef, undef, undef, undef], defers := [] } ∧ w' = w1) := ⟨_, rfl⟩
      refine wpList_cutN 11 R ?_ ?_
      · simp only [List.take]
        rcases waysA Tb2.out s201 with rfl | ⟨rfl, rfl, hp⟩ | ⟨rfl, rfl, hp, hp2⟩ | ⟨rfl, rfl, hp, hp2⟩
        all_goals (have h := Hs202.out; subst h)
        all_goals (try (have hq : ((k : Int) == 6) = true := by simp; omega))
        all_goals (try (have hq : ((k : Int) == 6) = false := by simp; omega))
        all_goals (try (have hq2 : ((n : Int) != 8) = false := by simp; omega))
        all_goals (try (have hq2 : ((n : Int) != 8) = true := by simp; omega))
        all_goals (try clear hp)
        all_goals
          go_wp2
        all_goals (rw [HRl.out]; exact ⟨_, _, _, _, _, _, _, _, _, _, rfl, rfl⟩)
      intro a' w' hR
      rw [HRl.out] at hR
      obtain ⟨y254, y255, y256, y257, y258, y259, y260, y261, y262, y263, rfl, hw⟩ := hR
      subst w'
      clear HRl
      simp only [List.drop]
      refine wpList_end ?_
      cases s202
      rotate_left
      · go_wp2
        go_ret
        exact ⟨ret_bool ((no20 HKK.out PE.out PB2.out N20.out).symm.trans HR.out), HBB.out⟩
      have YES : (k ≠ 8 ∨ (1 ≤ inc ∧ inc ≤ 2147483647)) → mayB (Fm.mk (k : Int) stream fin eh ack prio pay flags pad depend excl weight code list last inc) = true := fun h => yes HKK.out (Int.natCast_nonneg k) (by simp only; omega) HS0.out HS1.out HST.out N5.out PA.out Tb7.out Tc7.out Td7.out PE.out N7.out Ta9.out Tb9.out Tc9.out Td9.out N9.out Ta1.out Tb1.out Tc1.out Td1.out N11.out Ta3.out N13.out HIDS.out PB2.out N20.out h
      have HYES := Lib.hid YES
      clear YES
      by_cases h8 : k = 8
      · have hq : ((k : Int) != 8) = false := by simp; omega
        by_cases i1 : 1 ≤ inc
        · by_cases i2 : inc ≤ 2147483647
          · go_wp2
            go_ret
            exact ⟨ret_bool ((HYES.out (.inr ⟨i1, i2⟩)).symm.trans HR.out), HBB.out⟩
          · go_wp2
            go_ret
            exact ⟨ret_bool ((no22 HKK.out h8 (.inr (by simp only; omega))).symm.trans HR.out), HBB.out⟩
        · go_wp2
          go_ret
          exact ⟨ret_bool ((no22 HKK.out h8 (.inl (by simp only; omega))).symm.trans HR.out), HBB.out⟩
      · have hq : ((k : Int) != 8) = true := by simp; omega
        go_wp2
        go_ret
        exact ⟨ret_bool ((HYES.out (.inl h8)).symm.trans HR.out), HBB.out⟩
end Go.Proofs.YtokbdkbljgdcpaaDoor

/- The document's May: its contract. -/
namespace Go.Proofs.YtokbdkbljgdcpaaDoor
open Go.RowKit Go.Own Go.Frm
set_option linter.unusedVariables false
set_option maxRecDepth 100000
set_option maxHeartbeats 4000000 in
theorem may_a (f : Fm) (A B : Option Addr) (n c m d : Nat) {w : World} (h : f.kind < 0 ∨ (¬ f.kind < 0 ∧ 255 < f.kind) ∨ (¬ f.kind < 0 ∧ ¬ 255 < f.kind ∧ f.stream < 0) ∨ (¬ f.kind < 0 ∧ ¬ 255 < f.kind ∧ ¬ f.stream < 0 ∧ 2147483647 < f.stream)) :
    Calls Tryd.prog 35 #[frV f (.slice A n c) (.slice B m d)] w fun e w' => e = .returned (.bool false) ∧ Below w.heap.size w w' := by
  obtain ⟨kind, stream, fin, eh, ack, prio, pay, flags, pad, depend, excl, weight, code, list, last, inc⟩ := f
  simp only at h
  have HB := Lib.hid ((Below.refl w.heap.size w).alloc (Nat.le_refl _) (.cells (frC (Fm.mk kind stream fin eh ack prio pay flags pad depend excl weight code list last inc) (.slice A n c) (.slice B m d)).toArray 27))
  rcases h with h1 | ⟨h1, h2⟩ | ⟨h1, h2, h3⟩ | ⟨h1, h2, h3, h4⟩
  all_goals
    go_enter Tryd.func35, Tryd.ntmps35
    go_wp2
    go_ret
    exact ⟨rfl, HB.out⟩
set_option maxHeartbeats 4000000 in
theorem may_s (f : Fm) (k : Nat) (hk : f.kind = (k : Int)) (hk2 : k < 256) (hs0 : 0 ≤ f.stream) (hs1 : f.stream ≤ 2147483647) (hst : stray k f.stream = true) (A B : Option Addr) (n c m d : Nat) {w : World} :
    Calls Tryd.prog 35 #[frV f (.slice A n c) (.slice B m d)] w fun e w' => e = .returned (.bool false) ∧ Below w.heap.size w w' := by
  obtain ⟨kind, stream, fin, eh, ack, prio, pay, flags, pad, depend, excl, weight, code, list, last, inc⟩ := f
  simp only at *
  subst hk
  have HST := Lib.hid hst
  have HB := Lib.hid ((Below.refl w.heap.size w).alloc (Nat.le_refl _) (.cells (frC (Fm.mk (k : Int) stream fin eh ack prio pay flags pad depend excl weight code list last inc) (.slice A n c) (.slice B m d)).toArray 27))
  have h1 : ¬ (k : Int) < 0 := by omega
  have h2 : ¬ 255 < (k : Int) := by omega
  have h3 : ¬ stream < 0 := by omega
  have h4 : ¬ 2147483647 < stream := by omega
  clear hst hs0 hs1
  go_enter Tryd.func35, Tryd.ntmps35
  go_wp2_with (first
    | (go_at_call 45; (with_reducible refine (stray_n k stream true HST.out _).mono ?_); rintro e w0 ⟨rfl, rfl⟩))
  go_ret
  exact ⟨rfl, HB.out⟩
/-- May: its contract -/
theorem may_c (f : Fm) (A B : Option Addr) (n c m d : Nat) {w : World} (hn : f.pay.length = n) (hl : f.list.length = m) (hrd : Rd w 2 B m (scells f.list)) (hm : m ≤ 9223372036854775807) (hn2 : n ≤ 9223372036854775807) (r : Bool) (hr : mayB f = r) :
    Calls Tryd.prog 35 #[frV f (.slice A n c) (.slice B m d)] w fun e w' => e = .returned (.bool r) ∧ Below w.heap.size w w' := by
  by_cases h1 : f.kind < 0
  · have e : mayB f = false := may_no fun P => by have := P.k0; omega
    rw [← hr, e]
    exact may_a f A B n c m d (.inl h1)
  by_cases h2 : 255 < f.kind
  · have e : mayB f = false := may_no fun P => by have := P.k1; omega
    rw [← hr, e]
    exact may_a f A B n c m d (.inr (.inl ⟨h1, h2⟩))
  by_cases h3 : f.stream < 0
  · have e : mayB f = false := may_no fun P => by have := P.s0; omega
    rw [← hr, e]
    exact may_a f A B n c m d (.inr (.inr (.inl ⟨h1, h2, h3⟩)))
  by_cases h4 : 2147483647 < f.stream
  · have e : mayB f = false := may_no fun P => by have := P.s1; omega
    rw [← hr, e]
    exact may_a f A B n c m d (.inr (.inr (.inr ⟨h1, h2, h3, h4⟩)))
  obtain ⟨k, hk⟩ : ∃ k : Nat, f.kind = (k : Int) := ⟨f.kind.toNat, by omega⟩
  cases hs : stray k f.stream with
  | true =>
    have e : mayB f = false := may_no fun P => by
      have h := P.st
      have e : f.k = k := by unfold Fm.k; rw [hk]; rfl
      rw [e, hs] at h
      cases h
    rw [← hr, e]
    exact may_s f k hk (by omega) (by omega) (by omega) hs A B n c m d
  | false => exact may_b f k hk (by omega) (by omega) (by omega) hs A B n c m d hn hl hrd hm hn2 r hr
end Go.Proofs.YtokbdkbljgdcpaaDoor
