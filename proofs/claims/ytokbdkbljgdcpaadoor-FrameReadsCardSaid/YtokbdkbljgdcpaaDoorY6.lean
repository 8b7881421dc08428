/- Several texts in one: FZ. -/
import Derived.Test.YtokbdkbljgdcpaaDoorY2
import Derived.Test.YtokbdkbljgdcpaaDoorY1
import Derived.Test.YtokbdkbljgdcpaaDoorY5
import Derived.Deep.Cut
/- The contract of isInBounds: a way. -/
namespace Go.Proofs.YtokbdkbljgdcpaaDoor
open Go.RowKit Go.Own Go.Frm
set_option linter.unusedVariables false
set_option maxRecDepth 100000
set_option maxHeartbeats 8000000 in
theorem inBounds_any (f : Fm) (k : Nat) (hk : f.kind = (k : Int)) (A B : Option Addr) (n c m d : Nat) {w : World} (hG : Gl w) (b1 b2 b3 h3 b4 b5 b7 h7 b8 l0 k5 k6 m0 n8 : Bool)
   (e1 : (decide (0 ≤ f.pad) && decide (f.pad ≤ 256)) = b1) (e2 : (decide (0 ≤ f.depend) && decide (f.depend ≤ 2147483647)) = b2) (e3 : (decide (1 ≤ f.weight) && decide (f.weight ≤ 256)) = b3)
   (e4 : (decide (0 ≤ f.flags) && decide (f.flags ≤ 255)) = b4) (e5 : (decide (0 ≤ f.last) && decide (f.last ≤ 2147483647)) = b5) (e7 : (decide (1 ≤ f.inc) && decide (f.inc ≤ 2147483647)) = b7) (e8 : idsOk f.list = b8)
   (q3 : (bits .and .i64 ((partN k f.prio : Nat) : Int) 32 != 0) = h3) (q7 : (bits .and .i64 ((partN k f.prio : Nat) : Int) 2048 != 0) = h7)
   (hl0 : (f.last != 0) = l0) (hk5 : (f.kind != 5) = k5) (hk6 : (f.kind != 6) = k6) (hm0 : decide (m = 0) = m0) (hn8 : decide (n = 8) = n8)
   (hrd : Rd w 2 B m (scells f.list)) (hm : m ≤ 9223372036854775807) :
    Calls Tryd.prog 56 #[frV f (.slice A n c) (.slice B m d)] w fun e w' => e = .returned (.bool (b1 && b2 && (b3 || !h3) && b4 && b5 && (l0 || k5) && (b7 || !h7) && b8 && (m0 || !f.ack) && (n8 || k6))) ∧ Below w.heap.size w w' := by
  obtain ⟨kind, stream, fin, eh, ack, prio, pay, flags, pad, depend, excl, weight, code, list, last, inc⟩ := f
  simp only at *
  have hm0' : ((m : Int) == 0) = m0 := by rw [← hm0]; by_cases h : m = 0 <;> simp [h]
  have hn8' : ((n : Int) == 8) = n8 := by rw [← hn8]; by_cases h : n = 8 <;> simp [h] <;> omega
  have HG := Lib.hid hG
  have Hr := Lib.hid hrd
  have E1 := Lib.hid e1
  have E2 := Lib.hid e2
  have E3 := Lib.hid e3
  have E4 := Lib.hid e4
  have E5 := Lib.hid e5
  have E7 := Lib.hid e7
  have E8 := Lib.hid e8
  have Q3 := Lib.hid q3
  have Q7 := Lib.hid q7
  have Hk := Lib.hid hk
  have Hm := Lib.hid hm
  clear hG hrd e1 e2 e3 e4 e5 e7 e8 q3 q7 hk hm
  go_enter Tryd.func56, Tryd.ntmps56
  go_upto_region 2 with (first
    | (go_at_call 55; (with_reducible refine (partsOf_any ⟨kind, stream, fin, eh, ack, prio, pay, flags, pad, depend, excl, weight, code, list, last, inc⟩ k Hk.out _ _ _ (HG.out.alloc _)).mono ?_); rintro e w1 ⟨rfl, hb⟩
       obtain ⟨hc, hf⟩ := bcell hb
       have HB := Lib.hid (below_box hb)
       have X1 := Lib.hid (blk_below (Blk.new w 27 (frC (Fm.mk kind stream fin eh ack prio pay flags pad depend excl weight code list last inc) (.slice A n c) (.slice B m d))) hb)
       have L1 := X1.out.lt
       clear hb))
  refine wp_region_list ?_
  simp only [List.append_eq, List.cons_append, List.nil_append]
  refine wpList_cutN 18 (fun a' w' => ∃ y4 y5 y6 y7 y8 y9 y10 y11 y12 y13 y14 y15 y16 y17 y18 y19 y20 y21 y22 : Value, ∃ vb : Bool, vb = (b1 && b2 && (b3 || !h3)) ∧ a' = { tmps := #[frV (Fm.mk kind stream fin eh ack prio pay flags pad depend excl weight code list last inc) (.slice A n c) (.slice B m d), .pointer (some ⟨w.heap.size, 0, none⟩), .bool false, .int .i64 ((partN k prio : Nat) : Int), y4, y5, y6, y7, y8, y9, y10, y11, y12, y13, y14, y15, y16, y17, y18, y19, y20, y21, y22, .bool vb, undef, undef, undef, undef, undef, undef, undef, undef, undef, undef, undef, undef, undef, undef, undef, undef, undef, undef, undef, undef, undef, undef, undef, undef, undef, undef, undef, undef, undef, undef, undef, undef, undef, undef, undef, undef, undef, undef, undef, undef, undef, undef, undef, undef, undef, undef, undef, undef, undef, undef, undef, undef, undef, undef, undef, undef, undef], defers := [] } ∧ w1 = w') ?_ ?_
  · simp only [List.take]
    go_wp2_with (first
    | (go_at_call 50; (with_reducible refine (isIn_is _ 0 256 b1 E1.out _).mono ?_); rintro e w2 ⟨rfl, rfl⟩)
    | (go_at_call 50; (with_reducible refine (isIn_is depend 0 _ b2 E2.out _).mono ?_); rintro e w2 ⟨rfl, rfl⟩)
    | (go_at_call 50; (with_reducible refine (isIn_is _ 1 256 b3 E3.out _).mono ?_); rintro e w2 ⟨rfl, rfl⟩)
    | (go_at_call 54; (with_reducible refine (has_any _ 32 _ h3 Q3.out).mono ?_); rintro e w2 ⟨rfl, rfl⟩))
    all_goals (refine ⟨_, _, _, _, _, _, _, _, _, _, _, _, _, _, _, _, _, _, _, _, ?_, rfl, (by first | rfl | trivial)⟩ <;> simp [*])
  rintro a' w' ⟨y4, y5, y6, y7, y8, y9, y10, y11, y12, y13, y14, y15, y16, y17, y18, y19, y20, y21, y22, v0, hv0, rfl, rfl⟩
  simp only [List.drop]
  have Hv0 := Lib.hid hv0
  clear hv0
  refine wpList_cutN 20 (fun a' w' => ∃ y4 y5 y6 y7 y8 y9 y10 y11 y12 y13 y14 y15 y16 y17 y18 y19 y20 y21 y22 y23 y24 y25 y26 y27 y28 y29 y30 y31 y32 y33 y34 y35 y36 y37 y38 y39 y40 y41 y42 : Value, ∃ vb : Bool, vb = (v0 && b4 && b5 && (l0 || k5)) ∧ a' = { tmps := #[frV (Fm.mk kind stream fin eh ack prio pay flags pad depend excl weight code list last inc) (.slice A n c) (.slice B m d), .pointer (some ⟨w.heap.size, 0, none⟩), .bool false, .int .i64 ((partN k prio : Nat) : Int), y4, y5, y6, y7, y8, y9, y10, y11, y12, y13, y14, y15, y16, y17, y18, y19, y20, y21, y22, y23, y24, y25, y26, y27, y28, y29, y30, y31, y32, y33, y34, y35, y36, y37, y38, y39, y40, y41, y42, .bool vb, undef, undef, undef, undef, undef, undef, undef, undef, undef, undef, undef, undef, undef, undef, undef, undef, undef, undef, undef, undef, undef, undef, undef, undef, undef, undef, undef, undef, undef, undef, undef, undef, undef, undef, undef, undef, undef], defers := [] } ∧ w1 = w') ?_ ?_
  · simp only [List.take]
    go_wp2_with (first
    | (go_at_call 50; (with_reducible refine (isIn_is _ 0 255 b4 E4.out _).mono ?_); rintro e w2 ⟨rfl, rfl⟩)
    | (go_at_call 50; (with_reducible refine (isIn_is last 0 _ b5 E5.out _).mono ?_); rintro e w2 ⟨rfl, rfl⟩))
    all_goals (refine ⟨_, _, _, _, _, _, _, _, _, _, _, _, _, _, _, _, _, _, _, _, _, _, _, _, _, _, _, _, _, _, _, _, _, _, _, _, _, _, _, _, ?_, rfl, (by first | rfl | trivial)⟩ <;> simp [*])
  rintro a' w' ⟨y4, y5, y6, y7, y8, y9, y10, y11, y12, y13, y14, y15, y16, y17, y18, y19, y20, y21, y22, y23, y24, y25, y26, y27, y28, y29, y30, y31, y32, y33, y34, y35, y36, y37, y38, y39, y40, y41, y42, v1, hv1, rfl, rfl⟩
  simp only [List.drop]
  have Hv1 := Lib.hid hv1
  clear hv1 hl0 hk5
  have hcB : Hid (Rd w1 2 B m (scells list)) := Hr.out.below HB.out
  refine wpList_cutN 15 (fun a' w' => ∃ y4 y5 y6 y7 y8 y9 y10 y11 y12 y13 y14 y15 y16 y17 y18 y19 y20 y21 y22 y23 y24 y25 y26 y27 y28 y29 y30 y31 y32 y33 y34 y35 y36 y37 y38 y39 y40 y41 y42 y43 y44 y45 y46 y47 y48 y49 y50 y51 y52 y53 y54 y55 y56 y57 : Value, ∃ vb : Bool, vb = (v1 && (b7 || !h7) && b8) ∧ a' = { tmps := #[frV (Fm.mk kind stream fin eh ack prio pay flags pad depend excl weight code list last inc) (.slice A n c) (.slice B m d), .pointer (some ⟨w.heap.size, 0, none⟩), .bool false, .int .i64 ((partN k prio : Nat) : Int), y4, y5, y6, y7, y8, y9, y10, y11, y12, y13, y14, y15, y16, y17, y18, y19, y20, y21, y22, y23, y24, y25, y26, y27, y28, y29, y30, y31, y32, y33, y34, y35, y36, y37, y38, y39, y40, y41, y42, y43, y44, y45, y46, y47, y48, y49, y50, y51, y52, y53, y54, y55, y56, y57, .bool vb, undef, undef, undef, undef, undef, undef, undef, undef, undef, undef, undef, undef, undef, undef, undef, undef, undef, undef, undef, undef, undef, undef], defers := [] } ∧ Below w1.heap.size w1 w') ?_ ?_
  · simp only [List.take]
    go_wp2_with (first
    | (go_at_call 50; (with_reducible refine (isIn_is inc 1 _ b7 E7.out _).mono ?_); rintro e w2 ⟨rfl, rfl⟩)
    | (go_at_call 54; (with_reducible refine (has_any _ 2048 _ h7 Q7.out).mono ?_); rintro e w2 ⟨rfl, rfl⟩)
    | (go_at_call 70; (with_reducible refine (areSet_any hcB.out Hm.out).mono ?_); rintro e w2 ⟨rfl, hb⟩; rw [E8.out]))
    all_goals (first | (refine ⟨_, _, _, _, _, _, _, _, _, _, _, _, _, _, _, _, _, _, _, _, _, _, _, _, _, _, _, _, _, _, _, _, _, _, _, _, _, _, _, _, _, _, _, _, _, _, _, _, _, _, _, _, _, _, _, ?_, rfl, hb⟩ <;> simp [*]) | (refine ⟨_, _, _, _, _, _, _, _, _, _, _, _, _, _, _, _, _, _, _, _, _, _, _, _, _, _, _, _, _, _, _, _, _, _, _, _, _, _, _, _, _, _, _, _, _, _, _, _, _, _, _, _, _, _, _, ?_, rfl, (Below.refl _ _)⟩ <;> simp [*]))
  rintro a' w3 ⟨y4, y5, y6, y7, y8, y9, y10, y11, y12, y13, y14, y15, y16, y17, y18, y19, y20, y21, y22, y23, y24, y25, y26, y27, y28, y29, y30, y31, y32, y33, y34, y35, y36, y37, y38, y39, y40, y41, y42, y43, y44, y45, y46, y47, y48, y49, y50, y51, y52, y53, y54, y55, y56, y57, v2, hv2, rfl, hb3⟩
  simp only [List.drop]
  have Hv2 := Lib.hid hv2
  have X3 := Lib.hid (blk_below X1.out hb3)
  have HB3 := Lib.hid (HB.out.trans (hb3.mono (by have := HB.out.size; omega)))
  have L3 := X3.out.lt
  have z0 := X3.out.cell 0
  have z4 := X3.out.cell 4
  have z6 := X3.out.cell 6
  have z13 := X3.out.cell 13
  simp only [List.getElem?_cons_zero, List.getElem?_cons_succ] at z0 z4 z6 z13
  clear hv2 hb3 hc hf
  go_wp2
  all_goals go_ret
  all_goals refine ⟨ret_bool ?_, HB3.out⟩
  all_goals (have q2 := Hv2.out; have q1 := Hv1.out; have q0 := Hv0.out; simp_all)
end Go.Proofs.YtokbdkbljgdcpaaDoor
