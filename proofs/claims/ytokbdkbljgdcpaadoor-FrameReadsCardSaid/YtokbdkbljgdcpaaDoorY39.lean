/- Several texts in one: Fu2. -/
import Derived.Test.YtokbdkbljgdcpaaDoorY33
/- frame: the walk where the head tells no fault, and the payload none. -/
namespace Go.Proofs.YtokbdkbljgdcpaaDoor
open Go.RowKit Go.Own Go.Frm
set_option linter.unusedVariables false
set_option maxRecDepth 100000
section
variable {w : World} {A : Option Addr} {n c k fl s : Nat} {xs : List UInt8}
set_option maxHeartbeats 8000000 in
theorem frame_plain_ok (hG : Gl w) (hr : Rd w 1 A n (xs.map BV)) (hnc : n ≤ c) (hc : c ≤ 9223372036854775807) (hA : ∀ a, A = some a → a.block < w.heap.size) (hn : n < 16777216) (hx : chkP n k fl s = noF) (hp : padded k fl = false) (hN : NeedP k fl xs)
    (F : Fm) (hF : readB k fl s 0 xs = F) (cc : Nat) (z : Int) (hu : unfitP F = ⟨false, cc, z⟩) : Calls Tryd.prog 41 #[hdV n k fl s, .slice A n c] w (FraP w (F, ⟨false, cc, z⟩)) := by
  have HG := Lib.hid hG
  have HX := Lib.hid hx
  have Hp := Lib.hid hp
  have HN := Lib.hid hN
  have HF := Lib.hid hF
  have HU := Lib.hid hu
  have Hr := Lib.hid hr
  have HA := Lib.hid hA
  have X0 := Lib.hid (fx_new w n k fl s)
  have B0 : Hid (Below w.heap.size w _) := (((Below.refl _ w).alloc (Nat.le_refl _) (.cells #[.int .i64 (n : Int), .int .i64 (k : Int), .int .i64 (fl : Int), .int .i64 (s : Int), .int .i64 ((hpN k fl : Nat) : Int)] 85)).alloc (by simp) (.cells #[.int .i64 0, .int .i64 0, .bool false, .bool false, .bool false, .bool false, .slice none 0 0, .int .i64 0, .int .i64 0, .int .i64 0, .bool false, .int .i64 0, .int .u32 0, .slice none 0 0, .int .i64 0, .int .i64 0] 27)).alloc (by simp; omega) (.cells #[.bool false, .int .u32 0, .int .i64 0] 46)
  clear hG hx hp hN hF hu hr hA
  go_enter Tryd.func41, Tryd.ntmps41
  go_wp2_with (first
    | (go_at_call 61; (with_reducible refine (check_ok (((HG.out.alloc _).alloc _).alloc _) hn HX.out).mono ?_); rintro e w1 ⟨rfl, hb⟩
       have X1 := Lib.hid (X0.out.below hb)
       have HB1 := Lib.hid (B0.out.trans (hb.mono B0.out.size))
       have q0 := X1.out.b0.cell 0
       have q1 := X1.out.b0.cell 1
       have q2 := X1.out.b0.cell 2
       have q3 := X1.out.b0.cell 3
       have q4 := X1.out.b0.cell 4
       simp only [List.getElem?_cons_zero, List.getElem?_cons_succ] at q0 q1 q2 q3 q4
       have L1 := X1.out.b2.lt
       have M1 : w.heap.size < w1.heap.size := by omega
       have N1 : w.heap.size + 1 < w1.heap.size := by omega
       have P1 : w.heap.size + 1 + 1 < w1.heap.size := by omega
       clear hb)
    | (go_at_call 62; (with_reducible refine (flagged_any n k fl s).mono ?_); rintro e w2 ⟨rfl, hb⟩
       have e2 := blk_below (Blk.new w1 46 [.bool false, .int .u32 0, .int .i64 0]) hb
       have X2 := Lib.hid ((X1.out.below ((Below.refl _ _).alloc (Nat.le_refl _) (.cells #[.bool false, .int .u32 0, .int .i64 0] 46))).below hb)
       have HB2 := Lib.hid ((HB1.out.alloc HB1.out.size (.cells #[.bool false, .int .u32 0, .int .i64 0] 46)).trans (hb.mono (HB1.out.alloc HB1.out.size _).size))
       have y4 : w2.cell? ⟨w.heap.size, 4, none⟩ = some (.int .i64 ((hpN k fl : Nat) : Int)) := X2.out.b0.cell 4
       have u0 := e2.cell 0
       simp only [List.getElem?_cons_zero] at u0
       have E2 := Lib.hid e2
       have L2 := e2.lt
       have M2 : w.heap.size < w2.heap.size := by omega
       have N2 : w.heap.size + 1 < w2.heap.size := by omega
       have P2 : w.heap.size + 1 + 1 < w2.heap.size := by omega
       have hR : RG (w2.alloc (.cells #[.int .i64 (flagP k fl s 0).kind, .int .i64 (flagP k fl s 0).stream, .bool (flagP k fl s 0).fin, .bool (flagP k fl s 0).eh, .bool (flagP k fl s 0).ack, .bool (flagP k fl s 0).prio, .slice none 0 0, .int .i64 (flagP k fl s 0).flags, .int .i64 (flagP k fl s 0).pad, .int .i64 (flagP k fl s 0).depend, .bool (flagP k fl s 0).excl, .int .i64 (flagP k fl s 0).weight, .int .u32 ((flagP k fl s 0).code : Int), .slice none 0 0, .int .i64 (flagP k fl s 0).last, .int .i64 (flagP k fl s 0).inc, .slice A n c] 114)) w2.heap.size (frC (flagP k fl s 0) (.slice none 0 0) (.slice none 0 0)) xs :=
         ⟨A, n, c, rfl, Blk.new w2 _ _, (Hr.out.fr (S := fun _ => False) (Fr.of_below HB2.out (fun i h1 h2 => by omega)) (fun _ _ h => h)).below ((Below.refl _ _).alloc (Nat.le_refl _) _), hnc, hc, fun a ha => Nat.lt_trans (HA.out a ha) M2⟩
       have R3 := Lib.hid hR
       clear hb e2 hR)
    | (go_at_call 54; (with_reducible refine (has_pad k fl _ false Hp.out).mono ?_); rintro e w3 ⟨rfl, rfl⟩)
    | (go_at_call 65; (with_reducible refine (payload_any k fl s 0 R3.out HN.out).mono ?_); rintro e w4 ⟨rfl, _, _, ys, h4, f4, ⟨A4, cP, D4, cL, rfl, rfl, o41, o42⟩⟩
       rw [HF.out] at h4 o41 o42
       have o4 : FrOwn w4 _ F (.slice A4 F.pay.length cP) (.slice D4 F.list.length cL) := ⟨A4, cP, D4, cL, rfl, rfl, o41, o42⟩
       have f4' : Fr (fun i => i = w2.heap.size) w2 w4 := ((Fr.refl _ w2).alloc _).trans f4 (fun _ _ h => h)
       have X4 := Lib.hid (X2.out.fr f4' (fun i hi e => by omega))
       have E4 := Lib.hid (E2.out.fr f4' (fun e => by omega))
       have HB4 := Lib.hid (HB2.out.trans (f4'.below (B := w.heap.size) (by omega) (fun i _ e => by omega)))
       have O4 := Lib.hid (o4.lower (B := w2.heap.size + 1) (by simp))
       have L4 := h4.lt
       have s4 := f4'.size
       have e0 := E4.out.cell 0
       have e1 := E4.out.cell 1
       have e2 := E4.out.cell 2
       have ef := E4.out.frozen
       simp only [List.getElem?_cons_zero, List.getElem?_cons_succ] at e0 e1 e2
       obtain ⟨p0, p1, p2, p3, p4, p5, p6, p7, p8, p9, p10, p11, p12, p13, p14, p15⟩ := rgCells h4
       have R4 := Lib.hid h4
       clear h4 f4 o4 f4' o41 o42)
    | (go_at_call 66; (with_reducible refine (unfit_any F _ _ false cc z HU.out).mono ?_); rintro e w5 ⟨rfl, hb⟩
       have X5 := Lib.hid (X4.out.below hb)
       have E5 := Lib.hid (blk_below E4.out hb)
       have HB5 := Lib.hid (HB4.out.trans (hb.mono HB4.out.size))
       have R5 := Lib.hid (R4.out.below hb)
       have O5 := Lib.hid (O4.out.fr (S := fun _ => False) (Fr.of_below hb (fun i h1 h2 => by omega)) (fun _ _ h => h))
       have s5 := hb.size
       clear e0 e1 e2 ef p0 p1 p2 p3 p4 p5 p6 p7 p8 p9 p10 p11 p12 p13 p14 p15 hb y4 u0
       have e0 := E5.out.cell 0
       have e1 := E5.out.cell 1
       have e2 := E5.out.cell 2
       have ef := E5.out.frozen
       simp only [List.getElem?_cons_zero, List.getElem?_cons_succ] at e0 e1 e2
       obtain ⟨p0, p1, p2, p3, p4, p5, p6, p7, p8, p9, p10, p11, p12, p13, p14, p15⟩ := rgCells R5.out
       obtain ⟨r0, r1, r2, r3, r4, r5, r6, r7, r8, r9, r10, r11, r12, r13, r14, r15⟩ := cells16 X5.out.b1
       have t0 : w5.cell? ⟨w.heap.size + 1 + 1, 0, none⟩ = some (.bool false) := X5.out.b2.cell 0
       have t1 : w5.cell? ⟨w.heap.size + 1 + 1, 1, none⟩ = some (.int .u32 0) := X5.out.b2.cell 1
       have t2 : w5.cell? ⟨w.heap.size + 1 + 1, 2, none⟩ = some (.int .i64 0) := X5.out.b2.cell 2
       have f1 := X5.out.b1.frozen
       have f2 : ∀ i, w5.frozen? ⟨w.heap.size + 1 + 1, i, none⟩ = false := X5.out.b2.frozen
       have d1 : ¬ w1.heap.size = w.heap.size + 1 := by omega
       have d2 : ¬ w1.heap.size = w.heap.size + 1 + 1 := by omega
       have d3 : ¬ w2.heap.size = w1.heap.size := by omega
       have d4 : ¬ w1.heap.size = w2.heap.size := by omega
       have d5 : ¬ w2.heap.size = w.heap.size + 1 := by omega
       have d6 : ¬ w2.heap.size = w.heap.size + 1 + 1 := by omega
       have d7 : ¬ w.heap.size + 1 = w2.heap.size := by omega
       have d8 : ¬ w.heap.size + 1 + 1 = w2.heap.size := by omega))
  obtain ⟨T1, T2⟩ := store3 E5.out (.bool false) (.int .u32 (cc : Int)) (.int .i64 z)
  have X6 := Lib.hid (X5.out.fr T2 (fun i hi e => by omega))
  have R6 := Lib.hid (rgCells R5.out)
  have C6 : ∀ i v, w5.cell? ⟨w2.heap.size, i, none⟩ = some v → (((w5.setCell ⟨w1.heap.size, 0, none⟩ (.bool false)).setCell ⟨w1.heap.size, 1, none⟩ (.int .u32 (cc : Int))).setCell ⟨w1.heap.size, 2, none⟩ (.int .i64 z)).cell? ⟨w2.heap.size, i, none⟩ = some v := fun i v hv => T2.cell hv (fun e => d3 e)
  have q0 := C6 _ _ p0
  have q1 := C6 _ _ p1
  have q2 := C6 _ _ p2
  have q3 := C6 _ _ p3
  have q4 := C6 _ _ p4
  have q5 := C6 _ _ p5
  have q6 := C6 _ _ p6
  have q7 := C6 _ _ p7
  have q8 := C6 _ _ p8
  have q9 := C6 _ _ p9
  have q10 := C6 _ _ p10
  have q11 := C6 _ _ p11
  have q12 := C6 _ _ p12
  have q13 := C6 _ _ p13
  have q14 := C6 _ _ p14
  have q15 := C6 _ _ p15
  have HB6 := Lib.hid (HB5.out.trans (T2.below (B := w.heap.size) HB5.out.size (fun i _ e => by omega)))
  have O6 := Lib.hid (O5.out.fr T2 (fun i hi e => by omega))
  have T1' := Lib.hid T1
  have s6 := T2.size
  clear C6 p0 p1 p2 p3 p4 p5 p6 p7 p8 p9 p10 p11 p12 p13 p14 p15 r0 r1 r2 r3 r4 r5 r6 r7 r8 r9 r10 r11 r12 r13 r14 r15 t0 t1 t2 f1 f2 e0 e1 e2 ef T1 T2
  generalize (((w5.setCell ⟨w1.heap.size, 0, none⟩ (.bool false)).setCell ⟨w1.heap.size, 1, none⟩ (.int .u32 (cc : Int))).setCell ⟨w1.heap.size, 2, none⟩ (.int .i64 z)) = w6 at X6 HB6 O6 T1' s6 q0 q1 q2 q3 q4 q5 q6 q7 q8 q9 q10 q11 q12 q13 q14 q15 ⊢
  have e0 := T1'.out.cell 0
  have e1 := T1'.out.cell 1
  have e2 := T1'.out.cell 2
  simp only [List.getElem?_cons_zero, List.getElem?_cons_succ] at e0 e1 e2
  obtain ⟨r0, r1, r2, r3, r4, r5, r6, r7, r8, r9, r10, r11, r12, r13, r14, r15⟩ := cells16 X6.out.b1
  have t0 : w6.cell? ⟨w.heap.size + 1 + 1, 0, none⟩ = some (.bool false) := X6.out.b2.cell 0
  have t1 : w6.cell? ⟨w.heap.size + 1 + 1, 1, none⟩ = some (.int .u32 0) := X6.out.b2.cell 1
  have t2 : w6.cell? ⟨w.heap.size + 1 + 1, 2, none⟩ = some (.int .i64 0) := X6.out.b2.cell 2
  have f1 := X6.out.b1.frozen
  have f2 : ∀ i, w6.frozen? ⟨w.heap.size + 1 + 1, i, none⟩ = false := X6.out.b2.frozen
  go_region
  all_goals
    go_wp2
    obtain ⟨S1, S2⟩ := store16 X6.out.b1 (.int .i64 F.kind) (.int .i64 F.stream) (.bool F.fin) (.bool F.eh) (.bool F.ack) (.bool F.prio) (.slice A4 F.pay.length cP) (.int .i64 F.flags) (.int .i64 F.pad) (.int .i64 F.depend) (.bool F.excl) (.int .i64 F.weight) (.int .u32 (F.code : Int)) (.slice D4 F.list.length cL) (.int .i64 F.last) (.int .i64 F.inc)
    obtain ⟨S3, S4⟩ := store3 (X6.out.b2.fr S2 (fun e => by omega)) (.bool false) (.int .u32 (cc : Int)) (.int .i64 z)
    have O7 : FrOwn _ w.heap.size F (.slice A4 F.pay.length cP) (.slice D4 F.list.length cL) := frOwn_drew (FrOwn.lower (B := w.heap.size) ((O6.out.fr S2 (fun i hi e => by omega)).fr S4 (fun i hi e => by omega)) (by omega))
    refine bodyPost_ret (res_ff (p := 4) (q := 5) rfl rfl rfl rfl (blk_drew (S1.fr S4 (fun e => by omega))) (blk_drew S3)) rfl ⟨.slice A4 F.pay.length cP, .slice D4 F.list.length cL, rfl, O7, ?_⟩
    exact below_drewN ((HB6.out.trans (S2.below HB6.out.size (fun i _ e => by omega))).trans (S4.below (Nat.le_trans HB6.out.size S2.size) (fun i _ e => by omega))) 1
end
end Go.Proofs.YtokbdkbljgdcpaaDoor
