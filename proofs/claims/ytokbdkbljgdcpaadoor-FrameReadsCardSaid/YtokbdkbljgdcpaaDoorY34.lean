/- Several texts in one: FB. -/
import Derived.Test.YtokbdkbljgdcpaaDoorY33
import Derived.Deep.RegionHeld
/- frame: the walk with padding, of which there is too much. -/
namespace Go.Proofs.YtokbdkbljgdcpaaDoor
open Go.RowKit Go.Own Go.Frm
set_option linter.unusedVariables false
set_option maxRecDepth 100000
section
variable {w : World} {A : Option Addr} {n c k fl s : Nat} {xs : List UInt8}
set_option maxHeartbeats 8000000 in
theorem frame_pad_bad (hG : Gl w) (hr : Rd w 1 A n (xs.map BV)) (hnc : n ≤ c) (hc : c ≤ 9223372036854775807) (hA : ∀ a, A = some a → a.block < w.heap.size) (hn : n < 16777216) (hx : chkP n k fl s = noF) (hp : padded k fl = true) (hl : xs.length = n) (mm : Nat) (hmm : must k fl = mm) (hmn : mm ≤ n) (h1 : 1 ≤ mm) (hlt : n - mm < (xs.headD 0).toNat) : Calls Tryd.prog 41 #[hdV n k fl s, .slice A n c] w (FraP w (zeroF, ⟨true, 1, 0⟩)) := by
  have HG := Lib.hid hG
  have HX := Lib.hid hx
  have Hp := Lib.hid hp
  have Hmm := Lib.hid hmm
  have Hl := Lib.hid hl
  have hx1 : 1 ≤ xs.length := by omega
  have hbig : (n - mm) + 1 ≤ xs.length := by omega
  have hms : n - mm ≤ 16777215 := by omega
  have Hlt := Lib.hid hlt
  have Hr := Lib.hid hr
  have HA := Lib.hid hA
  have X0 := Lib.hid (fx_new w n k fl s)
  have B0 : Hid (Below w.heap.size w _) := (((Below.refl _ w).alloc (Nat.le_refl _) (.cells #[.int .i64 (n : Int), .int .i64 (k : Int), .int .i64 (fl : Int), .int .i64 (s : Int), .int .i64 ((hpN k fl : Nat) : Int)] 85)).alloc (by simp) (.cells #[.int .i64 0, .int .i64 0, .bool false, .bool false, .bool false, .bool false, .slice none 0 0, .int .i64 0, .int .i64 0, .int .i64 0, .bool false, .int .i64 0, .int .u32 0, .slice none 0 0, .int .i64 0, .int .i64 0] 27)).alloc (by simp; omega) (.cells #[.bool false, .int .u32 0, .int .i64 0] 46)
  clear hG hx hp hr hA hl hmm hlt
  go_enter Tryd.func41, Tryd.ntmps41
  go_wp2_with (first
    | (go_at_call 61; (with_reducible refine (check_ok (((HG.out.alloc _).alloc _).alloc _) hn HX.out).mono ?_); rintro e w1 ⟨rfl, hb⟩
       have X1 := Lib.hid (X0.out.below hb)
       have HB1 := Lib.hid (B0.out.trans (hb.mono B0.out.size))
       have q0 := X1.out.b0.cell 0
       have q1 := X1.out.b0.cell 1
       have q2 := X1.out.b0.cell 2
       have q3 := X1.out.b0.cell 3
       have q4 := X1.out.b0.cell 4
       simp only [List.getElem?_cons_zero, List.getElem?_cons_succ] at q0 q1 q2 q3 q4
       have L1 := X1.out.b2.lt
       have M1 : w.heap.size < w1.heap.size := by omega
       have N1 : w.heap.size + 1 < w1.heap.size := by omega
       have P1 : w.heap.size + 1 + 1 < w1.heap.size := by omega
       clear hb)
    | (go_at_call 62; (with_reducible refine (flagged_any n k fl s).mono ?_); rintro e w2 ⟨rfl, hb⟩
       have e2 := blk_below (Blk.new w1 46 [.bool false, .int .u32 0, .int .i64 0]) hb
       have X2 := Lib.hid ((X1.out.below ((Below.refl _ _).alloc (Nat.le_refl _) (.cells #[.bool false, .int .u32 0, .int .i64 0] 46))).below hb)
       have HB2 := Lib.hid ((HB1.out.alloc HB1.out.size (.cells #[.bool false, .int .u32 0, .int .i64 0] 46)).trans (hb.mono (HB1.out.alloc HB1.out.size _).size))
       have y4 : w2.cell? ⟨w.heap.size, 4, none⟩ = some (.int .i64 ((hpN k fl : Nat) : Int)) := X2.out.b0.cell 4
       have u0 := e2.cell 0
       simp only [List.getElem?_cons_zero] at u0
       have E2 := Lib.hid e2
       have L2 := e2.lt
       have M2 : w.heap.size < w2.heap.size := by omega
       have N2 : w.heap.size + 1 < w2.heap.size := by omega
       have P2 : w.heap.size + 1 + 1 < w2.heap.size := by omega
       have hR : RG (w2.alloc (.cells #[.int .i64 (flagP k fl s 0).kind, .int .i64 (flagP k fl s 0).stream, .bool (flagP k fl s 0).fin, .bool (flagP k fl s 0).eh, .bool (flagP k fl s 0).ack, .bool (flagP k fl s 0).prio, .slice none 0 0, .int .i64 (flagP k fl s 0).flags, .int .i64 (flagP k fl s 0).pad, .int .i64 (flagP k fl s 0).depend, .bool (flagP k fl s 0).excl, .int .i64 (flagP k fl s 0).weight, .int .u32 ((flagP k fl s 0).code : Int), .slice none 0 0, .int .i64 (flagP k fl s 0).last, .int .i64 (flagP k fl s 0).inc, .slice A n c] 114)) w2.heap.size (frC (flagP k fl s 0) (.slice none 0 0) (.slice none 0 0)) xs :=
         ⟨A, n, c, rfl, Blk.new w2 _ _, (Hr.out.fr (S := fun _ => False) (Fr.of_below HB2.out (fun i h1 h2 => by omega)) (fun _ _ h => h)).below ((Below.refl _ _).alloc (Nat.le_refl _) _), hnc, hc, fun a ha => Nat.lt_trans (HA.out a ha) M2⟩
       have R3 := Lib.hid hR
       clear hb e2 hR)
    | (go_at_call 54; (with_reducible refine (has_pad k fl _ true Hp.out).mono ?_); rintro e w3 ⟨rfl, rfl⟩))
  have ha : Below w2.heap.size w2 _ := (Below.refl _ w2).alloc (Nat.le_refl _) (.cells #[.int .i64 (flagP k fl s 0).kind, .int .i64 (flagP k fl s 0).stream, .bool (flagP k fl s 0).fin, .bool (flagP k fl s 0).eh, .bool (flagP k fl s 0).ack, .bool (flagP k fl s 0).prio, .slice none 0 0, .int .i64 (flagP k fl s 0).flags, .int .i64 (flagP k fl s 0).pad, .int .i64 (flagP k fl s 0).depend, .bool (flagP k fl s 0).excl, .int .i64 (flagP k fl s 0).weight, .int .u32 ((flagP k fl s 0).code : Int), .slice none 0 0, .int .i64 (flagP k fl s 0).last, .int .i64 (flagP k fl s 0).inc, .slice A n c] 114)
  have X3 := Lib.hid (X2.out.below ha)
  have E3 := Lib.hid (blk_below E2.out ha)
  have HB3 := Lib.hid (HB2.out.trans (ha.mono HB2.out.size))
  clear ha u0 y4
  generalize World.alloc w2 _ = w3 at R3 X3 E3 HB3 ⊢
  have L3 := R3.out.lt
  have q0 := X3.out.b0.cell 0
  have q1 := X3.out.b0.cell 1
  have q2 := X3.out.b0.cell 2
  have q3 := X3.out.b0.cell 3
  have q4 := X3.out.b0.cell 4
  simp only [List.getElem?_cons_zero, List.getElem?_cons_succ] at q0 q1 q2 q3 q4
  have G3 : Hid (Gl w3.drew) := Gl.drew (HG.out.below HB3.out)
  have R3d : Hid (RG w3.drew w2.heap.size (frC (flagP k fl s 0) (.slice none 0 0) (.slice none 0 0)) xs) := R3.out.below (below_drewN (Below.refl _ _) 1)
  have wn : IntKind.i64.wrap ((n : Int) - (mm : Int)) = ((n - mm : Nat) : Int) := by rw [IntKind.wrap_i64]; omega
  have j0 : w3.drew.cell? ⟨w.heap.size, 0, none⟩ = some (.int .i64 (n : Int)) := q0
  have j1 : w3.drew.cell? ⟨w.heap.size, 1, none⟩ = some (.int .i64 (k : Int)) := q1
  have j2 : w3.drew.cell? ⟨w.heap.size, 2, none⟩ = some (.int .i64 (fl : Int)) := q2
  have j3 : w3.drew.cell? ⟨w.heap.size, 3, none⟩ = some (.int .i64 (s : Int)) := q3
  have j4 : w3.drew.cell? ⟨w.heap.size, 4, none⟩ = some (.int .i64 ((hpN k fl : Nat) : Int)) := q4
  go_region_held (fun w' => w'.cell? ⟨w.heap.size, 0, none⟩ = some (.int .i64 (n : Int)) ∧ w'.cell? ⟨w.heap.size, 1, none⟩ = some (.int .i64 (k : Int)) ∧ w'.cell? ⟨w.heap.size, 2, none⟩ = some (.int .i64 (fl : Int)) ∧ w'.cell? ⟨w.heap.size, 3, none⟩ = some (.int .i64 (s : Int)) ∧ w'.cell? ⟨w.heap.size, 4, none⟩ = some (.int .i64 ((hpN k fl : Nat) : Int)))
    (first | exact ⟨j0, j1, j2, j3, j4⟩ | exact ⟨k0, k1, k2, k3, k4⟩ | exact ⟨l0, l1, l2, l3, l4⟩ | exact ⟨m0, m1, m2, m3, m4⟩)
    (first
    | (go_at_call 64; (with_reducible refine (must_any n k fl s G3.out).mono ?_); rintro e w4 ⟨rfl, hb4⟩
       rw [Hmm.out]
       have X4 := Lib.hid ((X3.out.below (below_drewN (Below.refl _ _) 1)).below hb4)
       have E4 := Lib.hid (blk_below (blk_drew E3.out) hb4)
       have R4 := Lib.hid (R3d.out.below hb4)
       have HB4 := Lib.hid ((HB3.out.trans (below_drewN (Below.refl _ _) 1)).trans (hb4.mono (by have := HB3.out.size; exact this)))
       have s4 : w3.heap.size ≤ w4.heap.size := hb4.size
       have k0 : w4.cell? ⟨w.heap.size, 0, none⟩ = some (.int .i64 (n : Int)) := X4.out.b0.cell 0
       have k1 : w4.cell? ⟨w.heap.size, 1, none⟩ = some (.int .i64 (k : Int)) := X4.out.b0.cell 1
       have k2 : w4.cell? ⟨w.heap.size, 2, none⟩ = some (.int .i64 (fl : Int)) := X4.out.b0.cell 2
       have k3 : w4.cell? ⟨w.heap.size, 3, none⟩ = some (.int .i64 (s : Int)) := X4.out.b0.cell 3
       have k4 : w4.cell? ⟨w.heap.size, 4, none⟩ = some (.int .i64 ((hpN k fl : Nat) : Int)) := X4.out.b0.cell 4
       clear hb4)
    | (go_at_call 63; (with_reducible refine (padding_bad R4.out hx1 (n - mm) hms hbig Hlt.out).mono ?_); rintro e w5 ⟨rfl, f5⟩
       have X5 := Lib.hid (X4.out.fr f5 (fun i hi e => by omega))
       have E5 := Lib.hid (E4.out.fr f5 (fun e => by omega))
       have HB5 := Lib.hid (HB4.out.trans (f5.below (B := w.heap.size) (by have := HB4.out.size; omega) (fun i _ e => by omega)))
       have s5 := f5.size
       have e0 := E5.out.cell 0
       have e1 := E5.out.cell 1
       have e2 := E5.out.cell 2
       have ef := E5.out.frozen
       have l0 : w5.cell? ⟨w.heap.size, 0, none⟩ = some (.int .i64 (n : Int)) := X5.out.b0.cell 0
       have l1 : w5.cell? ⟨w.heap.size, 1, none⟩ = some (.int .i64 (k : Int)) := X5.out.b0.cell 1
       have l2 : w5.cell? ⟨w.heap.size, 2, none⟩ = some (.int .i64 (fl : Int)) := X5.out.b0.cell 2
       have l3 : w5.cell? ⟨w.heap.size, 3, none⟩ = some (.int .i64 (s : Int)) := X5.out.b0.cell 3
       have l4 : w5.cell? ⟨w.heap.size, 4, none⟩ = some (.int .i64 ((hpN k fl : Nat) : Int)) := X5.out.b0.cell 4
       have T := (store3 E5.out (.bool true) (.int .u32 1) (.int .i64 0)).2
       have m0 : (((w5.setCell ⟨w1.heap.size, 0, none⟩ (.bool true)).setCell ⟨w1.heap.size, 1, none⟩ (.int .u32 1)).setCell ⟨w1.heap.size, 2, none⟩ (.int .i64 0)).cell? ⟨w.heap.size, 0, none⟩ = some (.int .i64 (n : Int)) := T.cell l0 (fun e => by have e' : w.heap.size = w1.heap.size := e; omega)
       have m1 : (((w5.setCell ⟨w1.heap.size, 0, none⟩ (.bool true)).setCell ⟨w1.heap.size, 1, none⟩ (.int .u32 1)).setCell ⟨w1.heap.size, 2, none⟩ (.int .i64 0)).cell? ⟨w.heap.size, 1, none⟩ = some (.int .i64 (k : Int)) := T.cell l1 (fun e => by have e' : w.heap.size = w1.heap.size := e; omega)
       have m2 : (((w5.setCell ⟨w1.heap.size, 0, none⟩ (.bool true)).setCell ⟨w1.heap.size, 1, none⟩ (.int .u32 1)).setCell ⟨w1.heap.size, 2, none⟩ (.int .i64 0)).cell? ⟨w.heap.size, 2, none⟩ = some (.int .i64 (fl : Int)) := T.cell l2 (fun e => by have e' : w.heap.size = w1.heap.size := e; omega)
       have m3 : (((w5.setCell ⟨w1.heap.size, 0, none⟩ (.bool true)).setCell ⟨w1.heap.size, 1, none⟩ (.int .u32 1)).setCell ⟨w1.heap.size, 2, none⟩ (.int .i64 0)).cell? ⟨w.heap.size, 3, none⟩ = some (.int .i64 (s : Int)) := T.cell l3 (fun e => by have e' : w.heap.size = w1.heap.size := e; omega)
       have m4 : (((w5.setCell ⟨w1.heap.size, 0, none⟩ (.bool true)).setCell ⟨w1.heap.size, 1, none⟩ (.int .u32 1)).setCell ⟨w1.heap.size, 2, none⟩ (.int .i64 0)).cell? ⟨w.heap.size, 4, none⟩ = some (.int .i64 ((hpN k fl : Nat) : Int)) := T.cell l4 (fun e => by have e' : w.heap.size = w1.heap.size := e; omega)
       simp only [List.getElem?_cons_zero, List.getElem?_cons_succ] at e0 e1 e2
       clear f5 T))
  all_goals
    obtain ⟨T1, T2⟩ := store3 E5.out (.bool true) (.int .u32 1) (.int .i64 0)
    have X6 := Lib.hid (X5.out.fr T2 (fun i hi e => by omega))
    have HB6 := Lib.hid (HB5.out.trans (T2.below (B := w.heap.size) HB5.out.size (fun i _ e => by omega)))
    have T1' := Lib.hid T1
    have s6 := T2.size
    clear j0 j1 j2 j3 j4 k0 k1 k2 k3 k4 l0 l1 l2 l3 l4 m0 m1 m2 m3 m4 q0 q1 q2 q3 q4 e0 e1 e2 ef
    clear T1 T2
    generalize (((w5.setCell ⟨w1.heap.size, 0, none⟩ (.bool true)).setCell ⟨w1.heap.size, 1, none⟩ (.int .u32 1)).setCell ⟨w1.heap.size, 2, none⟩ (.int .i64 0)) = w6 at X6 HB6 T1' s6 ⊢
    have e0 := T1'.out.cell 0
    have e1 := T1'.out.cell 1
    have e2 := T1'.out.cell 2
    simp only [List.getElem?_cons_zero, List.getElem?_cons_succ] at e0 e1 e2
    obtain ⟨r0, r1, r2, r3, r4, r5, r6, r7, r8, r9, r10, r11, r12, r13, r14, r15⟩ := cells16 X6.out.b1
    have t0 : w6.cell? ⟨w.heap.size + 1 + 1, 0, none⟩ = some (.bool false) := X6.out.b2.cell 0
    have t1 : w6.cell? ⟨w.heap.size + 1 + 1, 1, none⟩ = some (.int .u32 0) := X6.out.b2.cell 1
    have t2 : w6.cell? ⟨w.heap.size + 1 + 1, 2, none⟩ = some (.int .i64 0) := X6.out.b2.cell 2
    have f1 := X6.out.b1.frozen
    have f2 : ∀ i, w6.frozen? ⟨w.heap.size + 1 + 1, i, none⟩ = false := X6.out.b2.frozen
    have d1 : ¬ w1.heap.size = w.heap.size + 1 := by omega
    have d2 : ¬ w1.heap.size = w.heap.size + 1 + 1 := by omega
    go_wp2
    go_region
    all_goals
      go_wp2
      obtain ⟨S1, S2⟩ := store16 X6.out.b1 (.int .i64 0) (.int .i64 0) (.bool false) (.bool false) (.bool false) (.bool false) (.slice none 0 0) (.int .i64 0) (.int .i64 0) (.int .i64 0) (.bool false) (.int .i64 0) (.int .u32 0) (.slice none 0 0) (.int .i64 0) (.int .i64 0)
      obtain ⟨S3, S4⟩ := store3 (X6.out.b2.fr S2 (fun e => by omega)) (.bool true) (.int .u32 1) (.int .i64 0)
      refine bodyPost_ret (res_ff (p := 4) (q := 5) rfl rfl rfl rfl (blk_drew (S1.fr S4 (fun e => by omega))) (blk_drew S3)) rfl ⟨.slice none 0 0, .slice none 0 0, rfl, frOwn_none _ _ _ rfl rfl, ?_⟩
      exact below_drewN ((HB6.out.trans (S2.below HB6.out.size (fun i _ e => by omega))).trans (S4.below (Nat.le_trans HB6.out.size S2.size) (fun i _ e => by omega))) 1
end
end Go.Proofs.YtokbdkbljgdcpaaDoor
