/- Several texts in one: Ft. -/
import Derived.Test.YtokbdkbljgdcpaaDoorY11
/- frame: the walk. -/
namespace Go.Proofs.YtokbdkbljgdcpaaDoor
open Go.RowKit Go.Own Go.Frm
set_option linter.unusedVariables false
set_option maxRecDepth 100000

/-- what frame answers -/
def FraP (w : World) (o : Fm × Flt) (e : Ending) (w' : World) : Prop := ∃ pv lv, e = .returned (.tuple #[frV o.1 pv lv, ftV o.2]) ∧ FrOwn w' w.heap.size o.1 pv lv ∧ Below w.heap.size w w'
section
variable {w : World} {A : Option Addr} {n c k fl s : Nat} {xs : List UInt8}
set_option maxHeartbeats 4000000 in
/-- a fault that the head tells -/
theorem frame_bad (hG : Gl w) (hn : n < 16777216) (cc : Nat) (z : Int) (hx : chkP n k fl s = ⟨true, cc, z⟩) : Calls Tryd.prog 41 #[hdV n k fl s, .slice A n c] w (FraP w (zeroF, ⟨true, cc, z⟩)) := by
  have HG := Lib.hid hG
  have HX := Lib.hid hx
  have X0 := Lib.hid (fx_new w n k fl s)
  have B0 : Hid (Below w.heap.size w _) := (((Below.refl _ w).alloc (Nat.le_refl _) (.cells #[.int .i64 (n : Int), .int .i64 (k : Int), .int .i64 (fl : Int), .int .i64 (s : Int), .int .i64 ((hpN k fl : Nat) : Int)] 85)).alloc (by simp) (.cells #[.int .i64 0, .int .i64 0, .bool false, .bool false, .bool false, .bool false, .slice none 0 0, .int .i64 0, .int .i64 0, .int .i64 0, .bool false, .int .i64 0, .int .u32 0, .slice none 0 0, .int .i64 0, .int .i64 0] 27)).alloc (by simp; omega) (.cells #[.bool false, .int .u32 0, .int .i64 0] 46)
  clear hG hx
  go_enter Tryd.func41, Tryd.ntmps41
  go_wp2_with (first
    | (go_at_call 61; (with_reducible refine (check_any n k fl s (((HG.out.alloc _).alloc _).alloc _) hn true cc z HX.out).mono ?_); rintro e w1 ⟨rfl, hb⟩
       have X1 := Lib.hid (X0.out.below hb)
       have HB1 := Lib.hid (B0.out.trans (hb.mono B0.out.size))
       have q0 := X1.out.b0.cell 0
       have q1 := X1.out.b0.cell 1
       have q2 := X1.out.b0.cell 2
       have q3 := X1.out.b0.cell 3
       have q4 := X1.out.b0.cell 4
       simp only [List.getElem?_cons_zero, List.getElem?_cons_succ] at q0 q1 q2 q3 q4
       have L1 := X1.out.b2.lt
       have M1 : w.heap.size < w1.heap.size := by omega
       have N1 : w.heap.size + 1 < w1.heap.size := by omega
       have P1 : w.heap.size + 1 + 1 < w1.heap.size := by omega
       clear hb)
    | (go_at_call 62; (with_reducible refine (flagged_any n k fl s).mono ?_); rintro e w2 ⟨rfl, hb⟩
       have e2 := blk_below (Blk.new w1 46 [.bool true, .int .u32 (cc : Int), .int .i64 z]) hb
       have X2 := Lib.hid ((X1.out.below ((Below.refl _ _).alloc (Nat.le_refl _) (.cells #[.bool true, .int .u32 (cc : Int), .int .i64 z] 46))).below hb)
       have HB2 := Lib.hid ((HB1.out.alloc HB1.out.size (.cells #[.bool true, .int .u32 (cc : Int), .int .i64 z] 46)).trans (hb.mono (HB1.out.alloc HB1.out.size _).size))
       have u0 := e2.cell 0
       have u1 := e2.cell 1
       have u2 := e2.cell 2
       simp only [List.getElem?_cons_zero, List.getElem?_cons_succ] at u0 u1 u2
       have L2 := e2.lt
       have M2 : w.heap.size < w2.heap.size := by omega
       have N2 : w.heap.size + 1 < w2.heap.size := by omega
       have P2 : w.heap.size + 1 + 1 < w2.heap.size := by omega
       obtain ⟨r0, r1, r2, r3, r4, r5, r6, r7, r8, r9, r10, r11, r12, r13, r14, r15⟩ := cells16 X2.out.b1
       have t0 : w2.cell? ⟨w.heap.size + 1 + 1, 0, none⟩ = some (.bool false) := X2.out.b2.cell 0
       have t1 : w2.cell? ⟨w.heap.size + 1 + 1, 1, none⟩ = some (.int .u32 0) := X2.out.b2.cell 1
       have t2 : w2.cell? ⟨w.heap.size + 1 + 1, 2, none⟩ = some (.int .i64 0) := X2.out.b2.cell 2
       have f1 := X2.out.b1.frozen
       have f2 : ∀ i, w2.frozen? ⟨w.heap.size + 1 + 1, i, none⟩ = false := X2.out.b2.frozen
       clear hb e2))
  go_region
  all_goals
    go_wp2
    obtain ⟨S1, S2⟩ := store16 X2.out.b1 (.int .i64 0) (.int .i64 0) (.bool false) (.bool false) (.bool false) (.bool false) (.slice none 0 0) (.int .i64 0) (.int .i64 0) (.int .i64 0) (.bool false) (.int .i64 0) (.int .u32 0) (.slice none 0 0) (.int .i64 0) (.int .i64 0)
    obtain ⟨S3, S4⟩ := store3 (X2.out.b2.fr S2 (fun e => by omega)) (.bool true) (.int .u32 (cc : Int)) (.int .i64 z)
    refine bodyPost_ret (res_ff (p := 4) (q := 5) rfl rfl rfl rfl (blk_drew ((S1.fr S4 (fun e => by omega)).alloc _)) (blk_drew (S3.alloc _))) rfl ⟨.slice none 0 0, .slice none 0 0, rfl, frOwn_none _ _ _ rfl rfl, ?_⟩
    exact below_drewN (((HB2.out.trans (S2.below HB2.out.size (fun i _ e => by omega))).trans (S4.below (Nat.le_trans HB2.out.size S2.size) (fun i _ e => by omega))).alloc (Nat.le_trans HB2.out.size (Nat.le_trans S2.size S4.size)) _) 1
end
end Go.Proofs.YtokbdkbljgdcpaaDoor
