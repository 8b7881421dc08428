/- Several texts in one: Fz. -/
import Derived.Test.YtokbdkbljgdcpaaDoorY41
/- told, behind a fault of the connection. -/
namespace Go.Proofs.YtokbdkbljgdcpaaDoor
open Go.RowKit Go.Own Go.Frm
set_option linter.unusedVariables false
set_option maxRecDepth 100000
section
variable {w : World} {p : Nat} {v m d : Value}
/-- the world where told stands when the parser is done -/
theorem brk_world (hb : Blk w p 82 [v, m, d]) (c1 c2 c3 c4 : List Value) (t1 t2 t3 t4 : TypeId) (x y : Value) :
    Blk ((((((w.alloc (.cells c1.toArray t1)).alloc (.cells c2.toArray t2)).alloc (.cells c3.toArray t3)).alloc (.cells c4.toArray t4)).setCell ⟨p, 2, none⟩ x).setCell ⟨p, 0, none⟩ y) w.heap.size t1 c1
    ∧ Blk ((((((w.alloc (.cells c1.toArray t1)).alloc (.cells c2.toArray t2)).alloc (.cells c3.toArray t3)).alloc (.cells c4.toArray t4)).setCell ⟨p, 2, none⟩ x).setCell ⟨p, 0, none⟩ y) (w.heap.size + 1) t2 c2
    ∧ Blk ((((((w.alloc (.cells c1.toArray t1)).alloc (.cells c2.toArray t2)).alloc (.cells c3.toArray t3)).alloc (.cells c4.toArray t4)).setCell ⟨p, 2, none⟩ x).setCell ⟨p, 0, none⟩ y) (w.heap.size + 1 + 1) t3 c3
    ∧ Blk ((((((w.alloc (.cells c1.toArray t1)).alloc (.cells c2.toArray t2)).alloc (.cells c3.toArray t3)).alloc (.cells c4.toArray t4)).setCell ⟨p, 2, none⟩ x).setCell ⟨p, 0, none⟩ y) (w.heap.size + 1 + 1 + 1) t4 c4
    ∧ Blk ((((((w.alloc (.cells c1.toArray t1)).alloc (.cells c2.toArray t2)).alloc (.cells c3.toArray t3)).alloc (.cells c4.toArray t4)).setCell ⟨p, 2, none⟩ x).setCell ⟨p, 0, none⟩ y) p 82 [y, m, x]
    ∧ Fr (· = p) w ((((((w.alloc (.cells c1.toArray t1)).alloc (.cells c2.toArray t2)).alloc (.cells c3.toArray t3)).alloc (.cells c4.toArray t4)).setCell ⟨p, 2, none⟩ x).setCell ⟨p, 0, none⟩ y) := by
  have hl := hb.lt
  have f2 := fun W => (Fr.setCell (S := (· = p)) (Fr.refl _ W) (p := ⟨p, 2, none⟩) (.inl rfl) x).setCell (p := ⟨p, 0, none⟩) (.inl rfl) y
  refine ⟨?_, ?_, ?_, ?_, ?_, ?_⟩
  · exact (((blk_new1 w _ t1 c1).alloc _).alloc _).fr (f2 _) (fun e => by omega)
  · exact (((blk_new2 w _ t2 c2).alloc _).alloc _).fr (f2 _) (fun e => by omega)
  · exact (blk_new3 w _ _ _ t3 c3).fr (f2 _) (fun e => by omega)
  · exact (blk_new4 w _ _ _ t4 c4).fr (f2 _) (fun e => by omega)
  · exact (((((hb.alloc _).alloc _).alloc _).alloc _).set_ 2 x).set_ 0 y
  · exact (((((Fr.refl _ w).alloc _).alloc _).alloc _).alloc _).trans (f2 _) (fun _ _ h => h)
set_option maxHeartbeats 4000000 in
/-- behind a fault of the connection nothing is held -/
theorem told_break (F : Fm) (A B : Option Addr) (n c k e : Nat) (cc : Nat) (hb : Blk w p 82 [v, m, d]) :
    Calls Tryd.prog 39 #[.pointer (some ⟨p, 0, none⟩), frV F (.slice A n c) (.slice B k e), .agg #[.bool true, .int .u32 (cc : Int), .int .i64 0]] w fun en w' => en = .returned (.tuple #[frV F (.slice A n c) (.slice B k e), .agg #[.bool true, .int .u32 (cc : Int), .int .i64 0], .bool true]) ∧ Blk w' p 82 [.slice none 0 0, m, .bool true] ∧ Fr (· = p) w w' := by
  have z0 := hb.cell 0
  have z2 := hb.cell 2
  have zf := hb.frozen
  have hl := hb.lt
  simp only [List.getElem?_cons_zero, List.getElem?_cons_succ] at z0 z2
  have hfz : ∀ (o1 o2 o3 o4 : Obj) (i : Nat), ((((w.alloc o1).alloc o2).alloc o3).alloc o4).frozen? ⟨p, i, none⟩ = false := fun o1 o2 o3 o4 i => ((((hb.alloc o1).alloc o2).alloc o3).alloc o4).frozen i
  have hc0 : ∀ (o1 o2 o3 o4 : Obj), ((((w.alloc o1).alloc o2).alloc o3).alloc o4).cell? ⟨p, 0, none⟩ = some v := fun o1 o2 o3 o4 => ((((hb.alloc o1).alloc o2).alloc o3).alloc o4).cell 0
  have hc2 : ∀ (o1 o2 o3 o4 : Obj), ((((w.alloc o1).alloc o2).alloc o3).alloc o4).cell? ⟨p, 2, none⟩ = some d := fun o1 o2 o3 o4 => ((((hb.alloc o1).alloc o2).alloc o3).alloc o4).cell 2
  have HB := Lib.hid hb
  clear hb
  go_enter Tryd.func39, Tryd.ntmps39
  go_wp2
  obtain ⟨D1, D2, D3, D4, D5, D6⟩ := brk_world HB.out (frC F (.slice A n c) (.slice B k e)) [.bool true, .int .u32 (cc : Int), .int .i64 0] zero16 [.bool false, .int .u32 0, .int .i64 0] 27 46 27 46 (.bool true) (.slice none 0 0)
  simp only [frC, zero16] at D1 D2 D3 D4 D5 D6
  generalize World.setCell (World.setCell _ ⟨p, 2, none⟩ (.bool true)) ⟨p, 0, none⟩ (.slice none 0 0) = w5 at D1 D2 D3 D4 D5 D6 ⊢
  have q0 := D1.cell 0
  have q1 := D1.cell 1
  have q2 := D1.cell 2
  have q3 := D1.cell 3
  have q4 := D1.cell 4
  have q5 := D1.cell 5
  have q6 := D1.cell 6
  have q7 := D1.cell 7
  have q8 := D1.cell 8
  have q9 := D1.cell 9
  have q10 := D1.cell 10
  have q11 := D1.cell 11
  have q12 := D1.cell 12
  have q13 := D1.cell 13
  have q14 := D1.cell 14
  have q15 := D1.cell 15
  have r0 := D3.cell 0
  have r1 := D3.cell 1
  have r2 := D3.cell 2
  have r3 := D3.cell 3
  have r4 := D3.cell 4
  have r5 := D3.cell 5
  have r6 := D3.cell 6
  have r7 := D3.cell 7
  have r8 := D3.cell 8
  have r9 := D3.cell 9
  have r10 := D3.cell 10
  have r11 := D3.cell 11
  have r12 := D3.cell 12
  have r13 := D3.cell 13
  have r14 := D3.cell 14
  have r15 := D3.cell 15
  have u0 := D2.cell 0
  have u1 := D2.cell 1
  have u2 := D2.cell 2
  have t0 := D4.cell 0
  have t1 := D4.cell 1
  have t2 := D4.cell 2
  simp only [List.getElem?_cons_zero, List.getElem?_cons_succ] at q0 q1 q2 q3 q4 q5 q6 q7 q8 q9 q10 q11 q12 q13 q14 q15 r0 r1 r2 r3 r4 r5 r6 r7 r8 r9 r10 r11 r12 r13 r14 r15 u0 u1 u2 t0 t1 t2
  have f3 := D3.frozen
  have f4 := D4.frozen
  have X3 : Hid (Blk w5 (w.heap.size + 1 + 1) 27 zero16) := D3
  have X4 := Lib.hid D4
  have X5 := Lib.hid D5
  have X6 := Lib.hid D6
  have L4 := D4.lt
  clear D1 D2 D3 D4 D5 D6 hfz hc0 hc2 z0 z2 zf
  go_region
  all_goals
    go_wp2
    obtain ⟨S1, S2⟩ := store16 X3.out (.int .i64 F.kind) (.int .i64 F.stream) (.bool F.fin) (.bool F.eh) (.bool F.ack) (.bool F.prio) (.slice A n c) (.int .i64 F.flags) (.int .i64 F.pad) (.int .i64 F.depend) (.bool F.excl) (.int .i64 F.weight) (.int .u32 (F.code : Int)) (.slice B k e) (.int .i64 F.last) (.int .i64 F.inc)
    obtain ⟨S3, S4⟩ := store3 (X4.out.fr S2 (fun e => by omega)) (.bool true) (.int .u32 (cc : Int)) (.int .i64 0)
    refine bodyPost_ret (res_ffb (p := 6) (q := 7) (r := 8) rfl rfl rfl rfl rfl (blk_drew (S1.fr S4 (fun e => by omega))) (blk_drew S3)) rfl ⟨rfl, blk_drew ((X5.out.fr S2 (fun e => by omega)).fr S4 (fun e => by omega)), ?_⟩
    exact ((X6.out.trans S2 (fun i hi e => by omega)).trans S4 (fun i hi e => by omega)).drew
end
end Go.Proofs.YtokbdkbljgdcpaaDoor
