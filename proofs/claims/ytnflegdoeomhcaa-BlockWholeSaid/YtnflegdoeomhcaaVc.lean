/- Stage 12: told. -/
import Derived.Test.YtnflegdoeomhcaaVb
namespace Go.Proofs.Ytnflegdoeomhcaa
open Go.RowKit Go.Own Go.Frm
set_option linter.unusedVariables false
set_option linter.unusedSimpArgs false
set_option maxRecDepth 100000
section
variable {S : Nat → Prop} {w0 w : World} {L : List Ob} {p m k : Nat} {f : Fm} {pv lv : Value}
theorem see_o (s : St S w0 w (AoL p (.opened m f k) pv lv L)) : (p < w.heap.size ∧ (∀ i, w.frozen? ⟨p, i, none⟩ = false) ∧ w.cell? ⟨p, 0, none⟩ = some (.int .i64 (m : Int))) ∧ w.cell? ⟨p, 2, none⟩ = some (.int .i64 f.kind) ∧ w.cell? ⟨p, 3, none⟩ = some (.int .i64 f.stream) ∧ w.cell? ⟨p, 4, none⟩ = some (.bool f.fin) ∧ w.cell? ⟨p, 5, none⟩ = some (.bool f.eh) ∧ w.cell? ⟨p, 6, none⟩ = some (.bool f.ack) ∧ w.cell? ⟨p, 7, none⟩ = some (.bool f.prio) ∧ w.cell? ⟨p, 8, none⟩ = some (pv) ∧ w.cell? ⟨p, 9, none⟩ = some (.int .i64 f.flags) ∧ w.cell? ⟨p, 10, none⟩ = some (.int .i64 f.pad) ∧ w.cell? ⟨p, 11, none⟩ = some (.int .i64 f.depend) ∧ w.cell? ⟨p, 12, none⟩ = some (.bool f.excl) ∧ w.cell? ⟨p, 13, none⟩ = some (.int .i64 f.weight) ∧ w.cell? ⟨p, 14, none⟩ = some (.int .u32 (f.code : Int)) ∧ w.cell? ⟨p, 15, none⟩ = some (lv) ∧ w.cell? ⟨p, 16, none⟩ = some (.int .i64 f.last) ∧ w.cell? ⟨p, 17, none⟩ = some (.int .i64 f.inc) := by
  obtain ⟨hl, hf, z0, z1, z2, z3, z4, z5, z6, z7, z8, z9, z10, z11, z12, z13, z14, z15, z16, z17, z18, z19, z20, z21⟩ := see_a s
  exact ⟨⟨hl, hf, z0⟩, z2, z3, z4, z5, z6, z7, z8, z9, z10, z11, z12, z13, z14, z15, z16, z17⟩
set_option maxHeartbeats 4000000 in
theorem told_no (s : St S w0 w (AO p (.opened m f k) :: L)) : Calls Try.prog 21 #[.pointer (some ⟨p, 0, none⟩), .bool false] w fun e w' => e = .returned (.tuple #[.agg #[.int .i64 0, .int .i64 0, .bool false, .bool false, .bool false, .bool false, .slice none 0 0, .int .i64 0, .int .i64 0, .int .i64 0, .bool false, .int .i64 0, .int .u32 0, .slice none 0 0, .int .i64 0, .int .i64 0], .bool false, .agg #[.bool false, .int .u32 0, .int .i64 0]]) ∧ St S w0 w' (AO p (.opened m f k) :: L) := by
  obtain ⟨P, pc, B, ll, lc, s⟩ := ao_open s
  have HS := Lib.hid s
  clear s
  go_enter Try.func21, Try.ntmps21
  go_upto_region 1 with (fail)
  obtain ⟨r, hr⟩ : ∃ r, w.heap.size = r := ⟨_, rfl⟩
  obtain ⟨W1, hW1⟩ : ∃ W1, (w.alloc (.cells #[.int .i64 0, .int .i64 0, .bool false, .bool false, .bool false, .bool false, .slice none 0 0, .int .i64 0, .int .i64 0, .int .i64 0, .bool false, .int .i64 0, .int .u32 0, .slice none 0 0, .int .i64 0, .int .i64 0] 32)).alloc (.cells #[.bool false, .int .u32 0, .int .i64 0] 34) = W1 := ⟨_, rfl⟩
  have t1 := St.two HS.out W1 hW1
  rw [hr] at t1
  rw [hW1, hr]
  have hb0 := hr
  have T1 : Hid (St S w0 W1 ((AO p (.opened m f k) :: L) ++ [BLo r 32 zero16, BLo (r + 1) 34 [.bool false, .int .u32 0, .int .i64 0]])) := ao_close (L := L ++ _) t1
  have HQ1 : Hid (Blk W1 r 32 zero16) := St.blk (AO p (.opened m f k) :: L) _ T1.out
  have HQ2 : Hid (Blk W1 (r + 1) 34 [.bool false, .int .u32 0, .int .i64 0]) := St.blk ((AO p (.opened m f k) :: L) ++ [BLo r 32 zero16]) [] (by rw [List.append_assoc]; exact T1.out)
  clear hr hW1 HS t1 hb0
  go_wp2_with (first
    | (with_reducible refine guard_store 32 _ _ ?_
       refine wpList_store_blk rfl rfl 32 _ _ rfl r _ rfl rfl HQ1.out info_frame rfl rfl ?_
       intro W3 hb3 hf3
       have HB3 := Lib.hid hb3
       have HF3 := Lib.hid hf3
       clear hb3 hf3)
    | (with_reducible refine guard_store 34 _ _ ?_
       refine wpList_store_blk rfl rfl 34 _ _ rfl (r + 1) _ rfl rfl (HQ2.out.fr HF3.out (show ¬ (r + 1 = r) by omega)) info_fault rfl rfl ?_
       intro W4 hb4 hf4
       have HB4 := Lib.hid hb4
       have HF4 := Lib.hid hf4
       clear hb4 hf4))
  obtain ⟨k1, k2⟩ := St.untwo T1.out HB3.out HF3.out HB4.out HF4.out
  exact bodyPost_ret (res_fbf (p := 4) (q := 6) (r := 5) rfl rfl rfl rfl rfl k1 HB4.out) rfl ⟨rfl, k2⟩
set_option maxHeartbeats 4000000 in
theorem told_yes (s : St S w0 w (AO p (.opened m f k) :: L)) : Calls Try.prog 21 #[.pointer (some ⟨p, 0, none⟩), .bool true] w fun e w' => ∃ A' c' B' n' d', e = .returned (.tuple #[.agg #[.int .i64 f.kind, .int .i64 f.stream, .bool f.fin, .bool true, .bool f.ack, .bool f.prio, .slice A' f.pay.length c', .int .i64 f.flags, .int .i64 f.pad, .int .i64 f.depend, .bool f.excl, .int .i64 f.weight, .int .u32 (f.code : Int), .slice B' n' d', .int .i64 f.last, .int .i64 f.inc], .bool true, .agg #[.bool false, .int .u32 0, .int .i64 0]]) ∧ St S w0 w' (AO p (.idle m) :: SLo 0 5 1 (.slice A' f.pay.length c') f.pay.length (f.pay.map BV) :: L) := by
  obtain ⟨P, pc, B, ll, lc, s⟩ := ao_open s
  have HS := Lib.hid s
  clear s
  go_enter Try.func21, Try.ntmps21
  go_upto_region 1 with (fail)
  obtain ⟨r, hr⟩ : ∃ r, w.heap.size = r := ⟨_, rfl⟩
  obtain ⟨W1, hW1⟩ : ∃ W1, (w.alloc (.cells #[.int .i64 0, .int .i64 0, .bool false, .bool false, .bool false, .bool false, .slice none 0 0, .int .i64 0, .int .i64 0, .int .i64 0, .bool false, .int .i64 0, .int .u32 0, .slice none 0 0, .int .i64 0, .int .i64 0] 32)).alloc (.cells #[.bool false, .int .u32 0, .int .i64 0] 34) = W1 := ⟨_, rfl⟩
  have t1 := St.two HS.out W1 hW1
  rw [hr] at t1
  rw [hW1, hr]
  have hb0 := hr
  have t1' : St S w0 W1 (AoL p (.opened m f k) (.slice P f.pay.length pc) (.slice B ll lc) (L ++ [BLo r 32 zero16, BLo (r + 1) 34 [.bool false, .int .u32 0, .int .i64 0]])) := t1
  have T1 := Lib.hid t1'
  obtain ⟨⟨hl, hf, z0⟩, z2, z3, z4, z5, z6, z7, z8, z9, z10, z11, z12, z13, z14, z15, z16, z17⟩ := see_o T1.out
  clear hr hW1 HS t1 hb0 t1'
  go_upto_region 4 with (first
    | (with_reducible refine guard_store 32 (.tmp 7) _ ?_
       refine wpList_store_blk rfl rfl 32 _ _ rfl W1.heap.size _ rfl rfl (Blk.new W1 32 zero16) info_frame rfl rfl ?_
       intro W2 hb2 hf2
       have t2 := St.blkToL (AoL p (.opened m f k) (.slice P f.pay.length pc) (.slice B ll lc) (L ++ [BLo r 32 zero16, BLo (r + 1) 34 [.bool false, .int .u32 0, .int .i64 0]])) (L2 := []) (T1.out.block 32 zero16) hb2 hf2
       have T2 := Lib.hid t2
       clear t2 hb2 hf2))
  obtain ⟨q, hq⟩ : ∃ q, W1.heap.size = q := ⟨_, rfl⟩
  rw [hq] at T2 ⊢
  have T2' : Hid (St S w0 W2 (AoL p (.opened m f k) (.slice P f.pay.length pc) (.slice B ll lc) ((L ++ [BLo r 32 zero16, BLo (r + 1) 34 [.bool false, .int .u32 0, .int .i64 0]]) ++ [BLo q 32 [.int .i64 f.kind, .int .i64 f.stream, .bool f.fin, .bool f.eh, .bool f.ack, .bool f.prio, .slice P f.pay.length pc, .int .i64 f.flags, .int .i64 f.pad, .int .i64 f.depend, .bool f.excl, .int .i64 f.weight, .int .u32 (f.code : Int), .slice B ll lc, .int .i64 f.last, .int .i64 f.inc]]))) := T2.out
  clear hl hf z0 z2 z3 z4 z5 z6 z7 z8 z9 z10 z11 z12 z13 z14 z15 z16 z17 T1 T2 hq
  have hb : Blk W2 q _ _ := St.blk (AoL p (.opened m f k) (.slice P f.pay.length pc) (.slice B ll lc) (L ++ [BLo r 32 zero16, BLo (r + 1) 34 [.bool false, .int .u32 0, .int .i64 0]])) [] T2'.out
  have y3 : W2.cell? ⟨q, 3, none⟩ = some (.bool f.eh) := (hb.cell 3).trans rfl
  have yf := hb.frozen 3
  have yl := hb.lt
  have t3 := St.set_ (AoL p (.opened m f k) (.slice P f.pay.length pc) (.slice B ll lc) (L ++ [BLo r 32 zero16, BLo (r + 1) 34 [.bool false, .int .u32 0, .int .i64 0]])) [] T2'.out 3 (.bool true)
  clear hb
  go_upto_region 5 with (fail)
  obtain ⟨W3, hW3⟩ : ∃ W3, W2.setCell ⟨q, 3, none⟩ (.bool true) = W3 := ⟨_, rfl⟩
  rw [hW3] at t3 ⊢
  have T3 : Hid (St S w0 W3 (AoL p (.opened m f k) (.slice P f.pay.length pc) (.slice B ll lc) ((L ++ [BLo r 32 zero16, BLo (r + 1) 34 [.bool false, .int .u32 0, .int .i64 0]]) ++ [BLo q 32 [.int .i64 f.kind, .int .i64 f.stream, .bool f.fin, .bool true, .bool f.ack, .bool f.prio, .slice P f.pay.length pc, .int .i64 f.flags, .int .i64 f.pad, .int .i64 f.depend, .bool f.excl, .int .i64 f.weight, .int .u32 (f.code : Int), .slice B ll lc, .int .i64 f.last, .int .i64 f.inc]]))) := t3
  clear y3 yf yl t3 hW3 T2'
  obtain ⟨⟨hl, hf, z0⟩, _⟩ := see_o T3.out
  go_upto_region 6 with (first
    | (with_reducible refine guard_store 50 _ _ ?_
       refine wpList_store_blk rfl rfl 50 _ _ rfl p _ rfl rfl (St.blk0 T3.out) info_asm rfl rfl ?_
       intro W4 hb4 hf4
       have t4 := St.ins1 (e := 5) (St.blkTo T3.out hb4 hf4)
       have T4 : Hid (St S w0 W4 (AoL p (.idle m) (.slice none 0 0) (.slice none 0 0) (SLo 0 5 1 (.slice P f.pay.length pc) f.pay.length (f.pay.map BV) :: ((L ++ [BLo r 32 zero16, BLo (r + 1) 34 [.bool false, .int .u32 0, .int .i64 0]]) ++ [BLo q 32 [.int .i64 f.kind, .int .i64 f.stream, .bool f.fin, .bool true, .bool f.ack, .bool f.prio, .slice P f.pay.length pc, .int .i64 f.flags, .int .i64 f.pad, .int .i64 f.depend, .bool f.excl, .int .i64 f.weight, .int .u32 (f.code : Int), .slice B ll lc, .int .i64 f.last, .int .i64 f.inc]])))) := t4
       clear t4 hb4 hf4))
  have t5 := ao_close T4.out
  clear hl hf z0 T3 T4
  have hb : Blk W4 q _ _ := St.blk (AO p (.idle m) :: SLo 0 5 1 (.slice P f.pay.length pc) f.pay.length (f.pay.map BV) :: (L ++ [BLo r 32 zero16, BLo (r + 1) 34 [.bool false, .int .u32 0, .int .i64 0]])) [] t5
  have t6 := St.drop (AO p (.idle m) :: SLo 0 5 1 (.slice P f.pay.length pc) f.pay.length (f.pay.map BV) :: (L ++ [BLo r 32 zero16, BLo (r + 1) 34 [.bool false, .int .u32 0, .int .i64 0]])) _ [] t5
  rw [List.append_nil] at t6
  have T6 : Hid (St S w0 W4 ((AO p (.idle m) :: SLo 0 5 1 (.slice P f.pay.length pc) f.pay.length (f.pay.map BV) :: L) ++ [BLo r 32 zero16, BLo (r + 1) 34 [.bool false, .int .u32 0, .int .i64 0]])) := t6
  have HQ1 : Hid (Blk W4 r 32 zero16) := St.blk (AO p (.idle m) :: SLo 0 5 1 (.slice P f.pay.length pc) f.pay.length (f.pay.map BV) :: L) _ T6.out
  have HQ2 : Hid (Blk W4 (r + 1) 34 [.bool false, .int .u32 0, .int .i64 0]) := St.blk ((AO p (.idle m) :: SLo 0 5 1 (.slice P f.pay.length pc) f.pay.length (f.pay.map BV) :: L) ++ [BLo r 32 zero16]) [] (by rw [List.append_assoc]; exact T6.out)
  obtain ⟨x0, x1, x2, x3, x4, x5, x6, x7, x8, x9, x10, x11, x12, x13, x14, x15⟩ := cells16v hb
  have hl := hb.lt
  clear hb t5 t6
  go_wp2_with (first
    | (with_reducible refine guard_store 32 _ _ ?_
       refine wpList_store_blk rfl rfl 32 _ _ rfl r _ rfl rfl HQ1.out info_frame rfl rfl ?_
       intro W5 hb5 hf5
       have HB5 := Lib.hid hb5
       have HF5 := Lib.hid hf5
       clear hb5 hf5)
    | (with_reducible refine guard_store 34 _ _ ?_
       refine wpList_store_blk rfl rfl 34 _ _ rfl (r + 1) _ rfl rfl (HQ2.out.fr HF5.out (show ¬ (r + 1 = r) by omega)) info_fault rfl rfl ?_
       intro W6 hb6 hf6
       have HB6 := Lib.hid hb6
       have HF6 := Lib.hid hf6
       clear hb6 hf6))
  obtain ⟨k1, k2⟩ := St.untwo T6.out HB5.out HF5.out HB6.out HF6.out
  exact bodyPost_ret (res_fbf (p := 4) (q := 6) (r := 5) rfl rfl rfl rfl rfl k1 HB6.out) rfl ⟨_, _, _, _, _, rfl, k2⟩
end
end Go.Proofs.Ytnflegdoeomhcaa
