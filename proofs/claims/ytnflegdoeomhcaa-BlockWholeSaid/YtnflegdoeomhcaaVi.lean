/- Stage 12: what must be in any case. -/
import Derived.Test.YtnflegdoeomhcaaVh
import Derived.Lib.SlBytesConst
namespace Go.Proofs.Ytnflegdoeomhcaa
open Go.RowKit Go.Own Go.Frm
set_option linter.unusedVariables false
set_option linter.unusedSimpArgs false
set_option maxRecDepth 100000
theorem two_gen {S : Nat → Prop} {w0 w : World} {L : List Ob} (s : St S w0 w L) (cs ds : List Value) (W : World) (hW : (w.alloc (.cells cs.toArray 32)).alloc (.cells ds.toArray 34) = W) : St S w0 W (L ++ [BLo w.heap.size 32 cs, BLo (w.heap.size + 1) 34 ds]) := by
  subst hW
  exact s.add (two_new w cs ds)
theorem two_gen0 {S : Nat → Prop} {w0 w : World} {L : List Ob} (s : St S w0 w L) (a b : Obj) (W : World) (hW : (w.alloc a).alloc b = W) : St S w0 W L := by
  subst hW
  exact (s.alloc a).alloc b
theorem conv_one (v : Value) (w : World) : (convert 22 22 (.slice (some ⟨w.heap.size, 0, none⟩) 1 1)).run Try.prog (w.alloc (.cells #[v] 5)) = .ok (.slice (some ⟨w.heap.size, 0, none⟩) 1 1) (w.alloc (.cells #[v] 5 (1, 2))) :=
  Lib.run_convert_bytes_const w 22 5 #[v] 1 1 Try.underlying22 Try.underlying5
theorem rd_lit1 (w : World) (x : UInt8) (v : Value) (hv : BV x = v) : Rd (w.alloc (.cells #[v] 5 (1, 2))) 1 (some ⟨w.heap.size, 0, none⟩) 1 ([x].map BV) := by
  subst hv
  refine ⟨by simp, fun _ => ⟨w.heap.size, 0, rfl, fun j v hv => ?_⟩⟩
  rw [Nat.zero_add, cell_of_row _ w.heap.size j _ 5 (1, 2) (heap_alloc_new w _)]
  simpa using hv
theorem blk_ne {S : Nat → Prop} {w0 w : World} {L : List Ob} {p : Nat} {a : Asm} (s : St S w0 w (AO p a :: L)) : p < w.heap.size := by
  obtain ⟨P, pc, B, ll, lc, t⟩ := ao_open s
  exact (St.blk0 t).lt
set_option maxHeartbeats 4000000 in
theorem shown_c (w : World) : Calls Try.prog 8 #[] w fun e w' => e = .returned (.bool true) ∧ Below w.heap.size w w' := by
  have hm : Hid (((10 : Nat) : Int) = max 10 0) := by unfold Hid; decide
  go_enter Try.func8, Try.ntmps8
  go_upto_region 4 with (first
    | (go_at_call 9; (with_reducible refine (new_c 10 10 hm.out).mono ?_); rintro e w1 ⟨p, rfl, t1⟩
       have T1 := Lib.hid t1
       clear t1))
  have R1 := Lib.hid (rd_lit1 w1 97 (.int .u8 97) rfl)
  have cv := conv_one (.int .u8 97) w1
  have N1 : Hid (0 < 1 → ∀ a : Addr, some (⟨w1.heap.size, 0, none⟩ : Addr) = some a → a.block ≠ p) := fun _ a h e => by
    injection h with h
    subst h
    have := blk_ne T1.out
    simp only at e
    omega
  go_upto_region 5 with (first
    | (go_at_call 10; (with_reducible refine (s_hd_no (st := 1) (fin := false) (ys := [97]) (T1.out.alloc _) R1.out (by omega) (by omega) N1.out (by omega)).mono ?_); rintro e w2 ⟨rfl, t2⟩
       have T2 := Lib.hid t2
       clear t2))
  obtain ⟨W2, hW2⟩ : ∃ W2, (w2.alloc (.cells #[.int .i64 0, .int .i64 0, .bool false, .bool false, .bool false, .bool false, .slice none 0 0, .int .i64 0, .int .i64 0, .int .i64 0, .bool false, .int .i64 0, .int .u32 0, .slice none 0 0, .int .i64 0, .int .i64 0] 32)).alloc (.cells #[.bool false, .int .u32 0, .int .i64 0] 34) = W2 := ⟨_, rfl⟩
  have t3 := two_gen0 T2.out _ _ W2 hW2
  rw [hW2]
  have T3 := Lib.hid t3
  clear T1 R1 N1 T2 t3 hW2 cv
  have R1 := Lib.hid (rd_lit1 W2 98 (.int .u8 98) rfl)
  have cv := conv_one (.int .u8 98) W2
  have N1 : Hid (0 < 1 → ∀ a : Addr, some (⟨W2.heap.size, 0, none⟩ : Addr) = some a → a.block ≠ p) := fun _ a h e => by
    injection h with h
    subst h
    have := blk_ne T3.out
    simp only at e
    omega
  go_upto_region 6 with (first
    | (go_at_call 10; (with_reducible refine (s_co_yes (st := 1) (fin := false) (ys := [98]) (T3.out.alloc _) R1.out (by omega) (by omega) N1.out (by decide) (by omega) [97, 98] rfl).mono ?_); rintro e w4 ⟨A1, n1, c1, B1, nl1, d1, rfl, hn1, t4⟩
       replace hn1 : n1 = 2 := hn1
       subst hn1
       have T4 := Lib.hid t4
       clear t4))
  obtain ⟨q, hq⟩ : ∃ q, w4.heap.size = q := ⟨_, rfl⟩
  obtain ⟨W4, hW4⟩ : ∃ W4, (w4.alloc (.cells #[.int .i64 1, .int .i64 1, .bool false, .bool true, .bool false, .bool false, .slice A1 2 c1, .int .i64 0, .int .i64 0, .int .i64 0, .bool false, .int .i64 0, .int .u32 0, .slice B1 nl1 d1, .int .i64 0, .int .i64 0] 32)).alloc (.cells #[.bool false, .int .u32 0, .int .i64 0] 34) = W4 := ⟨_, rfl⟩
  have t5 := two_gen T4.out [.int .i64 1, .int .i64 1, .bool false, .bool true, .bool false, .bool false, .slice A1 2 c1, .int .i64 0, .int .i64 0, .int .i64 0, .bool false, .int .i64 0, .int .u32 0, .slice B1 nl1 d1, .int .i64 0, .int .i64 0] [.bool false, .int .u32 0, .int .i64 0] W4 hW4
  rw [hq] at t5
  rw [hW4, hq]
  have T5 := Lib.hid t5
  clear R1 N1 T3 T4 t5 hW4 hq cv
  have HN : Hid (0 < 0 → ∀ a : Addr, (none : Option Addr) = some a → a.block ≠ p) := fun _ a h => by cases h
  have R0 : Hid (∀ w : World, Rd w 1 none 0 (([] : List UInt8).map BV)) := fun w => Rd.nil _ _ _
  go_upto_region 7 with (first
    | (go_at_call 10; (with_reducible refine (s_hd_no (st := 3) (fin := false) (ys := []) T5.out (R0.out _) (by omega) (by omega) HN.out (by omega)).mono ?_); rintro e w6 ⟨rfl, t6⟩
       have T6 := Lib.hid t6
       clear t6))
  obtain ⟨W6, hW6⟩ : ∃ W6, (w6.alloc (.cells #[.int .i64 0, .int .i64 0, .bool false, .bool false, .bool false, .bool false, .slice none 0 0, .int .i64 0, .int .i64 0, .int .i64 0, .bool false, .int .i64 0, .int .u32 0, .slice none 0 0, .int .i64 0, .int .i64 0] 32)).alloc (.cells #[.bool false, .int .u32 0, .int .i64 0] 34) = W6 := ⟨_, rfl⟩
  have t7 := two_gen0 T6.out _ _ W6 hW6
  rw [hW6]
  have T7 := Lib.hid t7
  clear T5 T6 t7 hW6
  go_upto_region 8 with (first
    | (go_at_call 10; (with_reducible refine (s_co_kind (st := 3) (fin := false) (ys := []) T7.out (R0.out _) (by omega) (by omega) HN.out (by decide) (by omega) 0 1 false (by decide)).mono ?_); rintro e w8 ⟨rfl, t8⟩
       have T8 := Lib.hid t8
       clear t8))
  obtain ⟨r, hr⟩ : ∃ r, w8.heap.size = r := ⟨_, rfl⟩
  obtain ⟨W8, hW8⟩ : ∃ W8, (w8.alloc (.cells #[.int .i64 0, .int .i64 0, .bool false, .bool false, .bool false, .bool false, .slice none 0 0, .int .i64 0, .int .i64 0, .int .i64 0, .bool false, .int .i64 0, .int .u32 0, .slice none 0 0, .int .i64 0, .int .i64 0] 32)).alloc (.cells #[.bool true, .int .u32 1, .int .i64 0] 34) = W8 := ⟨_, rfl⟩
  have t9 := two_gen T8.out [.int .i64 0, .int .i64 0, .bool false, .bool false, .bool false, .bool false, .slice none 0 0, .int .i64 0, .int .i64 0, .int .i64 0, .bool false, .int .i64 0, .int .u32 0, .slice none 0 0, .int .i64 0, .int .i64 0] [.bool true, .int .u32 1, .int .i64 0] W8 hW8
  rw [hr] at t9
  rw [hW8, hr]
  have T9 : Hid (St (fun _ => False) w W8 [AO p (.broken 1), SLo 0 5 1 (.slice A1 2 c1) 2 (([97, 98] : List UInt8).map BV), BLo q 32 [.int .i64 1, .int .i64 1, .bool false, .bool true, .bool false, .bool false, .slice A1 2 c1, .int .i64 0, .int .i64 0, .int .i64 0, .bool false, .int .i64 0, .int .u32 0, .slice B1 nl1 d1, .int .i64 0, .int .i64 0], BLo (q + 1) 34 [.bool false, .int .u32 0, .int .i64 0], BLo r 32 [.int .i64 0, .int .i64 0, .bool false, .bool false, .bool false, .bool false, .slice none 0 0, .int .i64 0, .int .i64 0, .int .i64 0, .bool false, .int .i64 0, .int .u32 0, .slice none 0 0, .int .i64 0, .int .i64 0], BLo (r + 1) 34 [.bool true, .int .u32 1, .int .i64 0]]) := Lib.hid t9
  clear T7 T8 t9 hW8 hr HN R0 hm
  obtain ⟨x0, x1, x2, x3, x4, x5, x6, x7, x8, x9, x10, x11, x12, x13, x14, x15⟩ := cells16v (St.blk2 T9.out)
  have xl := (St.blk2 T9.out).lt
  obtain ⟨y0, y1, y2⟩ := cells3v (St.blk5 T9.out)
  have yl := (St.blk5 T9.out).lt
  have hcv := run_conv_bytes (c := c1) (src := 22) (dst := 9) Try.underlying22 Try.underlying5 Try.underlying9 (Rd.of_own (St.own1 T9.out))
  have HB := Lib.hid T9.out.below
  clear x2 x4 x5 x7 x8 x9 x10 x11 x12 x13 x14 x15 T9
  go_wp2
  go_ret
  exact ⟨rfl, HB.out⟩
end Go.Proofs.Ytnflegdoeomhcaa
