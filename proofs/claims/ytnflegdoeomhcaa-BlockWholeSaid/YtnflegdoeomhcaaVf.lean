/- Stage 12: follow. -/
import Derived.Test.YtnflegdoeomhcaaVe
import Derived.Test.YtnflegdoeomhcaaKiF
namespace Go.Proofs.Ytnflegdoeomhcaa
open Go.RowKit Go.Own Go.Frm
set_option linter.unusedVariables false
set_option linter.unusedSimpArgs false
set_option maxRecDepth 100000
/-- a frame with more octets behind its own -/
def more (f : Fm) (ys : List UInt8) : Fm := ⟨f.kind, f.stream, f.fin, f.eh, f.ack, f.prio, f.pay ++ ys, f.flags, f.pad, f.depend, f.excl, f.weight, f.code, f.list, f.last, f.inc⟩
section
variable {S : Nat → Prop} {w0 w : World} {L : List Ob} {p m k : Nat} {f g : Fm} {A B : Option Addr} {c nl d : Nat}
/-- octets are put behind what there is -/
theorem append_a {P : Option Addr} {pc : Nat} {lv : Value} (s : St S w0 w (AoL p (.opened m f k) (.slice P f.pay.length pc) lv L)) (hr : Rd w 1 A g.pay.length (g.pay.map BV)) (hb : f.pay.length + g.pay.length ≤ 1000000) :
    ∃ A4 c4 w4, (Builtin.append_ #[22, 22] 22 #[.slice P f.pay.length pc, .slice A g.pay.length c]).run Try.prog w = .ok (.slice A4 (f.pay.length + g.pay.length) c4) w4 ∧ p < w4.heap.size ∧ (∃ u, w4.cell? ⟨p, 8, none⟩ = some u) ∧ w4.frozen? ⟨p, 8, none⟩ = false ∧
      St S w0 (w4.setCell ⟨p, 8, none⟩ (.slice A4 (f.pay.length + g.pay.length) c4)) (AoL p (.opened m (more f g.pay) k) (.slice A4 (f.pay.length + g.pay.length) c4) lv L) := by
  obtain ⟨v', w4, hrun, h2, h3, h4⟩ := run_append_rd (ty := 22) (c := c) EB12 (show w.ownsRow 0 5 1 (.slice P f.pay.length pc) f.pay.length (f.pay.map BV) from St.own1 s) hr (BV_one _) (by omega) (by unfold maxLen; omega) (Nat.zero_le _)
  obtain ⟨A4, c4, rfl, _⟩ := own_shape h2
  have s2 := St.appended1 s h2 h3 h4
  have hb2 := St.blk0 s2
  have s3 := St.set0 s2 8 (.slice A4 (f.pay.length + g.pay.length) c4)
  refine ⟨A4, c4, w4, hrun, hb2.lt, ⟨_, (hb2.cell 8).trans rfl⟩, hb2.frozen 8, ?_⟩
  have e : (more f g.pay).pay.length = f.pay.length + g.pay.length := by show (f.pay ++ g.pay).length = _; rw [List.length_append]
  have e2 : (more f g.pay).pay.map BV = f.pay.map BV ++ g.pay.map BV := by show (f.pay ++ g.pay).map BV = _; rw [List.map_append]
  unfold AoL
  show St S w0 _ (_ :: SLo 0 5 1 _ (more f g.pay).pay.length ((more f g.pay).pay.map BV) :: L)
  rw [e, e2]
  exact s3
set_option maxHeartbeats 4000000 in
theorem follow_kind (s : St S w0 w (AO p (.opened m f k) :: L)) (hp : Rd w 1 A g.pay.length (g.pay.map BV)) (h1 : g.pay.length ≤ 1000000) (h2 : f.pay.length ≤ 1000000) (h3 : m ≤ 1000000) (hk : k ≤ 32) (hA : 0 < g.pay.length → ∀ a, A = some a → a.block ≠ p) (x1' : (g.kind != 9) = true) : Calls Try.prog 16 #[.pointer (some ⟨p, 0, none⟩), .agg #[.int .i64 g.kind, .int .i64 g.stream, .bool g.fin, .bool g.eh, .bool g.ack, .bool g.prio, .slice A g.pay.length c, .int .i64 g.flags, .int .i64 g.pad, .int .i64 g.depend, .bool g.excl, .int .i64 g.weight, .int .u32 (g.code : Int), .slice B nl d, .int .i64 g.last, .int .i64 g.inc]] w fun e w' => e = .returned (.tuple #[.agg #[.int .i64 0, .int .i64 0, .bool false, .bool false, .bool false, .bool false, .slice none 0 0, .int .i64 0, .int .i64 0, .int .i64 0, .bool false, .int .i64 0, .int .u32 0, .slice none 0 0, .int .i64 0, .int .i64 0], .bool false, .agg #[.bool true, .int .u32 1, .int .i64 0]]) ∧ St S w0 w' (AO p (.broken 1) :: L) := by
  have HS := Lib.hid s
  have HP := Lib.hid hp
  have H1 := Lib.hid h1
  have H2 := Lib.hid h2
  have H3 := Lib.hid h3
  have HK := Lib.hid hk
  have HA := Lib.hid hA
  clear s hp h1 h2 h3 hk hA
  go_enter Try.func16, Try.ntmps16
  go_upto_region 1 with (fail)
  obtain ⟨b, hbs⟩ : ∃ b, w.heap.size = b := ⟨_, rfl⟩
  obtain ⟨W1, hW1⟩ : ∃ W1, ((w.alloc (.cells #[.int .i64 g.kind, .int .i64 g.stream, .bool g.fin, .bool g.eh, .bool g.ack, .bool g.prio, .slice A g.pay.length c, .int .i64 g.flags, .int .i64 g.pad, .int .i64 g.depend, .bool g.excl, .int .i64 g.weight, .int .u32 (g.code : Int), .slice B nl d, .int .i64 g.last, .int .i64 g.inc] 32)).alloc (.cells #[.int .i64 0, .int .i64 0, .bool false, .bool false, .bool false, .bool false, .slice none 0 0, .int .i64 0, .int .i64 0, .int .i64 0, .bool false, .int .i64 0, .int .u32 0, .slice none 0 0, .int .i64 0, .int .i64 0] 32)).alloc (.cells #[.bool false, .int .u32 0, .int .i64 0] 34) = W1 := ⟨_, rfl⟩
  have t1 := St.three HS.out [.int .i64 g.kind, .int .i64 g.stream, .bool g.fin, .bool g.eh, .bool g.ack, .bool g.prio, .slice A g.pay.length c, .int .i64 g.flags, .int .i64 g.pad, .int .i64 g.depend, .bool g.excl, .int .i64 g.weight, .int .u32 (g.code : Int), .slice B nl d, .int .i64 g.last, .int .i64 g.inc] W1 hW1
  rw [hbs] at t1
  rw [hW1, hbs]
  have T1 : Hid (St S w0 W1 (AO p (.opened m f k) :: LC (LB L b [.int .i64 g.kind, .int .i64 g.stream, .bool g.fin, .bool g.eh, .bool g.ack, .bool g.prio, .slice A g.pay.length c, .int .i64 g.flags, .int .i64 g.pad, .int .i64 g.depend, .bool g.excl, .int .i64 g.weight, .int .u32 (g.code : Int), .slice B nl d, .int .i64 g.last, .int .i64 g.inc]) (b + 1))) := t1
  have HP1 := Lib.hid (HP.out.below (below3 _ _ hW1))
  clear hbs hW1 HS t1 HP
  have hbx := (see3 [AO p (.opened m f k)] T1.out).1
  have x0 : W1.cell? ⟨b, 0, none⟩ = some (.int .i64 g.kind) := (hbx.cell 0).trans rfl
  have x1 : W1.cell? ⟨b, 1, none⟩ = some (.int .i64 g.stream) := (hbx.cell 1).trans rfl
  have xl := hbx.lt
  obtain ⟨P, pc, D, ll, lc, t1⟩ := ao_open T1.out
  obtain ⟨⟨hpl, hpf, z0⟩, z2, z3, _⟩ := see_o t1
  clear hbx t1 hpf z0 z2
  go_quiet (fail)
  have t2 := T1.out.drewN nq
  have hp2 := HP1.out.below (below_drewN (Below.refl _ _) nq)
  obtain ⟨W2, hW2⟩ : ∃ W2, W1.drewN nq = W2 := ⟨_, rfl⟩
  rw [hW2] at t2 hp2 ⊢
  have T2 := Lib.hid t2
  have HP2 := Lib.hid hp2
  clear T1 HP1 x0 x1 xl hpl z3 t2 hp2 hW2
  go_wp2_with (first
    | (go_at_call 17; (with_reducible refine (fail_1 T2.out).mono ?_); rintro e W7 ⟨rfl, t7⟩
       have T7 : Hid (St S w0 W7 ([AO p (.broken 1)] ++ LC (LB L b [.int .i64 g.kind, .int .i64 g.stream, .bool g.fin, .bool g.eh, .bool g.ack, .bool g.prio, .slice A g.pay.length c, .int .i64 g.flags, .int .i64 g.pad, .int .i64 g.depend, .bool g.excl, .int .i64 g.weight, .int .u32 (g.code : Int), .slice B nl d, .int .i64 g.last, .int .i64 g.inc]) (b + 1))) := t7
       have HQ1 : Hid (Blk _ (b + 1) 32 zero16) := (see3 _ T7.out).2.1
       have HQ2 : Hid (Blk _ (b + 1 + 1) 34 [.bool false, .int .u32 0, .int .i64 0]) := (see3 _ T7.out).2.2
       clear t7)
    | (with_reducible refine guard_store 32 _ _ ?_
       refine wpList_store_blk rfl rfl 32 _ _ rfl (b + 1) _ rfl rfl HQ1.out info_frame rfl rfl ?_
       intro W8 hb8 hf8
       have HB8 := Lib.hid hb8
       have HF8 := Lib.hid hf8
       clear hb8 hf8)
    | (with_reducible refine guard_store 34 _ _ ?_
       refine wpList_store_blk rfl rfl 34 _ _ rfl (b + 1 + 1) _ rfl rfl (HQ2.out.fr HF8.out (show ¬ (b + 1 + 1 = b + 1) by omega)) info_fault rfl rfl ?_
       intro W9 hb9 hf9
       have HB9 := Lib.hid hb9
       have HF9 := Lib.hid hf9
       clear hb9 hf9))
  obtain ⟨k1, k2⟩ := un3 _ T7.out HB8.out HF8.out HB9.out HF9.out
  exact bodyPost_ret (res_fbf (p := 4) (q := 6) (r := 5) rfl rfl rfl rfl rfl k1 HB9.out) rfl ⟨rfl, k2⟩
set_option maxHeartbeats 4000000 in
theorem follow_stream (s : St S w0 w (AO p (.opened m f k) :: L)) (hp : Rd w 1 A g.pay.length (g.pay.map BV)) (h1 : g.pay.length ≤ 1000000) (h2 : f.pay.length ≤ 1000000) (h3 : m ≤ 1000000) (hk : k ≤ 32) (hA : 0 < g.pay.length → ∀ a, A = some a → a.block ≠ p) (x1' : (g.kind != 9) = false) (x2' : (g.stream != f.stream) = true) : Calls Try.prog 16 #[.pointer (some ⟨p, 0, none⟩), .agg #[.int .i64 g.kind, .int .i64 g.stream, .bool g.fin, .bool g.eh, .bool g.ack, .bool g.prio, .slice A g.pay.length c, .int .i64 g.flags, .int .i64 g.pad, .int .i64 g.depend, .bool g.excl, .int .i64 g.weight, .int .u32 (g.code : Int), .slice B nl d, .int .i64 g.last, .int .i64 g.inc]] w fun e w' => e = .returned (.tuple #[.agg #[.int .i64 0, .int .i64 0, .bool false, .bool false, .bool false, .bool false, .slice none 0 0, .int .i64 0, .int .i64 0, .int .i64 0, .bool false, .int .i64 0, .int .u32 0, .slice none 0 0, .int .i64 0, .int .i64 0], .bool false, .agg #[.bool true, .int .u32 1, .int .i64 0]]) ∧ St S w0 w' (AO p (.broken 1) :: L) := by
  have HS := Lib.hid s
  have HP := Lib.hid hp
  have H1 := Lib.hid h1
  have H2 := Lib.hid h2
  have H3 := Lib.hid h3
  have HK := Lib.hid hk
  have HA := Lib.hid hA
  clear s hp h1 h2 h3 hk hA
  go_enter Try.func16, Try.ntmps16
  go_upto_region 1 with (fail)
  obtain ⟨b, hbs⟩ : ∃ b, w.heap.size = b := ⟨_, rfl⟩
  obtain ⟨W1, hW1⟩ : ∃ W1, ((w.alloc (.cells #[.int .i64 g.kind, .int .i64 g.stream, .bool g.fin, .bool g.eh, .bool g.ack, .bool g.prio, .slice A g.pay.length c, .int .i64 g.flags, .int .i64 g.pad, .int .i64 g.depend, .bool g.excl, .int .i64 g.weight, .int .u32 (g.code : Int), .slice B nl d, .int .i64 g.last, .int .i64 g.inc] 32)).alloc (.cells #[.int .i64 0, .int .i64 0, .bool false, .bool false, .bool false, .bool false, .slice none 0 0, .int .i64 0, .int .i64 0, .int .i64 0, .bool false, .int .i64 0, .int .u32 0, .slice none 0 0, .int .i64 0, .int .i64 0] 32)).alloc (.cells #[.bool false, .int .u32 0, .int .i64 0] 34) = W1 := ⟨_, rfl⟩
  have t1 := St.three HS.out [.int .i64 g.kind, .int .i64 g.stream, .bool g.fin, .bool g.eh, .bool g.ack, .bool g.prio, .slice A g.pay.length c, .int .i64 g.flags, .int .i64 g.pad, .int .i64 g.depend, .bool g.excl, .int .i64 g.weight, .int .u32 (g.code : Int), .slice B nl d, .int .i64 g.last, .int .i64 g.inc] W1 hW1
  rw [hbs] at t1
  rw [hW1, hbs]
  have T1 : Hid (St S w0 W1 (AO p (.opened m f k) :: LC (LB L b [.int .i64 g.kind, .int .i64 g.stream, .bool g.fin, .bool g.eh, .bool g.ack, .bool g.prio, .slice A g.pay.length c, .int .i64 g.flags, .int .i64 g.pad, .int .i64 g.depend, .bool g.excl, .int .i64 g.weight, .int .u32 (g.code : Int), .slice B nl d, .int .i64 g.last, .int .i64 g.inc]) (b + 1))) := t1
  have HP1 := Lib.hid (HP.out.below (below3 _ _ hW1))
  clear hbs hW1 HS t1 HP
  have hbx := (see3 [AO p (.opened m f k)] T1.out).1
  have x0 : W1.cell? ⟨b, 0, none⟩ = some (.int .i64 g.kind) := (hbx.cell 0).trans rfl
  have x1 : W1.cell? ⟨b, 1, none⟩ = some (.int .i64 g.stream) := (hbx.cell 1).trans rfl
  have xl := hbx.lt
  obtain ⟨P, pc, D, ll, lc, t1⟩ := ao_open T1.out
  obtain ⟨⟨hpl, hpf, z0⟩, z2, z3, _⟩ := see_o t1
  clear hbx t1 hpf z0 z2
  go_quiet (fail)
  have t2 := T1.out.drewN nq
  have hp2 := HP1.out.below (below_drewN (Below.refl _ _) nq)
  obtain ⟨W2, hW2⟩ : ∃ W2, W1.drewN nq = W2 := ⟨_, rfl⟩
  rw [hW2] at t2 hp2 ⊢
  have T2 := Lib.hid t2
  have HP2 := Lib.hid hp2
  clear T1 HP1 x0 x1 xl hpl z3 t2 hp2 hW2
  go_wp2_with (first
    | (go_at_call 17; (with_reducible refine (fail_1 T2.out).mono ?_); rintro e W7 ⟨rfl, t7⟩
       have T7 : Hid (St S w0 W7 ([AO p (.broken 1)] ++ LC (LB L b [.int .i64 g.kind, .int .i64 g.stream, .bool g.fin, .bool g.eh, .bool g.ack, .bool g.prio, .slice A g.pay.length c, .int .i64 g.flags, .int .i64 g.pad, .int .i64 g.depend, .bool g.excl, .int .i64 g.weight, .int .u32 (g.code : Int), .slice B nl d, .int .i64 g.last, .int .i64 g.inc]) (b + 1))) := t7
       have HQ1 : Hid (Blk _ (b + 1) 32 zero16) := (see3 _ T7.out).2.1
       have HQ2 : Hid (Blk _ (b + 1 + 1) 34 [.bool false, .int .u32 0, .int .i64 0]) := (see3 _ T7.out).2.2
       clear t7)
    | (with_reducible refine guard_store 32 _ _ ?_
       refine wpList_store_blk rfl rfl 32 _ _ rfl (b + 1) _ rfl rfl HQ1.out info_frame rfl rfl ?_
       intro W8 hb8 hf8
       have HB8 := Lib.hid hb8
       have HF8 := Lib.hid hf8
       clear hb8 hf8)
    | (with_reducible refine guard_store 34 _ _ ?_
       refine wpList_store_blk rfl rfl 34 _ _ rfl (b + 1 + 1) _ rfl rfl (HQ2.out.fr HF8.out (show ¬ (b + 1 + 1 = b + 1) by omega)) info_fault rfl rfl ?_
       intro W9 hb9 hf9
       have HB9 := Lib.hid hb9
       have HF9 := Lib.hid hf9
       clear hb9 hf9))
  obtain ⟨k1, k2⟩ := un3 _ T7.out HB8.out HF8.out HB9.out HF9.out
  exact bodyPost_ret (res_fbf (p := 4) (q := 6) (r := 5) rfl rfl rfl rfl rfl k1 HB9.out) rfl ⟨rfl, k2⟩
set_option maxHeartbeats 4000000 in
theorem follow_many (s : St S w0 w (AO p (.opened m f k) :: L)) (hp : Rd w 1 A g.pay.length (g.pay.map BV)) (h1 : g.pay.length ≤ 1000000) (h2 : f.pay.length ≤ 1000000) (h3 : m ≤ 1000000) (hk : k ≤ 32) (hA : 0 < g.pay.length → ∀ a, A = some a → a.block ≠ p) (x1' : (g.kind != 9) = false) (x2' : (g.stream != f.stream) = false) (x3' : (k : Int) = 32) : Calls Try.prog 16 #[.pointer (some ⟨p, 0, none⟩), .agg #[.int .i64 g.kind, .int .i64 g.stream, .bool g.fin, .bool g.eh, .bool g.ack, .bool g.prio, .slice A g.pay.length c, .int .i64 g.flags, .int .i64 g.pad, .int .i64 g.depend, .bool g.excl, .int .i64 g.weight, .int .u32 (g.code : Int), .slice B nl d, .int .i64 g.last, .int .i64 g.inc]] w fun e w' => e = .returned (.tuple #[.agg #[.int .i64 0, .int .i64 0, .bool false, .bool false, .bool false, .bool false, .slice none 0 0, .int .i64 0, .int .i64 0, .int .i64 0, .bool false, .int .i64 0, .int .u32 0, .slice none 0 0, .int .i64 0, .int .i64 0], .bool false, .agg #[.bool true, .int .u32 11, .int .i64 0]]) ∧ St S w0 w' (AO p (.broken 11) :: L) := by
  have HS := Lib.hid s
  have HP := Lib.hid hp
  have H1 := Lib.hid h1
  have H2 := Lib.hid h2
  have H3 := Lib.hid h3
  have HK := Lib.hid hk
  have HA := Lib.hid hA
  clear s hp h1 h2 h3 hk hA
  go_enter Try.func16, Try.ntmps16
  go_upto_region 1 with (fail)
  obtain ⟨b, hbs⟩ : ∃ b, w.heap.size = b := ⟨_, rfl⟩
  obtain ⟨W1, hW1⟩ : ∃ W1, ((w.alloc (.cells #[.int .i64 g.kind, .int .i64 g.stream, .bool g.fin, .bool g.eh, .bool g.ack, .bool g.prio, .slice A g.pay.length c, .int .i64 g.flags, .int .i64 g.pad, .int .i64 g.depend, .bool g.excl, .int .i64 g.weight, .int .u32 (g.code : Int), .slice B nl d, .int .i64 g.last, .int .i64 g.inc] 32)).alloc (.cells #[.int .i64 0, .int .i64 0, .bool false, .bool false, .bool false, .bool false, .slice none 0 0, .int .i64 0, .int .i64 0, .int .i64 0, .bool false, .int .i64 0, .int .u32 0, .slice none 0 0, .int .i64 0, .int .i64 0] 32)).alloc (.cells #[.bool false, .int .u32 0, .int .i64 0] 34) = W1 := ⟨_, rfl⟩
  have t1 := St.three HS.out [.int .i64 g.kind, .int .i64 g.stream, .bool g.fin, .bool g.eh, .bool g.ack, .bool g.prio, .slice A g.pay.length c, .int .i64 g.flags, .int .i64 g.pad, .int .i64 g.depend, .bool g.excl, .int .i64 g.weight, .int .u32 (g.code : Int), .slice B nl d, .int .i64 g.last, .int .i64 g.inc] W1 hW1
  rw [hbs] at t1
  rw [hW1, hbs]
  have T1 : Hid (St S w0 W1 (AO p (.opened m f k) :: LC (LB L b [.int .i64 g.kind, .int .i64 g.stream, .bool g.fin, .bool g.eh, .bool g.ack, .bool g.prio, .slice A g.pay.length c, .int .i64 g.flags, .int .i64 g.pad, .int .i64 g.depend, .bool g.excl, .int .i64 g.weight, .int .u32 (g.code : Int), .slice B nl d, .int .i64 g.last, .int .i64 g.inc]) (b + 1))) := t1
  have HP1 := Lib.hid (HP.out.below (below3 _ _ hW1))
  clear hbs hW1 HS t1 HP
  have hbx := (see3 [AO p (.opened m f k)] T1.out).1
  have x0 : W1.cell? ⟨b, 0, none⟩ = some (.int .i64 g.kind) := (hbx.cell 0).trans rfl
  have x1 : W1.cell? ⟨b, 1, none⟩ = some (.int .i64 g.stream) := (hbx.cell 1).trans rfl
  have xl := hbx.lt
  obtain ⟨P, pc, D, ll, lc, t1⟩ := ao_open T1.out
  obtain ⟨⟨hpl, hpf, z0⟩, z2, z3, _⟩ := see_o t1
  clear hbx t1 hpf z0 z2
  go_quiet (fail)
  have t2 := T1.out.drewN nq
  have hp2 := HP1.out.below (below_drewN (Below.refl _ _) nq)
  obtain ⟨W2, hW2⟩ : ∃ W2, W1.drewN nq = W2 := ⟨_, rfl⟩
  rw [hW2] at t2 hp2 ⊢
  have T2 := Lib.hid t2
  have HP2 := Lib.hid hp2
  clear T1 HP1 x0 x1 xl hpl z3 t2 hp2 hW2
  obtain ⟨P2, pc2, D2, ll2, lc2, t2⟩ := ao_open T2.out
  obtain ⟨hpl, hpf, z0, _, _, _, _, _, _, _, _, _, _, _, _, _, _, _, _, _, z18, _⟩ := see_a t2
  have y18 : W2.cell? ⟨p, 18, none⟩ = some (.int .i64 32) := by rw [← x3']; exact z18
  clear t2 hpf z0 z18 x3'
  go_wp2_with (first
    | (go_at_call 17; (with_reducible refine (fail_11 T2.out).mono ?_); rintro e W7 ⟨rfl, t7⟩
       have T7 : Hid (St S w0 W7 ([AO p (.broken 11)] ++ LC (LB L b [.int .i64 g.kind, .int .i64 g.stream, .bool g.fin, .bool g.eh, .bool g.ack, .bool g.prio, .slice A g.pay.length c, .int .i64 g.flags, .int .i64 g.pad, .int .i64 g.depend, .bool g.excl, .int .i64 g.weight, .int .u32 (g.code : Int), .slice B nl d, .int .i64 g.last, .int .i64 g.inc]) (b + 1))) := t7
       have HQ1 : Hid (Blk _ (b + 1) 32 zero16) := (see3 _ T7.out).2.1
       have HQ2 : Hid (Blk _ (b + 1 + 1) 34 [.bool false, .int .u32 0, .int .i64 0]) := (see3 _ T7.out).2.2
       clear t7)
    | (with_reducible refine guard_store 32 _ _ ?_
       refine wpList_store_blk rfl rfl 32 _ _ rfl (b + 1) _ rfl rfl HQ1.out info_frame rfl rfl ?_
       intro W8 hb8 hf8
       have HB8 := Lib.hid hb8
       have HF8 := Lib.hid hf8
       clear hb8 hf8)
    | (with_reducible refine guard_store 34 _ _ ?_
       refine wpList_store_blk rfl rfl 34 _ _ rfl (b + 1 + 1) _ rfl rfl (HQ2.out.fr HF8.out (show ¬ (b + 1 + 1 = b + 1) by omega)) info_fault rfl rfl ?_
       intro W9 hb9 hf9
       have HB9 := Lib.hid hb9
       have HF9 := Lib.hid hf9
       clear hb9 hf9))
  obtain ⟨k1, k2⟩ := un3 _ T7.out HB8.out HF8.out HB9.out HF9.out
  exact bodyPost_ret (res_fbf (p := 4) (q := 6) (r := 5) rfl rfl rfl rfl rfl k1 HB9.out) rfl ⟨rfl, k2⟩
set_option maxHeartbeats 4000000 in
theorem follow_long (s : St S w0 w (AO p (.opened m f k) :: L)) (hp : Rd w 1 A g.pay.length (g.pay.map BV)) (h1 : g.pay.length ≤ 1000000) (h2 : f.pay.length ≤ 1000000) (h3 : m ≤ 1000000) (hk : k ≤ 32) (hA : 0 < g.pay.length → ∀ a, A = some a → a.block ≠ p) (x1' : (g.kind != 9) = false) (x2' : (g.stream != f.stream) = false) (x3' : ((k : Int) == 32) = false) (hz : decide ((m : Int) - (f.pay.length : Int) < (g.pay.length : Int)) = true) : Calls Try.prog 16 #[.pointer (some ⟨p, 0, none⟩), .agg #[.int .i64 g.kind, .int .i64 g.stream, .bool g.fin, .bool g.eh, .bool g.ack, .bool g.prio, .slice A g.pay.length c, .int .i64 g.flags, .int .i64 g.pad, .int .i64 g.depend, .bool g.excl, .int .i64 g.weight, .int .u32 (g.code : Int), .slice B nl d, .int .i64 g.last, .int .i64 g.inc]] w fun e w' => e = .returned (.tuple #[.agg #[.int .i64 0, .int .i64 0, .bool false, .bool false, .bool false, .bool false, .slice none 0 0, .int .i64 0, .int .i64 0, .int .i64 0, .bool false, .int .i64 0, .int .u32 0, .slice none 0 0, .int .i64 0, .int .i64 0], .bool false, .agg #[.bool true, .int .u32 11, .int .i64 0]]) ∧ St S w0 w' (AO p (.broken 11) :: L) := by
  have HS := Lib.hid s
  have HP := Lib.hid hp
  have H1 := Lib.hid h1
  have H2 := Lib.hid h2
  have H3 := Lib.hid h3
  have HK := Lib.hid hk
  have HA := Lib.hid hA
  clear s hp h1 h2 h3 hk hA
  go_enter Try.func16, Try.ntmps16
  go_upto_region 1 with (fail)
  obtain ⟨b, hbs⟩ : ∃ b, w.heap.size = b := ⟨_, rfl⟩
  obtain ⟨W1, hW1⟩ : ∃ W1, ((w.alloc (.cells #[.int .i64 g.kind, .int .i64 g.stream, .bool g.fin, .bool g.eh, .bool g.ack, .bool g.prio, .slice A g.pay.length c, .int .i64 g.flags, .int .i64 g.pad, .int .i64 g.depend, .bool g.excl, .int .i64 g.weight, .int .u32 (g.code : Int), .slice B nl d, .int .i64 g.last, .int .i64 g.inc] 32)).alloc (.cells #[.int .i64 0, .int .i64 0, .bool false, .bool false, .bool false, .bool false, .slice none 0 0, .int .i64 0, .int .i64 0, .int .i64 0, .bool false, .int .i64 0, .int .u32 0, .slice none 0 0, .int .i64 0, .int .i64 0] 32)).alloc (.cells #[.bool false, .int .u32 0, .int .i64 0] 34) = W1 := ⟨_, rfl⟩
  have t1 := St.three HS.out [.int .i64 g.kind, .int .i64 g.stream, .bool g.fin, .bool g.eh, .bool g.ack, .bool g.prio, .slice A g.pay.length c, .int .i64 g.flags, .int .i64 g.pad, .int .i64 g.depend, .bool g.excl, .int .i64 g.weight, .int .u32 (g.code : Int), .slice B nl d, .int .i64 g.last, .int .i64 g.inc] W1 hW1
  rw [hbs] at t1
  rw [hW1, hbs]
  have T1 : Hid (St S w0 W1 (AO p (.opened m f k) :: LC (LB L b [.int .i64 g.kind, .int .i64 g.stream, .bool g.fin, .bool g.eh, .bool g.ack, .bool g.prio, .slice A g.pay.length c, .int .i64 g.flags, .int .i64 g.pad, .int .i64 g.depend, .bool g.excl, .int .i64 g.weight, .int .u32 (g.code : Int), .slice B nl d, .int .i64 g.last, .int .i64 g.inc]) (b + 1))) := t1
  have HP1 := Lib.hid (HP.out.below (below3 _ _ hW1))
  clear hbs hW1 HS t1 HP
  have hbx := (see3 [AO p (.opened m f k)] T1.out).1
  have x0 : W1.cell? ⟨b, 0, none⟩ = some (.int .i64 g.kind) := (hbx.cell 0).trans rfl
  have x1 : W1.cell? ⟨b, 1, none⟩ = some (.int .i64 g.stream) := (hbx.cell 1).trans rfl
  have xl := hbx.lt
  obtain ⟨P, pc, D, ll, lc, t1⟩ := ao_open T1.out
  obtain ⟨⟨hpl, hpf, z0⟩, z2, z3, _⟩ := see_o t1
  clear hbx t1 hpf z0 z2
  go_quiet (fail)
  have t2 := T1.out.drewN nq
  have hp2 := HP1.out.below (below_drewN (Below.refl _ _) nq)
  obtain ⟨W2, hW2⟩ : ∃ W2, W1.drewN nq = W2 := ⟨_, rfl⟩
  rw [hW2] at t2 hp2 ⊢
  have T2 := Lib.hid t2
  have HP2 := Lib.hid hp2
  clear T1 HP1 x0 x1 xl hpl z3 t2 hp2 hW2
  obtain ⟨P2, pc2, D2, ll2, lc2, t2⟩ := ao_open T2.out
  obtain ⟨hpl, hpf, z0, _, _, _, _, _, _, _, _, _, _, _, _, _, _, _, _, _, z18, _⟩ := see_a t2
  have y18 : W2.cell? ⟨p, 18, none⟩ = some (.int .i64 (k : Int)) := z18
  have HM : Hid (decide (((Asm.opened m f k).most : Int) - ((Asm.opened m f k).f.pay.length : Int) < (g.pay.length : Int)) = true) := hz
  have HM1 : Hid ((Asm.opened m f k).most ≤ 1000000 ∧ (Asm.opened m f k).f.pay.length ≤ 1000000) := ⟨H3.out, H2.out⟩
  have hbx := (see3 [AO p (.opened m f k)] T2.out).1
  have x6 : W2.cell? ⟨b, 6, none⟩ = some (.slice A g.pay.length c) := (hbx.cell 6).trans rfl
  have xl := hbx.lt
  clear t2 hpf z0 z18 hz hbx
  go_wp2_with (first
    | (go_at_call 20; (with_reducible refine (tooMuch_c T2.out _ _ _ true HM1.out.1 HM1.out.2 H1.out HM.out).mono ?_); rintro e W3 ⟨rfl, q, hq⟩
       have t3 := T2.out.drewN q
       rw [← hq] at t3
       have hp3 := HP2.out.below (below_drewN (Below.refl _ _) q)
       rw [← hq] at hp3
       have T3 := Lib.hid t3
       have HP3 := Lib.hid hp3
       clear hq t3 hp3 x6 xl y18 hpl)
    | (go_at_call 17; (with_reducible refine (fail_11 T3.out).mono ?_); rintro e W7 ⟨rfl, t7⟩
       have T7 : Hid (St S w0 W7 ([AO p (.broken 11)] ++ LC (LB L b [.int .i64 g.kind, .int .i64 g.stream, .bool g.fin, .bool g.eh, .bool g.ack, .bool g.prio, .slice A g.pay.length c, .int .i64 g.flags, .int .i64 g.pad, .int .i64 g.depend, .bool g.excl, .int .i64 g.weight, .int .u32 (g.code : Int), .slice B nl d, .int .i64 g.last, .int .i64 g.inc]) (b + 1))) := t7
       have HQ1 : Hid (Blk _ (b + 1) 32 zero16) := (see3 _ T7.out).2.1
       have HQ2 : Hid (Blk _ (b + 1 + 1) 34 [.bool false, .int .u32 0, .int .i64 0]) := (see3 _ T7.out).2.2
       clear t7)
    | (with_reducible refine guard_store 32 _ _ ?_
       refine wpList_store_blk rfl rfl 32 _ _ rfl (b + 1) _ rfl rfl HQ1.out info_frame rfl rfl ?_
       intro W8 hb8 hf8
       have HB8 := Lib.hid hb8
       have HF8 := Lib.hid hf8
       clear hb8 hf8)
    | (with_reducible refine guard_store 34 _ _ ?_
       refine wpList_store_blk rfl rfl 34 _ _ rfl (b + 1 + 1) _ rfl rfl (HQ2.out.fr HF8.out (show ¬ (b + 1 + 1 = b + 1) by omega)) info_fault rfl rfl ?_
       intro W9 hb9 hf9
       have HB9 := Lib.hid hb9
       have HF9 := Lib.hid hf9
       clear hb9 hf9))
  obtain ⟨k1, k2⟩ := un3 _ T7.out HB8.out HF8.out HB9.out HF9.out
  exact bodyPost_ret (res_fbf (p := 4) (q := 6) (r := 5) rfl rfl rfl rfl rfl k1 HB9.out) rfl ⟨rfl, k2⟩
set_option maxHeartbeats 4000000 in
theorem follow_no (s : St S w0 w (AO p (.opened m f k) :: L)) (hp : Rd w 1 A g.pay.length (g.pay.map BV)) (h1 : g.pay.length ≤ 1000000) (h2 : f.pay.length ≤ 1000000) (h3 : m ≤ 1000000) (hk : k ≤ 32) (hA : 0 < g.pay.length → ∀ a, A = some a → a.block ≠ p) (x1' : (g.kind != 9) = false) (x2' : (g.stream != f.stream) = false) (x3' : ((k : Int) == 32) = false) (hz : decide ((m : Int) - (f.pay.length : Int) < (g.pay.length : Int)) = false) (he : g.eh = false) (f' : Fm) (hf' : more f g.pay = f') : Calls Try.prog 16 #[.pointer (some ⟨p, 0, none⟩), .agg #[.int .i64 g.kind, .int .i64 g.stream, .bool g.fin, .bool g.eh, .bool g.ack, .bool g.prio, .slice A g.pay.length c, .int .i64 g.flags, .int .i64 g.pad, .int .i64 g.depend, .bool g.excl, .int .i64 g.weight, .int .u32 (g.code : Int), .slice B nl d, .int .i64 g.last, .int .i64 g.inc]] w fun e w' => e = .returned (.tuple #[.agg #[.int .i64 0, .int .i64 0, .bool false, .bool false, .bool false, .bool false, .slice none 0 0, .int .i64 0, .int .i64 0, .int .i64 0, .bool false, .int .i64 0, .int .u32 0, .slice none 0 0, .int .i64 0, .int .i64 0], .bool false, .agg #[.bool false, .int .u32 0, .int .i64 0]]) ∧ St S w0 w' (AO p (.opened m f' (k + 1)) :: L) := by
  have HE := Lib.hid he
  have HF' := Lib.hid hf'
  clear he hf'
  have HS := Lib.hid s
  have HP := Lib.hid hp
  have H1 := Lib.hid h1
  have H2 := Lib.hid h2
  have H3 := Lib.hid h3
  have HK := Lib.hid hk
  have HA := Lib.hid hA
  clear s hp h1 h2 h3 hk hA
  go_enter Try.func16, Try.ntmps16
  go_upto_region 1 with (fail)
  obtain ⟨b, hbs⟩ : ∃ b, w.heap.size = b := ⟨_, rfl⟩
  obtain ⟨W1, hW1⟩ : ∃ W1, ((w.alloc (.cells #[.int .i64 g.kind, .int .i64 g.stream, .bool g.fin, .bool g.eh, .bool g.ack, .bool g.prio, .slice A g.pay.length c, .int .i64 g.flags, .int .i64 g.pad, .int .i64 g.depend, .bool g.excl, .int .i64 g.weight, .int .u32 (g.code : Int), .slice B nl d, .int .i64 g.last, .int .i64 g.inc] 32)).alloc (.cells #[.int .i64 0, .int .i64 0, .bool false, .bool false, .bool false, .bool false, .slice none 0 0, .int .i64 0, .int .i64 0, .int .i64 0, .bool false, .int .i64 0, .int .u32 0, .slice none 0 0, .int .i64 0, .int .i64 0] 32)).alloc (.cells #[.bool false, .int .u32 0, .int .i64 0] 34) = W1 := ⟨_, rfl⟩
  have t1 := St.three HS.out [.int .i64 g.kind, .int .i64 g.stream, .bool g.fin, .bool g.eh, .bool g.ack, .bool g.prio, .slice A g.pay.length c, .int .i64 g.flags, .int .i64 g.pad, .int .i64 g.depend, .bool g.excl, .int .i64 g.weight, .int .u32 (g.code : Int), .slice B nl d, .int .i64 g.last, .int .i64 g.inc] W1 hW1
  rw [hbs] at t1
  rw [hW1, hbs]
  have T1 : Hid (St S w0 W1 (AO p (.opened m f k) :: LC (LB L b [.int .i64 g.kind, .int .i64 g.stream, .bool g.fin, .bool g.eh, .bool g.ack, .bool g.prio, .slice A g.pay.length c, .int .i64 g.flags, .int .i64 g.pad, .int .i64 g.depend, .bool g.excl, .int .i64 g.weight, .int .u32 (g.code : Int), .slice B nl d, .int .i64 g.last, .int .i64 g.inc]) (b + 1))) := t1
  have HP1 := Lib.hid (HP.out.below (below3 _ _ hW1))
  clear hbs hW1 HS t1 HP
  have hbx := (see3 [AO p (.opened m f k)] T1.out).1
  have x0 : W1.cell? ⟨b, 0, none⟩ = some (.int .i64 g.kind) := (hbx.cell 0).trans rfl
  have x1 : W1.cell? ⟨b, 1, none⟩ = some (.int .i64 g.stream) := (hbx.cell 1).trans rfl
  have xl := hbx.lt
  obtain ⟨P, pc, D, ll, lc, t1⟩ := ao_open T1.out
  obtain ⟨⟨hpl, hpf, z0⟩, z2, z3, _⟩ := see_o t1
  clear hbx t1 hpf z0 z2
  go_quiet (fail)
  have t2 := T1.out.drewN nq
  have hp2 := HP1.out.below (below_drewN (Below.refl _ _) nq)
  obtain ⟨W2, hW2⟩ : ∃ W2, W1.drewN nq = W2 := ⟨_, rfl⟩
  rw [hW2] at t2 hp2 ⊢
  have T2 := Lib.hid t2
  have HP2 := Lib.hid hp2
  clear T1 HP1 x0 x1 xl hpl z3 t2 hp2 hW2
  obtain ⟨P2, pc2, D2, ll2, lc2, t2⟩ := ao_open T2.out
  obtain ⟨hpl, hpf, z0, _, _, _, _, _, _, _, _, _, _, _, _, _, _, _, _, _, z18, _⟩ := see_a t2
  have y18 : W2.cell? ⟨p, 18, none⟩ = some (.int .i64 (k : Int)) := z18
  have HM : Hid (decide (((Asm.opened m f k).most : Int) - ((Asm.opened m f k).f.pay.length : Int) < (g.pay.length : Int)) = false) := hz
  have HM1 : Hid ((Asm.opened m f k).most ≤ 1000000 ∧ (Asm.opened m f k).f.pay.length ≤ 1000000) := ⟨H3.out, H2.out⟩
  have hbx := (see3 [AO p (.opened m f k)] T2.out).1
  have x6 : W2.cell? ⟨b, 6, none⟩ = some (.slice A g.pay.length c) := (hbx.cell 6).trans rfl
  have xl := hbx.lt
  clear t2 hpf z0 z18 hz hbx
  go_upto_region 5 with (first
    | (go_at_call 20; (with_reducible refine (tooMuch_c T2.out _ _ _ false HM1.out.1 HM1.out.2 H1.out HM.out).mono ?_); rintro e W3 ⟨rfl, q, hq⟩
       have t3 := T2.out.drewN q
       rw [← hq] at t3
       have hp3 := HP2.out.below (below_drewN (Below.refl _ _) q)
       rw [← hq] at hp3
       have T3 := Lib.hid t3
       have HP3 := Lib.hid hp3
       clear hq t3 hp3 x6 xl y18 hpl))
  obtain ⟨P3, pc3, D3, ll3, lc3, t3⟩ := ao_open T3.out
  obtain ⟨hpl, hpf0, z0, _, _, _, _, _, _, _, _, _, _, _, _, _, _, _, _, _, z18, _⟩ := see_a t3
  have y18 : W3.cell? ⟨p, 18, none⟩ = some (.int .i64 (k : Int)) := z18
  have hpf := hpf0 18
  have e18 : IntKind.i64.wrap ((k : Int) + 1) = (k : Int) + 1 := by have := HK.out; rw [IntKind.wrap_i64]; omega
  have t4 : St S w0 (W3.setCell ⟨p, 18, none⟩ (.int .i64 ((k : Int) + 1))) (AoL p (.opened m f (k + 1)) (.slice P3 f.pay.length pc3) (.slice D3 ll3 lc3) (LC (LB L b [.int .i64 g.kind, .int .i64 g.stream, .bool g.fin, .bool g.eh, .bool g.ack, .bool g.prio, .slice A g.pay.length c, .int .i64 g.flags, .int .i64 g.pad, .int .i64 g.depend, .bool g.excl, .int .i64 g.weight, .int .u32 (g.code : Int), .slice B nl d, .int .i64 g.last, .int .i64 g.inc]) (b + 1))) := St.set0 t3 18 (.int .i64 ((k : Int) + 1))
  have hf4 : Fr (· = p) W3 (W3.setCell ⟨p, 18, none⟩ (.int .i64 ((k : Int) + 1))) := Fr.setCell (S := (· = p)) (Fr.refl _ _) (p := ⟨p, 18, none⟩) (.inl rfl) _
  have hp4 := HP3.out.fr0 hf4 (fun h0 a ha h => HA.out h0 a ha h)
  clear T2 HP2 T3 HP3 t3 hpf0 z0 z18 hf4
  go_upto_region 6 with (fail)
  obtain ⟨W4, hW4⟩ : ∃ W4, W3.setCell ⟨p, 18, none⟩ (.int .i64 ((k : Int) + 1)) = W4 := ⟨_, rfl⟩
  rw [hW4] at t4 hp4 ⊢
  have T4 := Lib.hid t4
  obtain ⟨A5, c5, W5, hrun, u1, ⟨uv, u2⟩, u3, t6⟩ := append_a (c := c) t4.drew hp4 (by
    have h1 := H3.out
    have h2 := HM.out
    have h3 : ¬ ((m : Int) - (f.pay.length : Int) < (g.pay.length : Int)) := of_decide_eq_false h2
    omega)
  have HRun := Lib.hid hrun
  rw [HF'.out] at t6
  have T6 := Lib.hid (ao_close t6)
  obtain ⟨⟨hpl4, _, _⟩, v2, v3, v4, v5, v6, v7, v8, _⟩ := see_o t4
  have hbx := (see3 [BLo p 50 _, SLo 0 5 1 _ f.pay.length (f.pay.map BV)] t4).1
  have x6 : W4.cell? ⟨b, 6, none⟩ = some (.slice A g.pay.length c) := (hbx.cell 6).trans rfl
  have xl := hbx.lt
  clear y18 hpf e18 t4 hp4 hW4 hpl hrun t6 v2 v3 v4 v5 v6 v7 hbx T4
  go_region_law (refine step_app_run rfl (.tmp 55) (.tmp 57) 22 22 rfl _ _ (by simp [Act.eval, Act.put]) (by simp [Act.eval, Act.put]) HRun.out ?_)
  all_goals
    clear v8 x6 xl hpl4 u1 u2 u3
    obtain ⟨W6, hW6⟩ : ∃ W6, W5.setCell ⟨p, 8, none⟩ (.slice A5 (f.pay.length + g.pay.length) c5) = W6 := ⟨_, rfl⟩
    rw [hW6] at T6 ⊢
    have hbx := (see3 [AO p (.opened m f' (k + 1))] T6.out).1
    have x3 : W6.cell? ⟨b, 3, none⟩ = some (.bool g.eh) := (hbx.cell 3).trans rfl
    have xl := hbx.lt
    clear hbx hW6
    go_wp2_with (first
    | (go_at_call 21; (with_reducible refine (told_no' T6.out _ HE.out).mono ?_); rintro e W7 ⟨rfl, t7⟩
       have T7 : Hid (St S w0 W7 ([AO p (.opened m f' (k + 1))] ++ LC (LB L b [.int .i64 g.kind, .int .i64 g.stream, .bool g.fin, .bool g.eh, .bool g.ack, .bool g.prio, .slice A g.pay.length c, .int .i64 g.flags, .int .i64 g.pad, .int .i64 g.depend, .bool g.excl, .int .i64 g.weight, .int .u32 (g.code : Int), .slice B nl d, .int .i64 g.last, .int .i64 g.inc]) (b + 1))) := t7
       have HQ1 : Hid (Blk _ (b + 1) 32 zero16) := (see3 _ T7.out).2.1
       have HQ2 : Hid (Blk _ (b + 1 + 1) 34 [.bool false, .int .u32 0, .int .i64 0]) := (see3 _ T7.out).2.2
       clear t7)
    | (with_reducible refine guard_store 32 _ _ ?_
       refine wpList_store_blk rfl rfl 32 _ _ rfl (b + 1) _ rfl rfl HQ1.out info_frame rfl rfl ?_
       intro W8 hb8 hf8
       have HB8 := Lib.hid hb8
       have HF8 := Lib.hid hf8
       clear hb8 hf8)
    | (with_reducible refine guard_store 34 _ _ ?_
       refine wpList_store_blk rfl rfl 34 _ _ rfl (b + 1 + 1) _ rfl rfl (HQ2.out.fr HF8.out (show ¬ (b + 1 + 1 = b + 1) by omega)) info_fault rfl rfl ?_
       intro W9 hb9 hf9
       have HB9 := Lib.hid hb9
       have HF9 := Lib.hid hf9
       clear hb9 hf9))
    obtain ⟨k1, k2⟩ := un3 _ T7.out HB8.out HF8.out HB9.out HF9.out
    exact bodyPost_ret (res_fbf (p := 4) (q := 6) (r := 5) rfl rfl rfl rfl rfl k1 HB9.out) rfl ⟨rfl, k2⟩
set_option maxHeartbeats 4000000 in
theorem follow_yes (s : St S w0 w (AO p (.opened m f k) :: L)) (hp : Rd w 1 A g.pay.length (g.pay.map BV)) (h1 : g.pay.length ≤ 1000000) (h2 : f.pay.length ≤ 1000000) (h3 : m ≤ 1000000) (hk : k ≤ 32) (hA : 0 < g.pay.length → ∀ a, A = some a → a.block ≠ p) (x1' : (g.kind != 9) = false) (x2' : (g.stream != f.stream) = false) (x3' : ((k : Int) == 32) = false) (hz : decide ((m : Int) - (f.pay.length : Int) < (g.pay.length : Int)) = false) (he : g.eh = true) (f' : Fm) (hf' : more f g.pay = f') : Calls Try.prog 16 #[.pointer (some ⟨p, 0, none⟩), .agg #[.int .i64 g.kind, .int .i64 g.stream, .bool g.fin, .bool g.eh, .bool g.ack, .bool g.prio, .slice A g.pay.length c, .int .i64 g.flags, .int .i64 g.pad, .int .i64 g.depend, .bool g.excl, .int .i64 g.weight, .int .u32 (g.code : Int), .slice B nl d, .int .i64 g.last, .int .i64 g.inc]] w fun e w' => ∃ A' c' B' n' d', e = .returned (.tuple #[.agg #[.int .i64 f'.kind, .int .i64 f'.stream, .bool f'.fin, .bool true, .bool f'.ack, .bool f'.prio, .slice A' f'.pay.length c', .int .i64 f'.flags, .int .i64 f'.pad, .int .i64 f'.depend, .bool f'.excl, .int .i64 f'.weight, .int .u32 (f'.code : Int), .slice B' n' d', .int .i64 f'.last, .int .i64 f'.inc], .bool true, .agg #[.bool false, .int .u32 0, .int .i64 0]]) ∧ St S w0 w' (AO p (.idle m) :: SLo 0 5 1 (.slice A' f'.pay.length c') f'.pay.length (f'.pay.map BV) :: L) := by
  have HE := Lib.hid he
  have HF' := Lib.hid hf'
  clear he hf'
  have HS := Lib.hid s
  have HP := Lib.hid hp
  have H1 := Lib.hid h1
  have H2 := Lib.hid h2
  have H3 := Lib.hid h3
  have HK := Lib.hid hk
  have HA := Lib.hid hA
  clear s hp h1 h2 h3 hk hA
  go_enter Try.func16, Try.ntmps16
  go_upto_region 1 with (fail)
  obtain ⟨b, hbs⟩ : ∃ b, w.heap.size = b := ⟨_, rfl⟩
  obtain ⟨W1, hW1⟩ : ∃ W1, ((w.alloc (.cells #[.int .i64 g.kind, .int .i64 g.stream, .bool g.fin, .bool g.eh, .bool g.ack, .bool g.prio, .slice A g.pay.length c, .int .i64 g.flags, .int .i64 g.pad, .int .i64 g.depend, .bool g.excl, .int .i64 g.weight, .int .u32 (g.code : Int), .slice B nl d, .int .i64 g.last, .int .i64 g.inc] 32)).alloc (.cells #[.int .i64 0, .int .i64 0, .bool false, .bool false, .bool false, .bool false, .slice none 0 0, .int .i64 0, .int .i64 0, .int .i64 0, .bool false, .int .i64 0, .int .u32 0, .slice none 0 0, .int .i64 0, .int .i64 0] 32)).alloc (.cells #[.bool false, .int .u32 0, .int .i64 0] 34) = W1 := ⟨_, rfl⟩
  have t1 := St.three HS.out [.int .i64 g.kind, .int .i64 g.stream, .bool g.fin, .bool g.eh, .bool g.ack, .bool g.prio, .slice A g.pay.length c, .int .i64 g.flags, .int .i64 g.pad, .int .i64 g.depend, .bool g.excl, .int .i64 g.weight, .int .u32 (g.code : Int), .slice B nl d, .int .i64 g.last, .int .i64 g.inc] W1 hW1
  rw [hbs] at t1
  rw [hW1, hbs]
  have T1 : Hid (St S w0 W1 (AO p (.opened m f k) :: LC (LB L b [.int .i64 g.kind, .int .i64 g.stream, .bool g.fin, .bool g.eh, .bool g.ack, .bool g.prio, .slice A g.pay.length c, .int .i64 g.flags, .int .i64 g.pad, .int .i64 g.depend, .bool g.excl, .int .i64 g.weight, .int .u32 (g.code : Int), .slice B nl d, .int .i64 g.last, .int .i64 g.inc]) (b + 1))) := t1
  have HP1 := Lib.hid (HP.out.below (below3 _ _ hW1))
  clear hbs hW1 HS t1 HP
  have hbx := (see3 [AO p (.opened m f k)] T1.out).1
  have x0 : W1.cell? ⟨b, 0, none⟩ = some (.int .i64 g.kind) := (hbx.cell 0).trans rfl
  have x1 : W1.cell? ⟨b, 1, none⟩ = some (.int .i64 g.stream) := (hbx.cell 1).trans rfl
  have xl := hbx.lt
  obtain ⟨P, pc, D, ll, lc, t1⟩ := ao_open T1.out
  obtain ⟨⟨hpl, hpf, z0⟩, z2, z3, _⟩ := see_o t1
  clear hbx t1 hpf z0 z2
  go_quiet (fail)
  have t2 := T1.out.drewN nq
  have hp2 := HP1.out.below (below_drewN (Below.refl _ _) nq)
  obtain ⟨W2, hW2⟩ : ∃ W2, W1.drewN nq = W2 := ⟨_, rfl⟩
  rw [hW2] at t2 hp2 ⊢
  have T2 := Lib.hid t2
  have HP2 := Lib.hid hp2
  clear T1 HP1 x0 x1 xl hpl z3 t2 hp2 hW2
  obtain ⟨P2, pc2, D2, ll2, lc2, t2⟩ := ao_open T2.out
  obtain ⟨hpl, hpf, z0, _, _, _, _, _, _, _, _, _, _, _, _, _, _, _, _, _, z18, _⟩ := see_a t2
  have y18 : W2.cell? ⟨p, 18, none⟩ = some (.int .i64 (k : Int)) := z18
  have HM : Hid (decide (((Asm.opened m f k).most : Int) - ((Asm.opened m f k).f.pay.length : Int) < (g.pay.length : Int)) = false) := hz
  have HM1 : Hid ((Asm.opened m f k).most ≤ 1000000 ∧ (Asm.opened m f k).f.pay.length ≤ 1000000) := ⟨H3.out, H2.out⟩
  have hbx := (see3 [AO p (.opened m f k)] T2.out).1
  have x6 : W2.cell? ⟨b, 6, none⟩ = some (.slice A g.pay.length c) := (hbx.cell 6).trans rfl
  have xl := hbx.lt
  clear t2 hpf z0 z18 hz hbx
  go_upto_region 5 with (first
    | (go_at_call 20; (with_reducible refine (tooMuch_c T2.out _ _ _ false HM1.out.1 HM1.out.2 H1.out HM.out).mono ?_); rintro e W3 ⟨rfl, q, hq⟩
       have t3 := T2.out.drewN q
       rw [← hq] at t3
       have hp3 := HP2.out.below (below_drewN (Below.refl _ _) q)
       rw [← hq] at hp3
       have T3 := Lib.hid t3
       have HP3 := Lib.hid hp3
       clear hq t3 hp3 x6 xl y18 hpl))
  obtain ⟨P3, pc3, D3, ll3, lc3, t3⟩ := ao_open T3.out
  obtain ⟨hpl, hpf0, z0, _, _, _, _, _, _, _, _, _, _, _, _, _, _, _, _, _, z18, _⟩ := see_a t3
  have y18 : W3.cell? ⟨p, 18, none⟩ = some (.int .i64 (k : Int)) := z18
  have hpf := hpf0 18
  have e18 : IntKind.i64.wrap ((k : Int) + 1) = (k : Int) + 1 := by have := HK.out; rw [IntKind.wrap_i64]; omega
  have t4 : St S w0 (W3.setCell ⟨p, 18, none⟩ (.int .i64 ((k : Int) + 1))) (AoL p (.opened m f (k + 1)) (.slice P3 f.pay.length pc3) (.slice D3 ll3 lc3) (LC (LB L b [.int .i64 g.kind, .int .i64 g.stream, .bool g.fin, .bool g.eh, .bool g.ack, .bool g.prio, .slice A g.pay.length c, .int .i64 g.flags, .int .i64 g.pad, .int .i64 g.depend, .bool g.excl, .int .i64 g.weight, .int .u32 (g.code : Int), .slice B nl d, .int .i64 g.last, .int .i64 g.inc]) (b + 1))) := St.set0 t3 18 (.int .i64 ((k : Int) + 1))
  have hf4 : Fr (· = p) W3 (W3.setCell ⟨p, 18, none⟩ (.int .i64 ((k : Int) + 1))) := Fr.setCell (S := (· = p)) (Fr.refl _ _) (p := ⟨p, 18, none⟩) (.inl rfl) _
  have hp4 := HP3.out.fr0 hf4 (fun h0 a ha h => HA.out h0 a ha h)
  clear T2 HP2 T3 HP3 t3 hpf0 z0 z18 hf4
  go_upto_region 6 with (fail)
  obtain ⟨W4, hW4⟩ : ∃ W4, W3.setCell ⟨p, 18, none⟩ (.int .i64 ((k : Int) + 1)) = W4 := ⟨_, rfl⟩
  rw [hW4] at t4 hp4 ⊢
  have T4 := Lib.hid t4
  obtain ⟨A5, c5, W5, hrun, u1, ⟨uv, u2⟩, u3, t6⟩ := append_a (c := c) t4.drew hp4 (by
    have h1 := H3.out
    have h2 := HM.out
    have h3 : ¬ ((m : Int) - (f.pay.length : Int) < (g.pay.length : Int)) := of_decide_eq_false h2
    omega)
  have HRun := Lib.hid hrun
  rw [HF'.out] at t6
  have T6 := Lib.hid (ao_close t6)
  obtain ⟨⟨hpl4, _, _⟩, v2, v3, v4, v5, v6, v7, v8, _⟩ := see_o t4
  have hbx := (see3 [BLo p 50 _, SLo 0 5 1 _ f.pay.length (f.pay.map BV)] t4).1
  have x6 : W4.cell? ⟨b, 6, none⟩ = some (.slice A g.pay.length c) := (hbx.cell 6).trans rfl
  have xl := hbx.lt
  clear y18 hpf e18 t4 hp4 hW4 hpl hrun t6 v2 v3 v4 v5 v6 v7 hbx T4
  go_region_law (refine step_app_run rfl (.tmp 55) (.tmp 57) 22 22 rfl _ _ (by simp [Act.eval, Act.put]) (by simp [Act.eval, Act.put]) HRun.out ?_)
  all_goals
    clear v8 x6 xl hpl4 u1 u2 u3
    obtain ⟨W6, hW6⟩ : ∃ W6, W5.setCell ⟨p, 8, none⟩ (.slice A5 (f.pay.length + g.pay.length) c5) = W6 := ⟨_, rfl⟩
    rw [hW6] at T6 ⊢
    have hbx := (see3 [AO p (.opened m f' (k + 1))] T6.out).1
    have x3 : W6.cell? ⟨b, 3, none⟩ = some (.bool g.eh) := (hbx.cell 3).trans rfl
    have xl := hbx.lt
    clear hbx hW6
    go_wp2_with (first
    | (go_at_call 21; (with_reducible refine (told_yes' T6.out _ HE.out).mono ?_); rintro e W7 ⟨A2, c2, B2, n2, d2, rfl, t7⟩
       have T7 : Hid (St S w0 W7 ([AO p (.idle m), SLo 0 5 1 (.slice A2 f'.pay.length c2) f'.pay.length (f'.pay.map BV)] ++ LC (LB L b [.int .i64 g.kind, .int .i64 g.stream, .bool g.fin, .bool g.eh, .bool g.ack, .bool g.prio, .slice A g.pay.length c, .int .i64 g.flags, .int .i64 g.pad, .int .i64 g.depend, .bool g.excl, .int .i64 g.weight, .int .u32 (g.code : Int), .slice B nl d, .int .i64 g.last, .int .i64 g.inc]) (b + 1))) := t7
       have HQ1 : Hid (Blk _ (b + 1) 32 zero16) := (see3 _ T7.out).2.1
       have HQ2 : Hid (Blk _ (b + 1 + 1) 34 [.bool false, .int .u32 0, .int .i64 0]) := (see3 _ T7.out).2.2
       clear t7)
    | (with_reducible refine guard_store 32 _ _ ?_
       refine wpList_store_blk rfl rfl 32 _ _ rfl (b + 1) _ rfl rfl HQ1.out info_frame rfl rfl ?_
       intro W8 hb8 hf8
       have HB8 := Lib.hid hb8
       have HF8 := Lib.hid hf8
       clear hb8 hf8)
    | (with_reducible refine guard_store 34 _ _ ?_
       refine wpList_store_blk rfl rfl 34 _ _ rfl (b + 1 + 1) _ rfl rfl (HQ2.out.fr HF8.out (show ¬ (b + 1 + 1 = b + 1) by omega)) info_fault rfl rfl ?_
       intro W9 hb9 hf9
       have HB9 := Lib.hid hb9
       have HF9 := Lib.hid hf9
       clear hb9 hf9))
    obtain ⟨k1, k2⟩ := un3 _ T7.out HB8.out HF8.out HB9.out HF9.out
    exact bodyPost_ret (res_fbf (p := 4) (q := 6) (r := 5) rfl rfl rfl rfl rfl k1 HB9.out) rfl ⟨_, _, _, _, _, rfl, k2⟩
end
end Go.Proofs.Ytnflegdoeomhcaa
