/- Stage 12: Step. -/
import Derived.Test.YtnflegdoeomhcaaVf
namespace Go.Proofs.Ytnflegdoeomhcaa
open Go.RowKit Go.Own Go.Frm
set_option linter.unusedVariables false
set_option linter.unusedSimpArgs false
set_option maxRecDepth 100000
theorem sep_swap12 {w : World} {L1 L2 M : List Ob} {T : Nat → Prop} (h : Sep w (L1 ++ L2 ++ M) T) : Sep w (L2 ++ L1 ++ M) T := by
  rw [List.append_assoc] at h ⊢
  obtain ⟨A, T1, h1, h2, h3, rfl⟩ := Sep.app h
  obtain ⟨B, C, h4, h5, h6, rfl⟩ := Sep.app h2
  have := Sep.mk_app h4 (Sep.mk_app h1 h5 (fun i hi hn => h3 i hi (.inr hn))) (fun i hi hn => by
    rcases hn with hn | hn
    · exact h3 i hn (.inl hi)
    · exact h6 i hi hn)
  have e : (fun i => B i ∨ (A i ∨ C i)) = fun i => A i ∨ (B i ∨ C i) := by funext i; simp only [or_left_comm]
  rw [e] at this
  exact this
section
variable {S : Nat → Prop} {w0 w : World} {L : List Ob} {p : Nat} {a : Asm} {g : Fm} {A B : Option Addr} {c nl d : Nat}

set_option maxHeartbeats 4000000 in
theorem step_open (s : St S w0 w (AO p a :: L)) (h1 : a.brk = false) (h2 : a.opn = true)  {X : Type} (F : X → List Value) (ok : X → Bool) (fi : X → Bool) (fc : X → Int) (M : X → List Ob) (hF : ∀ x, (F x).length = 16 ∧ (F x).all (·.oneCell') = true)
    (H : ∀ w1 L1, Below w.heap.size w w1 → St S w0 w1 (AO p a :: L1) → Calls Try.prog 16 #[.pointer (some ⟨p, 0, none⟩), .agg #[.int .i64 g.kind, .int .i64 g.stream, .bool g.fin, .bool g.eh, .bool g.ack, .bool g.prio, .slice A g.pay.length c, .int .i64 g.flags, .int .i64 g.pad, .int .i64 g.depend, .bool g.excl, .int .i64 g.weight, .int .u32 (g.code : Int), .slice B nl d, .int .i64 g.last, .int .i64 g.inc]] w1 fun e w' => ∃ x, e = .returned (.tuple #[.agg (F x).toArray, .bool (ok x), .agg #[.bool (fi x), .int .u32 (fc x), .int .i64 0]]) ∧ St S w0 w' (M x ++ L1)) :
    Calls Try.prog 10 #[.pointer (some ⟨p, 0, none⟩), .agg #[.int .i64 g.kind, .int .i64 g.stream, .bool g.fin, .bool g.eh, .bool g.ack, .bool g.prio, .slice A g.pay.length c, .int .i64 g.flags, .int .i64 g.pad, .int .i64 g.depend, .bool g.excl, .int .i64 g.weight, .int .u32 (g.code : Int), .slice B nl d, .int .i64 g.last, .int .i64 g.inc]] w fun e w' => ∃ x, e = .returned (.tuple #[.agg (F x).toArray, .bool (ok x), .agg #[.bool (fi x), .int .u32 (fc x), .int .i64 0]]) ∧ St S w0 w' (M x ++ L) := by
  have HS := Lib.hid s
  have HH := Lib.hid H
  have HF := Lib.hid hF
  clear s H hF
  go_enter Try.func10, Try.ntmps10
  go_upto_region 2 with (fail)
  obtain ⟨b, hbs⟩ : ∃ b, w.heap.size = b := ⟨_, rfl⟩
  obtain ⟨W1, hW1⟩ : ∃ W1, ((w.alloc (.cells #[.int .i64 g.kind, .int .i64 g.stream, .bool g.fin, .bool g.eh, .bool g.ack, .bool g.prio, .slice A g.pay.length c, .int .i64 g.flags, .int .i64 g.pad, .int .i64 g.depend, .bool g.excl, .int .i64 g.weight, .int .u32 (g.code : Int), .slice B nl d, .int .i64 g.last, .int .i64 g.inc] 32)).alloc (.cells #[.int .i64 0, .int .i64 0, .bool false, .bool false, .bool false, .bool false, .slice none 0 0, .int .i64 0, .int .i64 0, .int .i64 0, .bool false, .int .i64 0, .int .u32 0, .slice none 0 0, .int .i64 0, .int .i64 0] 32)).alloc (.cells #[.bool false, .int .u32 0, .int .i64 0] 34) = W1 := ⟨_, rfl⟩
  have t1 := St.three HS.out [.int .i64 g.kind, .int .i64 g.stream, .bool g.fin, .bool g.eh, .bool g.ack, .bool g.prio, .slice A g.pay.length c, .int .i64 g.flags, .int .i64 g.pad, .int .i64 g.depend, .bool g.excl, .int .i64 g.weight, .int .u32 (g.code : Int), .slice B nl d, .int .i64 g.last, .int .i64 g.inc] W1 hW1
  have HBW : Hid (Below w.heap.size w W1) := below3 _ _ hW1
  rw [hbs] at t1
  rw [hW1, hbs]
  have T1 : Hid (St S w0 W1 (AO p a :: LC (LB L b [.int .i64 g.kind, .int .i64 g.stream, .bool g.fin, .bool g.eh, .bool g.ack, .bool g.prio, .slice A g.pay.length c, .int .i64 g.flags, .int .i64 g.pad, .int .i64 g.depend, .bool g.excl, .int .i64 g.weight, .int .u32 (g.code : Int), .slice B nl d, .int .i64 g.last, .int .i64 g.inc]) (b + 1))) := t1
  clear hbs hW1 HS t1
  have hbx := (see3 [AO p a] T1.out).1
  obtain ⟨x0, x1, x2, x3, x4, x5, x6, x7, x8, x9, x10, x11, x12, x13, x14, x15⟩ := cells16v hbx
  have xl := hbx.lt
  obtain ⟨P, pc, D, ll, lc, t1⟩ := ao_open T1.out
  obtain ⟨hpl, hpf, z0, z1, _, _, _, _, _, _, _, _, _, _, _, _, _, _, _, _, _, z19, z20, z21⟩ := see_a t1
  clear hbx hpf z0
  have y19 : W1.cell? ⟨p, 19, none⟩ = some (.bool false) := by rw [← h1]; exact z19
  have y1 : W1.cell? ⟨p, 1, none⟩ = some (.bool true) := by rw [← h2]; exact z1
  clear h1 h2 z1 z19 z20 z21 t1
  go_wp2_with (first
    | (go_at_call 16; (with_reducible refine (HH.out _ _ HBW.out T1.out).mono ?_); rintro e W7 ⟨x, rfl, t7⟩
       have T7 := Lib.hid t7
       have HQ1 : Hid (Blk _ (b + 1) 32 zero16) := (see3 _ T7.out).2.1
       have HQ2 : Hid (Blk _ (b + 1 + 1) 34 [.bool false, .int .u32 0, .int .i64 0]) := (see3 _ T7.out).2.2
       clear t7)
    | (with_reducible refine guard_store 32 _ _ ?_
       refine wpList_store_blk rfl rfl 32 _ _ rfl (b + 1) (F x) rfl rfl HQ1.out (by rw [(HF.out x).1]; exact info_frame) (by rw [(HF.out x).1]; rfl) (HF.out x).2 ?_
       intro W8 hb8 hf8
       have HB8 := Lib.hid hb8
       have HF8 := Lib.hid hf8
       clear hb8 hf8)
    | (with_reducible refine guard_store 34 _ _ ?_
       refine wpList_store_blk rfl rfl 34 _ _ rfl (b + 1 + 1) _ rfl rfl (HQ2.out.fr HF8.out (show ¬ (b + 1 + 1 = b + 1) by omega)) info_fault rfl rfl ?_
       intro W9 hb9 hf9
       have HB9 := Lib.hid hb9
       have HF9 := Lib.hid hf9
       clear hb9 hf9))
  obtain ⟨k1, k2⟩ := un3 _ T7.out HB8.out HF8.out HB9.out HF9.out
  exact bodyPost_ret (res_fbf (p := 4) (q := 6) (r := 5) rfl (HF.out x).1 rfl rfl rfl k1 HB9.out) rfl ⟨x, rfl, k2⟩
set_option maxHeartbeats 4000000 in
theorem step_head (s : St S w0 w (AO p a :: L)) (h1 : a.brk = false) (h2 : a.opn = false) (x9' : (g.kind == 9) = false) (x1' : (g.kind == 1) = true) {X : Type} (F : X → List Value) (ok : X → Bool) (fi : X → Bool) (fc : X → Int) (M : X → List Ob) (hF : ∀ x, (F x).length = 16 ∧ (F x).all (·.oneCell') = true)
    (H : ∀ w1 L1, Below w.heap.size w w1 → St S w0 w1 (AO p a :: L1) → Calls Try.prog 18 #[.pointer (some ⟨p, 0, none⟩), .agg #[.int .i64 g.kind, .int .i64 g.stream, .bool g.fin, .bool g.eh, .bool g.ack, .bool g.prio, .slice A g.pay.length c, .int .i64 g.flags, .int .i64 g.pad, .int .i64 g.depend, .bool g.excl, .int .i64 g.weight, .int .u32 (g.code : Int), .slice B nl d, .int .i64 g.last, .int .i64 g.inc]] w1 fun e w' => ∃ x, e = .returned (.tuple #[.agg (F x).toArray, .bool (ok x), .agg #[.bool (fi x), .int .u32 (fc x), .int .i64 0]]) ∧ St S w0 w' (M x ++ L1)) :
    Calls Try.prog 10 #[.pointer (some ⟨p, 0, none⟩), .agg #[.int .i64 g.kind, .int .i64 g.stream, .bool g.fin, .bool g.eh, .bool g.ack, .bool g.prio, .slice A g.pay.length c, .int .i64 g.flags, .int .i64 g.pad, .int .i64 g.depend, .bool g.excl, .int .i64 g.weight, .int .u32 (g.code : Int), .slice B nl d, .int .i64 g.last, .int .i64 g.inc]] w fun e w' => ∃ x, e = .returned (.tuple #[.agg (F x).toArray, .bool (ok x), .agg #[.bool (fi x), .int .u32 (fc x), .int .i64 0]]) ∧ St S w0 w' (M x ++ L) := by
  have HS := Lib.hid s
  have HH := Lib.hid H
  have HF := Lib.hid hF
  clear s H hF
  go_enter Try.func10, Try.ntmps10
  go_upto_region 2 with (fail)
  obtain ⟨b, hbs⟩ : ∃ b, w.heap.size = b := ⟨_, rfl⟩
  obtain ⟨W1, hW1⟩ : ∃ W1, ((w.alloc (.cells #[.int .i64 g.kind, .int .i64 g.stream, .bool g.fin, .bool g.eh, .bool g.ack, .bool g.prio, .slice A g.pay.length c, .int .i64 g.flags, .int .i64 g.pad, .int .i64 g.depend, .bool g.excl, .int .i64 g.weight, .int .u32 (g.code : Int), .slice B nl d, .int .i64 g.last, .int .i64 g.inc] 32)).alloc (.cells #[.int .i64 0, .int .i64 0, .bool false, .bool false, .bool false, .bool false, .slice none 0 0, .int .i64 0, .int .i64 0, .int .i64 0, .bool false, .int .i64 0, .int .u32 0, .slice none 0 0, .int .i64 0, .int .i64 0] 32)).alloc (.cells #[.bool false, .int .u32 0, .int .i64 0] 34) = W1 := ⟨_, rfl⟩
  have t1 := St.three HS.out [.int .i64 g.kind, .int .i64 g.stream, .bool g.fin, .bool g.eh, .bool g.ack, .bool g.prio, .slice A g.pay.length c, .int .i64 g.flags, .int .i64 g.pad, .int .i64 g.depend, .bool g.excl, .int .i64 g.weight, .int .u32 (g.code : Int), .slice B nl d, .int .i64 g.last, .int .i64 g.inc] W1 hW1
  have HBW : Hid (Below w.heap.size w W1) := below3 _ _ hW1
  rw [hbs] at t1
  rw [hW1, hbs]
  have T1 : Hid (St S w0 W1 (AO p a :: LC (LB L b [.int .i64 g.kind, .int .i64 g.stream, .bool g.fin, .bool g.eh, .bool g.ack, .bool g.prio, .slice A g.pay.length c, .int .i64 g.flags, .int .i64 g.pad, .int .i64 g.depend, .bool g.excl, .int .i64 g.weight, .int .u32 (g.code : Int), .slice B nl d, .int .i64 g.last, .int .i64 g.inc]) (b + 1))) := t1
  clear hbs hW1 HS t1
  have hbx := (see3 [AO p a] T1.out).1
  obtain ⟨x0, x1, x2, x3, x4, x5, x6, x7, x8, x9, x10, x11, x12, x13, x14, x15⟩ := cells16v hbx
  have xl := hbx.lt
  obtain ⟨P, pc, D, ll, lc, t1⟩ := ao_open T1.out
  obtain ⟨hpl, hpf, z0, z1, _, _, _, _, _, _, _, _, _, _, _, _, _, _, _, _, _, z19, z20, z21⟩ := see_a t1
  clear hbx hpf z0
  have y19 : W1.cell? ⟨p, 19, none⟩ = some (.bool false) := by rw [← h1]; exact z19
  have y1 : W1.cell? ⟨p, 1, none⟩ = some (.bool false) := by rw [← h2]; exact z1
  clear h1 h2 z1 z19 z20 z21 t1
  go_wp2_with (first
    | (go_at_call 18; (with_reducible refine (HH.out _ _ HBW.out T1.out).mono ?_); rintro e W7 ⟨x, rfl, t7⟩
       have T7 := Lib.hid t7
       have HQ1 : Hid (Blk _ (b + 1) 32 zero16) := (see3 _ T7.out).2.1
       have HQ2 : Hid (Blk _ (b + 1 + 1) 34 [.bool false, .int .u32 0, .int .i64 0]) := (see3 _ T7.out).2.2
       clear t7)
    | (with_reducible refine guard_store 32 _ _ ?_
       refine wpList_store_blk rfl rfl 32 _ _ rfl (b + 1) (F x) rfl rfl HQ1.out (by rw [(HF.out x).1]; exact info_frame) (by rw [(HF.out x).1]; rfl) (HF.out x).2 ?_
       intro W8 hb8 hf8
       have HB8 := Lib.hid hb8
       have HF8 := Lib.hid hf8
       clear hb8 hf8)
    | (with_reducible refine guard_store 34 _ _ ?_
       refine wpList_store_blk rfl rfl 34 _ _ rfl (b + 1 + 1) _ rfl rfl (HQ2.out.fr HF8.out (show ¬ (b + 1 + 1 = b + 1) by omega)) info_fault rfl rfl ?_
       intro W9 hb9 hf9
       have HB9 := Lib.hid hb9
       have HF9 := Lib.hid hf9
       clear hb9 hf9))
  obtain ⟨k1, k2⟩ := un3 _ T7.out HB8.out HF8.out HB9.out HF9.out
  exact bodyPost_ret (res_fbf (p := 4) (q := 6) (r := 5) rfl (HF.out x).1 rfl rfl rfl k1 HB9.out) rfl ⟨x, rfl, k2⟩
/-- two things that were made last go ahead of what the call itself made -/
theorem swap3 {X Y : Ob} {b r : Nat} {cs : List Value} {A0 : Ob} (s : St S w0 w ((A0 :: LC (LB L b cs) r) ++ [X, Y])) : St S w0 w ([A0, X, Y] ++ LC (LB L b cs) r) := by
  obtain ⟨⟨T, hT, hTS⟩, hf⟩ := s
  have h1 : Sep w ([A0] ++ ((LC (LB L b cs) r ++ [X, Y]) ++ [])) T := by simpa using hT
  obtain ⟨G, H, k1, k2, k3, rfl⟩ := Sep.app h1
  have k4 : Sep w ([X, Y] ++ LC (LB L b cs) r ++ []) H := sep_swap12 (by simpa using k2)
  have k5 := Sep.mk_app k1 k4 k3
  exact ⟨⟨_, by simpa using k5, hTS⟩, hf⟩
theorem swap3' {X Y A0 : Ob} (s : St S w0 w ([A0, X, Y] ++ L)) : St S w0 w (A0 :: (L ++ [X, Y])) := by
  obtain ⟨⟨T, hT, hTS⟩, hf⟩ := s
  have h1 : Sep w ([A0] ++ (([X, Y] ++ L) ++ [])) T := by simpa using hT
  obtain ⟨G, H, k1, k2, k3, rfl⟩ := Sep.app h1
  have k4 : Sep w (L ++ [X, Y] ++ []) H := sep_swap12 (by simpa using k2)
  have k5 := Sep.mk_app k1 k4 k3
  exact ⟨⟨_, by simpa using k5, hTS⟩, hf⟩
set_option maxHeartbeats 4000000 in
theorem step_stray (s : St S w0 w (AO p a :: L)) (h1 : a.brk = false) (h2 : a.opn = false) (x9' : (g.kind == 9) = true) :
    Calls Try.prog 10 #[.pointer (some ⟨p, 0, none⟩), .agg #[.int .i64 g.kind, .int .i64 g.stream, .bool g.fin, .bool g.eh, .bool g.ack, .bool g.prio, .slice A g.pay.length c, .int .i64 g.flags, .int .i64 g.pad, .int .i64 g.depend, .bool g.excl, .int .i64 g.weight, .int .u32 (g.code : Int), .slice B nl d, .int .i64 g.last, .int .i64 g.inc]] w fun e w' => e = .returned (.tuple #[.agg #[.int .i64 0, .int .i64 0, .bool false, .bool false, .bool false, .bool false, .slice none 0 0, .int .i64 0, .int .i64 0, .int .i64 0, .bool false, .int .i64 0, .int .u32 0, .slice none 0 0, .int .i64 0, .int .i64 0], .bool false, .agg #[.bool true, .int .u32 1, .int .i64 0]]) ∧ St S w0 w' (AO p (.broken 1) :: L) := by
  have HS := Lib.hid s
  clear s
  go_enter Try.func10, Try.ntmps10
  go_upto_region 2 with (fail)
  obtain ⟨b, hbs⟩ : ∃ b, w.heap.size = b := ⟨_, rfl⟩
  obtain ⟨W1, hW1⟩ : ∃ W1, ((w.alloc (.cells #[.int .i64 g.kind, .int .i64 g.stream, .bool g.fin, .bool g.eh, .bool g.ack, .bool g.prio, .slice A g.pay.length c, .int .i64 g.flags, .int .i64 g.pad, .int .i64 g.depend, .bool g.excl, .int .i64 g.weight, .int .u32 (g.code : Int), .slice B nl d, .int .i64 g.last, .int .i64 g.inc] 32)).alloc (.cells #[.int .i64 0, .int .i64 0, .bool false, .bool false, .bool false, .bool false, .slice none 0 0, .int .i64 0, .int .i64 0, .int .i64 0, .bool false, .int .i64 0, .int .u32 0, .slice none 0 0, .int .i64 0, .int .i64 0] 32)).alloc (.cells #[.bool false, .int .u32 0, .int .i64 0] 34) = W1 := ⟨_, rfl⟩
  have t1 := St.three HS.out [.int .i64 g.kind, .int .i64 g.stream, .bool g.fin, .bool g.eh, .bool g.ack, .bool g.prio, .slice A g.pay.length c, .int .i64 g.flags, .int .i64 g.pad, .int .i64 g.depend, .bool g.excl, .int .i64 g.weight, .int .u32 (g.code : Int), .slice B nl d, .int .i64 g.last, .int .i64 g.inc] W1 hW1
  have HBW : Hid (Below w.heap.size w W1) := below3 _ _ hW1
  rw [hbs] at t1
  rw [hW1, hbs]
  have T1 : Hid (St S w0 W1 (AO p a :: LC (LB L b [.int .i64 g.kind, .int .i64 g.stream, .bool g.fin, .bool g.eh, .bool g.ack, .bool g.prio, .slice A g.pay.length c, .int .i64 g.flags, .int .i64 g.pad, .int .i64 g.depend, .bool g.excl, .int .i64 g.weight, .int .u32 (g.code : Int), .slice B nl d, .int .i64 g.last, .int .i64 g.inc]) (b + 1))) := t1
  clear hbs hW1 HS t1
  have hbx := (see3 [AO p a] T1.out).1
  obtain ⟨x0, x1, x2, x3, x4, x5, x6, x7, x8, x9, x10, x11, x12, x13, x14, x15⟩ := cells16v hbx
  have xl := hbx.lt
  obtain ⟨P, pc, D, ll, lc, t1⟩ := ao_open T1.out
  obtain ⟨hpl, hpf, z0, z1, _, _, _, _, _, _, _, _, _, _, _, _, _, _, _, _, _, z19, z20, z21⟩ := see_a t1
  clear hbx hpf z0
  have y19 : W1.cell? ⟨p, 19, none⟩ = some (.bool false) := by rw [← h1]; exact z19
  have y1 : W1.cell? ⟨p, 1, none⟩ = some (.bool false) := by rw [← h2]; exact z1
  clear h1 h2 z1 z19 z20 z21 t1
  go_wp2_with (first
    | (go_at_call 17; (with_reducible refine (fail_1 T1.out).mono ?_); rintro e W7 ⟨rfl, t7⟩
       have T7 : Hid (St S w0 W7 ([AO p (.broken 1)] ++ LC (LB L b [.int .i64 g.kind, .int .i64 g.stream, .bool g.fin, .bool g.eh, .bool g.ack, .bool g.prio, .slice A g.pay.length c, .int .i64 g.flags, .int .i64 g.pad, .int .i64 g.depend, .bool g.excl, .int .i64 g.weight, .int .u32 (g.code : Int), .slice B nl d, .int .i64 g.last, .int .i64 g.inc]) (b + 1))) := t7
       have HQ1 : Hid (Blk _ (b + 1) 32 zero16) := (see3 _ T7.out).2.1
       have HQ2 : Hid (Blk _ (b + 1 + 1) 34 [.bool false, .int .u32 0, .int .i64 0]) := (see3 _ T7.out).2.2
       clear t7)
    | (with_reducible refine guard_store 32 _ _ ?_
       refine wpList_store_blk rfl rfl 32 _ _ rfl (b + 1) _ rfl rfl HQ1.out info_frame rfl rfl ?_
       intro W8 hb8 hf8
       have HB8 := Lib.hid hb8
       have HF8 := Lib.hid hf8
       clear hb8 hf8)
    | (with_reducible refine guard_store 34 _ _ ?_
       refine wpList_store_blk rfl rfl 34 _ _ rfl (b + 1 + 1) _ rfl rfl (HQ2.out.fr HF8.out (show ¬ (b + 1 + 1 = b + 1) by omega)) info_fault rfl rfl ?_
       intro W9 hb9 hf9
       have HB9 := Lib.hid hb9
       have HF9 := Lib.hid hf9
       clear hb9 hf9))
  obtain ⟨k1, k2⟩ := un3 _ T7.out HB8.out HF8.out HB9.out HF9.out
  exact bodyPost_ret (res_fbf (p := 4) (q := 6) (r := 5) rfl rfl rfl rfl rfl k1 HB9.out) rfl ⟨rfl, k2⟩
set_option maxHeartbeats 4000000 in
theorem step_pass (s : St S w0 w (AO p a :: L)) (h1 : a.brk = false) (h2 : a.opn = false) (x9' : (g.kind == 9) = false) (x1' : (g.kind == 1) = false) (hp : Rd w 1 A g.pay.length (g.pay.map BV)) (hl : Rd w 2 B nl (scells g.list)) (h3 : g.pay.length ≤ 1000000) (h4 : nl ≤ 1000000) :
    Calls Try.prog 10 #[.pointer (some ⟨p, 0, none⟩), .agg #[.int .i64 g.kind, .int .i64 g.stream, .bool g.fin, .bool g.eh, .bool g.ack, .bool g.prio, .slice A g.pay.length c, .int .i64 g.flags, .int .i64 g.pad, .int .i64 g.depend, .bool g.excl, .int .i64 g.weight, .int .u32 (g.code : Int), .slice B nl d, .int .i64 g.last, .int .i64 g.inc]] w fun e w' => ∃ A1 c1 B1 d1, e = .returned (.tuple #[.agg #[.int .i64 g.kind, .int .i64 g.stream, .bool g.fin, .bool g.eh, .bool g.ack, .bool g.prio, .slice A1 g.pay.length c1, .int .i64 g.flags, .int .i64 g.pad, .int .i64 g.depend, .bool g.excl, .int .i64 g.weight, .int .u32 (g.code : Int), .slice B1 nl d1, .int .i64 g.last, .int .i64 g.inc], .bool true, .agg #[.bool false, .int .u32 0, .int .i64 0]]) ∧ St S w0 w' (AO p a :: (L ++ [SLo 0 5 1 (.slice A1 g.pay.length c1) g.pay.length (g.pay.map BV), SLo 0 54 2 (.slice B1 nl d1) nl (scells g.list)])) := by
  have HS := Lib.hid s
  have HP := Lib.hid hp
  have HL := Lib.hid hl
  have H3 := Lib.hid h3
  have H4 := Lib.hid h4
  clear s hp hl h3 h4
  go_enter Try.func10, Try.ntmps10
  go_upto_region 2 with (fail)
  obtain ⟨b, hbs⟩ : ∃ b, w.heap.size = b := ⟨_, rfl⟩
  obtain ⟨W1, hW1⟩ : ∃ W1, ((w.alloc (.cells #[.int .i64 g.kind, .int .i64 g.stream, .bool g.fin, .bool g.eh, .bool g.ack, .bool g.prio, .slice A g.pay.length c, .int .i64 g.flags, .int .i64 g.pad, .int .i64 g.depend, .bool g.excl, .int .i64 g.weight, .int .u32 (g.code : Int), .slice B nl d, .int .i64 g.last, .int .i64 g.inc] 32)).alloc (.cells #[.int .i64 0, .int .i64 0, .bool false, .bool false, .bool false, .bool false, .slice none 0 0, .int .i64 0, .int .i64 0, .int .i64 0, .bool false, .int .i64 0, .int .u32 0, .slice none 0 0, .int .i64 0, .int .i64 0] 32)).alloc (.cells #[.bool false, .int .u32 0, .int .i64 0] 34) = W1 := ⟨_, rfl⟩
  have t1 := St.three HS.out [.int .i64 g.kind, .int .i64 g.stream, .bool g.fin, .bool g.eh, .bool g.ack, .bool g.prio, .slice A g.pay.length c, .int .i64 g.flags, .int .i64 g.pad, .int .i64 g.depend, .bool g.excl, .int .i64 g.weight, .int .u32 (g.code : Int), .slice B nl d, .int .i64 g.last, .int .i64 g.inc] W1 hW1
  have HBW : Hid (Below w.heap.size w W1) := below3 _ _ hW1
  rw [hbs] at t1
  rw [hW1, hbs]
  have T1 : Hid (St S w0 W1 (AO p a :: LC (LB L b [.int .i64 g.kind, .int .i64 g.stream, .bool g.fin, .bool g.eh, .bool g.ack, .bool g.prio, .slice A g.pay.length c, .int .i64 g.flags, .int .i64 g.pad, .int .i64 g.depend, .bool g.excl, .int .i64 g.weight, .int .u32 (g.code : Int), .slice B nl d, .int .i64 g.last, .int .i64 g.inc]) (b + 1))) := t1
  clear hbs hW1 HS t1
  have hbx := (see3 [AO p a] T1.out).1
  obtain ⟨x0, x1, x2, x3, x4, x5, x6, x7, x8, x9, x10, x11, x12, x13, x14, x15⟩ := cells16v hbx
  have xl := hbx.lt
  obtain ⟨P, pc, D, ll, lc, t1⟩ := ao_open T1.out
  obtain ⟨hpl, hpf, z0, z1, _, _, _, _, _, _, _, _, _, _, _, _, _, _, _, _, _, z19, z20, z21⟩ := see_a t1
  clear hbx hpf z0
  have y19 : W1.cell? ⟨p, 19, none⟩ = some (.bool false) := by rw [← h1]; exact z19
  have y1 : W1.cell? ⟨p, 1, none⟩ = some (.bool false) := by rw [← h2]; exact z1
  have HP1 := Lib.hid (HP.out.below HBW.out)
  have HL1 := Lib.hid (HL.out.below HBW.out)
  clear h1 h2 z1 z19 z20 z21 t1 HP HL
  go_wp2_with (first
    | (go_at_call 19; (with_reducible refine (copyOf_c g HP1.out HL1.out H3.out H4.out).mono ?_); rintro e W7 ⟨A1, c1, B1, d1, rfl, h7⟩
       have T7 := Lib.hid (T1.out.add h7)
       have s7 := swap3 T7.out
       have S7 := Lib.hid s7
       have HQ1 : Hid (Blk _ (b + 1) 32 zero16) := (see3 _ S7.out).2.1
       have HQ2 : Hid (Blk _ (b + 1 + 1) 34 [.bool false, .int .u32 0, .int .i64 0]) := (see3 _ S7.out).2.2
       clear h7 s7)
    | (with_reducible refine guard_store 32 _ _ ?_
       refine wpList_store_blk rfl rfl 32 _ _ rfl (b + 1) _ rfl rfl HQ1.out info_frame rfl rfl ?_
       intro W8 hb8 hf8
       have HB8 := Lib.hid hb8
       have HF8 := Lib.hid hf8
       clear hb8 hf8)
    | (with_reducible refine guard_store 34 _ _ ?_
       refine wpList_store_blk rfl rfl 34 _ _ rfl (b + 1 + 1) _ rfl rfl (HQ2.out.fr HF8.out (show ¬ (b + 1 + 1 = b + 1) by omega)) info_fault rfl rfl ?_
       intro W9 hb9 hf9
       have HB9 := Lib.hid hb9
       have HF9 := Lib.hid hf9
       clear hb9 hf9))
  obtain ⟨k1, k2⟩ := un3 _ S7.out HB8.out HF8.out HB9.out HF9.out
  exact bodyPost_ret (res_fbf (p := 4) (q := 6) (r := 5) rfl rfl rfl rfl rfl k1 HB9.out) rfl ⟨_, _, _, _, rfl, swap3' k2⟩
set_option maxHeartbeats 4000000 in
theorem step_broken {co : Nat} (s : St S w0 w (AO p (.broken co) :: L)) :
    Calls Try.prog 10 #[.pointer (some ⟨p, 0, none⟩), .agg #[.int .i64 g.kind, .int .i64 g.stream, .bool g.fin, .bool g.eh, .bool g.ack, .bool g.prio, .slice A g.pay.length c, .int .i64 g.flags, .int .i64 g.pad, .int .i64 g.depend, .bool g.excl, .int .i64 g.weight, .int .u32 (g.code : Int), .slice B nl d, .int .i64 g.last, .int .i64 g.inc]] w fun e w' => e = .returned (.tuple #[.agg #[.int .i64 0, .int .i64 0, .bool false, .bool false, .bool false, .bool false, .slice none 0 0, .int .i64 0, .int .i64 0, .int .i64 0, .bool false, .int .i64 0, .int .u32 0, .slice none 0 0, .int .i64 0, .int .i64 0], .bool false, .agg #[.bool true, .int .u32 (co : Int), .int .i64 0]]) ∧ St S w0 w' (AO p (.broken co) :: L) := by
  have HS := Lib.hid s
  clear s
  go_enter Try.func10, Try.ntmps10
  go_upto_region 2 with (fail)
  obtain ⟨b, hbs⟩ : ∃ b, w.heap.size = b := ⟨_, rfl⟩
  obtain ⟨W1, hW1⟩ : ∃ W1, ((w.alloc (.cells #[.int .i64 g.kind, .int .i64 g.stream, .bool g.fin, .bool g.eh, .bool g.ack, .bool g.prio, .slice A g.pay.length c, .int .i64 g.flags, .int .i64 g.pad, .int .i64 g.depend, .bool g.excl, .int .i64 g.weight, .int .u32 (g.code : Int), .slice B nl d, .int .i64 g.last, .int .i64 g.inc] 32)).alloc (.cells #[.int .i64 0, .int .i64 0, .bool false, .bool false, .bool false, .bool false, .slice none 0 0, .int .i64 0, .int .i64 0, .int .i64 0, .bool false, .int .i64 0, .int .u32 0, .slice none 0 0, .int .i64 0, .int .i64 0] 32)).alloc (.cells #[.bool false, .int .u32 0, .int .i64 0] 34) = W1 := ⟨_, rfl⟩
  have t1 := St.three HS.out [.int .i64 g.kind, .int .i64 g.stream, .bool g.fin, .bool g.eh, .bool g.ack, .bool g.prio, .slice A g.pay.length c, .int .i64 g.flags, .int .i64 g.pad, .int .i64 g.depend, .bool g.excl, .int .i64 g.weight, .int .u32 (g.code : Int), .slice B nl d, .int .i64 g.last, .int .i64 g.inc] W1 hW1
  have HBW : Hid (Below w.heap.size w W1) := below3 _ _ hW1
  rw [hbs] at t1
  rw [hW1, hbs]
  have T1 : Hid (St S w0 W1 (AO p (.broken co) :: LC (LB L b [.int .i64 g.kind, .int .i64 g.stream, .bool g.fin, .bool g.eh, .bool g.ack, .bool g.prio, .slice A g.pay.length c, .int .i64 g.flags, .int .i64 g.pad, .int .i64 g.depend, .bool g.excl, .int .i64 g.weight, .int .u32 (g.code : Int), .slice B nl d, .int .i64 g.last, .int .i64 g.inc]) (b + 1))) := t1
  clear hbs hW1 HS t1
  have hbx := (see3 [AO p (.broken co)] T1.out).1
  obtain ⟨x0, x1, x2, x3, x4, x5, x6, x7, x8, x9, x10, x11, x12, x13, x14, x15⟩ := cells16v hbx
  have xl := hbx.lt
  obtain ⟨P, pc, D, ll, lc, t1⟩ := ao_open T1.out
  obtain ⟨hpl, hpf, z0, z1, _, _, _, _, _, _, _, _, _, _, _, _, _, _, _, _, _, z19, z20, z21⟩ := see_a t1
  clear hbx hpf z0
  have y19 : W1.cell? ⟨p, 19, none⟩ = some (.bool true) := z19
  clear z1 z19 z20 z21
  go_upto_region 3 with (fail)
  have hp2 : Blk W1.drew p 50 (acells (.broken co) _ _) := St.blk0 t1.drew
  have t1d : Hid (St S w0 W1.drew ([AO p (.broken co)] ++ LC (LB L b [.int .i64 g.kind, .int .i64 g.stream, .bool g.fin, .bool g.eh, .bool g.ack, .bool g.prio, .slice A g.pay.length c, .int .i64 g.flags, .int .i64 g.pad, .int .i64 g.depend, .bool g.excl, .int .i64 g.weight, .int .u32 (g.code : Int), .slice B nl d, .int .i64 g.last, .int .i64 g.inc]) (b + 1))) := T1.out.drew
  obtain ⟨_, hq1, hq2⟩ := see3 _ t1d.out
  have n1 : p ≠ b + 1 := hp2.ne_ hq1 (by decide)
  have n2 : p ≠ b + 1 + 1 := hp2.ne_ hq2 (by decide)
  have HN : Hid (¬ (b + 1 + 1 = b + 1)) := by unfold Hid; omega
  have hs := flt_cells hp2
  have HC : Hid (∀ W3, Fr (· = b + 1) W1.drew W3 → W3.cell? ⟨p, 19, none⟩ = some (.bool true) ∧ W3.cell? ⟨p, 20, none⟩ = some (.int .u32 (co : Int)) ∧ W3.cell? ⟨p, 21, none⟩ = some (.int .i64 0)) := fun W3 hf => flt_cells (hp2.fr hf n1)
  have HD : Hid (∀ W3 W4, Fr (· = b + 1) W1.drew W3 → Fr (· = b + 1 + 1) W3 W4 → W4.cell? ⟨p, 19, none⟩ = some (.bool true) ∧ W4.cell? ⟨p, 20, none⟩ = some (.int .u32 (co : Int)) ∧ W4.cell? ⟨p, 21, none⟩ = some (.int .i64 0)) := fun W3 W4 hf hg => flt_cells ((hp2.fr hf n1).fr hg n2)
  have HQ1 := Lib.hid hq1
  have HQ2 := Lib.hid hq2
  clear x0 x1 x2 x3 x4 x5 x6 x7 x8 x9 x10 x11 x12 x13 x14 x15 y19 t1 hp2 hq1 hq2 n1 n2
  refine wp_region_held_drew (S := (fun W => W.cell? ⟨p, 19, none⟩ = some (.bool true) ∧ W.cell? ⟨p, 20, none⟩ = some (.int .u32 (co : Int)) ∧ W.cell? ⟨p, 21, none⟩ = some (.int .i64 0))) (by kernel_rfl) ?_ (fun hHeld => ?_)
  · exact hs
  clear hs
  refine wpAnyH_take (i := 0) (oi := { dst := some 16, op := Op.build 32 #[], type := 32, pos := "block.go:33", after := #[], guard := none }) (v := ?_) rfl (by kernel_rfl) (by kernel_rfl) (by kernel_rfl) (fun _ _ _ h => h) (Or.inl ⟨by kernel_rfl, ?_⟩) hHeld ?_
  rotate_left
  · intro w hSw; (try dsimp only at hSw); go_simp; try with_reducible rfl
  simp only [Act.put, List.setIfInBounds_toArray, List.set_cons_zero, List.set_cons_succ]
  refine wpAnyH_take (i := 1) (oi := { dst := some 17, op := Op.move (Operand.tmp 0), type := 25, pos := "block.go:33", after := #[{ on := 6, ground := Ground.gcOnly Departure.lateStores }], guard := none }) (v := ?_) rfl (by kernel_rfl) (by kernel_rfl) (by kernel_rfl) (fun _ _ _ h => h) (Or.inl ⟨by kernel_rfl, ?_⟩) hHeld ?_
  rotate_left
  · intro w hSw; (try dsimp only at hSw); go_simp; try with_reducible rfl
  simp only [Act.put, List.setIfInBounds_toArray, List.set_cons_zero, List.set_cons_succ]
  refine wpAnyH_take (i := 2) (oi := { dst := some 18, op := Op.nilCheck (Operand.tmp 17), type := 0, pos := "block.go:33", after := #[{ on := 1, ground := Ground.data }, { on := 6, ground := Ground.gcOnly Departure.lateStores }], guard := none }) (v := ?_) rfl (by kernel_rfl) (by kernel_rfl) (by kernel_rfl) (fun _ _ _ h => h) (Or.inl ⟨by kernel_rfl, ?_⟩) hHeld ?_
  rotate_left
  · intro w hSw; (try dsimp only at hSw); go_simp; try with_reducible rfl
  simp only [Act.put, List.setIfInBounds_toArray, List.set_cons_zero, List.set_cons_succ]
  refine wpAnyH_take (i := 3) (oi := { dst := some 19, op := Op.fieldAddr 50 (Operand.tmp 18) 4, type := 0, pos := "block.go:33", after := #[{ on := 2, ground := Ground.data }, { on := 6, ground := Ground.gcOnly Departure.lateStores }], guard := none }) (v := ?_) rfl (by kernel_rfl) (by kernel_rfl) (by kernel_rfl) (fun _ _ _ h => h) (Or.inl ⟨by kernel_rfl, ?_⟩) hHeld ?_
  rotate_left
  · intro w hSw; (try dsimp only at hSw); go_simp; try with_reducible rfl
  simp only [Act.put, List.setIfInBounds_toArray, List.set_cons_zero, List.set_cons_succ]
  refine wpAnyH_take (i := 4) (oi := { dst := some 20, op := Op.load 34 (Operand.tmp 19), type := 34, pos := "block.go:33", after := #[{ on := 3, ground := Ground.data }, { on := 6, ground := Ground.gcOnly Departure.lateStores }], guard := none }) (v := ?_) rfl (by kernel_rfl) (by kernel_rfl) (by kernel_rfl) (fun _ _ _ h => h) (Or.inl ⟨by kernel_rfl, ?_⟩) hHeld ?_
  rotate_left
  · intro w hSw; (try dsimp only at hSw); go_simp; try with_reducible rfl
  simp only [Act.put, List.setIfInBounds_toArray, List.set_cons_zero, List.set_cons_succ]
  refine wpAnyH_ready (rs := [5]) (by kernel_rfl) (by simp) ?_
  refine AllReadyH.cons rfl (fun K hK => ?_) AllReadyH.nil
  refine step_store_blk rfl rfl 32 _ _ rfl (b + 1) _ rfl rfl HQ1.out info_frame rfl rfl ?_
  intro W3 hb3 hf3
  have hc3 := HC.out W3 hf3
  have HB3 := Lib.hid hb3
  have HF3 := Lib.hid hf3
  clear hb3 hf3
  refine hK.out _ _ ?_ (fun hHeld2 => ?_)
  · exact hc3
  clear hK K hHeld
  rename _ => hHeld
  (try simp only [Act.put, List.setIfInBounds_toArray, List.set_cons_zero, List.set_cons_succ])
  refine wpAnyH_take (i := 6) (oi := { dst := some 5, op := Op.assign (Operand.const (Value.bool false)), type := 4, pos := "block.go:33", after := #[{ on := 5, ground := Ground.chain }, { on := 0, ground := Ground.phase }, { on := 1, ground := Ground.textOnly Departure.lateStores }, { on := 2, ground := Ground.textOnly Departure.lateStores }, { on := 3, ground := Ground.textOnly Departure.lateStores }, { on := 4, ground := Ground.textOnly Departure.lateStores }, { on := 5, ground := Ground.phase }], guard := none }) (v := ?_) rfl (by kernel_rfl) (by kernel_rfl) (by kernel_rfl) (fun _ _ _ h => h) (Or.inl ⟨by kernel_rfl, ?_⟩) hHeld ?_
  rotate_left
  · intro w hSw; (try dsimp only at hSw); go_simp; try with_reducible rfl
  simp only [Act.put, List.setIfInBounds_toArray, List.set_cons_zero, List.set_cons_succ]
  refine wpAnyH_ready (rs := [7]) (by kernel_rfl) (by simp) ?_
  refine AllReadyH.cons rfl (fun K hK => ?_) AllReadyH.nil
  refine step_store_blk rfl rfl 34 _ _ rfl (b + 1 + 1) _ rfl rfl (HQ2.out.fr HF3.out HN.out) info_fault rfl rfl ?_
  intro W4 hb4 hf4
  have hc4 := HD.out W3 W4 HF3.out hf4
  have HB4 := Lib.hid hb4
  have HF4 := Lib.hid hf4
  clear hb4 hf4
  refine hK.out _ _ ?_ (fun hHeld2 => ?_)
  · exact hc4
  clear hK K hHeld
  rename _ => hHeld
  (try simp only [Act.put, List.setIfInBounds_toArray, List.set_cons_zero, List.set_cons_succ])
  refine wpAnyH_done (by kernel_rfl) ?_ _
  go_wp2
  obtain ⟨k1, k2⟩ := un3 _ t1d.out HB3.out HF3.out HB4.out HF4.out
  exact bodyPost_ret (res_fbf (p := 4) (q := 6) (r := 5) rfl rfl rfl rfl rfl k1 HB4.out) rfl ⟨rfl, k2⟩
end
end Go.Proofs.Ytnflegdoeomhcaa
