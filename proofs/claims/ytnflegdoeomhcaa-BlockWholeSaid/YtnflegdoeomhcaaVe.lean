/- Stage 12: begin. -/
import Derived.Test.YtnflegdoeomhcaaVd
namespace Go.Proofs.Ytnflegdoeomhcaa
open Go.RowKit Go.Own Go.Frm
set_option linter.unusedVariables false
set_option linter.unusedSimpArgs false
set_option maxRecDepth 100000
abbrev LB (L : List Ob) (b : Nat) (cs : List Value) : List Ob := L ++ [BLo b 32 cs]
abbrev LC (L : List Ob) (r : Nat) : List Ob := L ++ [BLo r 32 zero16, BLo (r + 1) 34 [.bool false, .int .u32 0, .int .i64 0]]
section
variable {S : Nat → Prop} {w0 w : World} {L : List Ob}
theorem St.three (s : St S w0 w L) (cs : List Value) (W : World) (hW : ((w.alloc (.cells cs.toArray 32)).alloc (.cells zero16.toArray 32)).alloc (.cells #[.bool false, .int .u32 0, .int .i64 0] 34) = W) : St S w0 W (LC (LB L w.heap.size cs) (w.heap.size + 1)) := by
  have s1 := s.block 32 cs
  have s2 := St.two s1 W hW
  rw [World.size_alloc] at s2
  exact s2
theorem below3 {o1 o2 o3 : Obj} (w W : World) (hW : ((w.alloc o1).alloc o2).alloc o3 = W) : Below w.heap.size w W := by
  subst hW
  exact (((Below.refl _ w).alloc (Nat.le_refl _) o1).alloc (by simp) o2).alloc (by simp; omega) o3
theorem see3 {b r : Nat} {cs : List Value} (M : List Ob) (s : St S w0 w (M ++ LC (LB L b cs) r)) : Blk w b 32 cs ∧ Blk w r 32 zero16 ∧ Blk w (r + 1) 34 [.bool false, .int .u32 0, .int .i64 0] := by
  have h1 : St S w0 w ((M ++ L) ++ BLo b 32 cs :: [BLo r 32 zero16, BLo (r + 1) 34 [.bool false, .int .u32 0, .int .i64 0]]) := by simpa [LC, LB, List.append_assoc] using s
  have h2 : St S w0 w ((M ++ L ++ [BLo b 32 cs]) ++ BLo r 32 zero16 :: [BLo (r + 1) 34 [.bool false, .int .u32 0, .int .i64 0]]) := by simpa [LC, LB, List.append_assoc] using s
  have h3 : St S w0 w ((M ++ L ++ [BLo b 32 cs, BLo r 32 zero16]) ++ BLo (r + 1) 34 [.bool false, .int .u32 0, .int .i64 0] :: []) := by simpa [LC, LB, List.append_assoc] using s
  exact ⟨St.blk _ _ h1, St.blk _ _ h2, St.blk _ _ h3⟩
theorem un3 {b r : Nat} {cs c16 c3 : List Value} {W W' : World} (M : List Ob) (s : St S w0 w (M ++ LC (LB L b cs) r)) (h1 : Blk W r 32 c16) (f1 : Fr (· = r) w W) (h2 : Blk W' (r + 1) 34 c3) (f2 : Fr (· = r + 1) W W') : Blk W' r 32 c16 ∧ St S w0 W' (M ++ L) := by
  have s1 : St S w0 w ((M ++ LB L b cs) ++ [BLo r 32 zero16, BLo (r + 1) 34 [.bool false, .int .u32 0, .int .i64 0]]) := by simpa [LC, LB, List.append_assoc] using s
  obtain ⟨k1, k2⟩ := St.untwo s1 h1 f1 h2 f2
  have k3 : St S w0 W' ((M ++ L) ++ BLo b 32 cs :: []) := by simpa [LB, List.append_assoc] using k2
  have k4 := St.drop _ _ _ k3
  rw [List.append_nil] at k4
  exact ⟨k1, k4⟩
end
/-- a row behind other things goes to the second place; what lies behind it goes -/
theorem St.third {S : Nat → Prop} {w0 w : World} {A O X : Ob} {L : List Ob} (s : St S w0 w (A :: (L ++ O :: [X]))) : St S w0 w (A :: O :: L) := by
  have s1 := St.drop (A :: (L ++ [O])) X [] (by simpa using s)
  rw [List.append_nil] at s1
  obtain ⟨⟨T, ⟨F, G, hA, hF, hG, hd, rfl⟩, hT⟩, hf⟩ := s1
  obtain ⟨G1, H, h1, ⟨F2, G2, hO, hF2, h2, _, rfl⟩, hd2, rfl⟩ := Sep.app (L := L) (M := [O]) hG
  rw [Own.Sep] at h2
  subst h2
  refine ⟨⟨_, ⟨F, fun i => F2 i ∨ G1 i, hA, hF, ⟨F2, G1, hO, hF2, h1, fun i hi hn => hd2 i hn (.inl hi), rfl⟩, fun i hi hn => hd i hi (hn.elim (fun h => .inr (.inl h)) .inl), rfl⟩, fun i hi => hT i ?_⟩, hf⟩
  rcases hi with hi | hi | hi
  · exact .inl hi
  · exact .inr (.inr (.inl hi))
  · exact .inr (.inl hi)
section
variable {S : Nat → Prop} {w0 w : World} {L : List Ob} {p m : Nat} {f : Fm} {A B : Option Addr} {c nl d : Nat}
theorem fail_11 {a : Asm} (s : St S w0 w (AO p a :: L)) : Calls Try.prog 17 #[.pointer (some ⟨p, 0, none⟩), .int .u32 11] w fun e w' => e = .returned (.tuple #[.agg #[.int .i64 0, .int .i64 0, .bool false, .bool false, .bool false, .bool false, .slice none 0 0, .int .i64 0, .int .i64 0, .int .i64 0, .bool false, .int .i64 0, .int .u32 0, .slice none 0 0, .int .i64 0, .int .i64 0], .bool false, .agg #[.bool true, .int .u32 11, .int .i64 0]]) ∧ St S w0 w' (AO p (.broken 11) :: L) := fail_c s 11
theorem fail_1 {a : Asm} (s : St S w0 w (AO p a :: L)) : Calls Try.prog 17 #[.pointer (some ⟨p, 0, none⟩), .int .u32 1] w fun e w' => e = .returned (.tuple #[.agg #[.int .i64 0, .int .i64 0, .bool false, .bool false, .bool false, .bool false, .slice none 0 0, .int .i64 0, .int .i64 0, .int .i64 0, .bool false, .int .i64 0, .int .u32 0, .slice none 0 0, .int .i64 0, .int .i64 0], .bool false, .agg #[.bool true, .int .u32 1, .int .i64 0]]) ∧ St S w0 w' (AO p (.broken 1) :: L) := fail_c s 1
theorem told_no' {k : Nat} (s : St S w0 w (AO p (.opened m f k) :: L)) (e : Bool) (he : e = false) : Calls Try.prog 21 #[.pointer (some ⟨p, 0, none⟩), .bool e] w fun e w' => e = .returned (.tuple #[.agg #[.int .i64 0, .int .i64 0, .bool false, .bool false, .bool false, .bool false, .slice none 0 0, .int .i64 0, .int .i64 0, .int .i64 0, .bool false, .int .i64 0, .int .u32 0, .slice none 0 0, .int .i64 0, .int .i64 0], .bool false, .agg #[.bool false, .int .u32 0, .int .i64 0]]) ∧ St S w0 w' (AO p (.opened m f k) :: L) := by
  subst he
  exact told_no s
theorem told_yes' {k : Nat} (s : St S w0 w (AO p (.opened m f k) :: L)) (e : Bool) (he : e = true) : Calls Try.prog 21 #[.pointer (some ⟨p, 0, none⟩), .bool e] w fun e w' => ∃ A' c' B' n' d', e = .returned (.tuple #[.agg #[.int .i64 f.kind, .int .i64 f.stream, .bool f.fin, .bool true, .bool f.ack, .bool f.prio, .slice A' f.pay.length c', .int .i64 f.flags, .int .i64 f.pad, .int .i64 f.depend, .bool f.excl, .int .i64 f.weight, .int .u32 (f.code : Int), .slice B' n' d', .int .i64 f.last, .int .i64 f.inc], .bool true, .agg #[.bool false, .int .u32 0, .int .i64 0]]) ∧ St S w0 w' (AO p (.idle m) :: SLo 0 5 1 (.slice A' f.pay.length c') f.pay.length (f.pay.map BV) :: L) := by
  subst he
  exact told_yes s

set_option maxHeartbeats 4000000 in
theorem begin_many (s : St S w0 w (AO p (.idle m) :: L)) (hp : Rd w 1 A f.pay.length (f.pay.map BV)) (hl : Rd w 2 B nl (scells f.list)) (h1 : f.pay.length ≤ 1000000) (h2 : nl ≤ 1000000) (h3 : m ≤ 1000000) (hA : 0 < f.pay.length → ∀ a, A = some a → a.block ≠ p) (hB : 0 < nl → ∀ a, B = some a → a.block ≠ p) (hz : m < f.pay.length) :
    Calls Try.prog 18 #[.pointer (some ⟨p, 0, none⟩), .agg #[.int .i64 f.kind, .int .i64 f.stream, .bool f.fin, .bool f.eh, .bool f.ack, .bool f.prio, .slice A f.pay.length c, .int .i64 f.flags, .int .i64 f.pad, .int .i64 f.depend, .bool f.excl, .int .i64 f.weight, .int .u32 (f.code : Int), .slice B nl d, .int .i64 f.last, .int .i64 f.inc]] w fun e w' => e = .returned (.tuple #[.agg #[.int .i64 0, .int .i64 0, .bool false, .bool false, .bool false, .bool false, .slice none 0 0, .int .i64 0, .int .i64 0, .int .i64 0, .bool false, .int .i64 0, .int .u32 0, .slice none 0 0, .int .i64 0, .int .i64 0], .bool false, .agg #[.bool true, .int .u32 11, .int .i64 0]]) ∧ St S w0 w' (AO p (.broken 11) :: L) := by
  have HS := Lib.hid s
  have HP := Lib.hid hp
  have HL := Lib.hid hl
  have H1 := Lib.hid h1
  have H2 := Lib.hid h2
  have H3 := Lib.hid h3
  have HZ := Lib.hid hz
  have HA := Lib.hid hA
  have HB := Lib.hid hB
  clear s hp hl h1 h2 h3 hz hA hB
  go_enter Try.func18, Try.ntmps18
  go_upto_region 1 with (fail)
  obtain ⟨b, hbs⟩ : ∃ b, w.heap.size = b := ⟨_, rfl⟩
  obtain ⟨W1, hW1⟩ : ∃ W1, ((w.alloc (.cells #[.int .i64 f.kind, .int .i64 f.stream, .bool f.fin, .bool f.eh, .bool f.ack, .bool f.prio, .slice A f.pay.length c, .int .i64 f.flags, .int .i64 f.pad, .int .i64 f.depend, .bool f.excl, .int .i64 f.weight, .int .u32 (f.code : Int), .slice B nl d, .int .i64 f.last, .int .i64 f.inc] 32)).alloc (.cells #[.int .i64 0, .int .i64 0, .bool false, .bool false, .bool false, .bool false, .slice none 0 0, .int .i64 0, .int .i64 0, .int .i64 0, .bool false, .int .i64 0, .int .u32 0, .slice none 0 0, .int .i64 0, .int .i64 0] 32)).alloc (.cells #[.bool false, .int .u32 0, .int .i64 0] 34) = W1 := ⟨_, rfl⟩
  have t1 := St.three HS.out [.int .i64 f.kind, .int .i64 f.stream, .bool f.fin, .bool f.eh, .bool f.ack, .bool f.prio, .slice A f.pay.length c, .int .i64 f.flags, .int .i64 f.pad, .int .i64 f.depend, .bool f.excl, .int .i64 f.weight, .int .u32 (f.code : Int), .slice B nl d, .int .i64 f.last, .int .i64 f.inc] W1 hW1
  rw [hbs] at t1
  rw [hW1, hbs]
  have T1 : Hid (St S w0 W1 (AO p (.idle m) :: LC (LB L b [.int .i64 f.kind, .int .i64 f.stream, .bool f.fin, .bool f.eh, .bool f.ack, .bool f.prio, .slice A f.pay.length c, .int .i64 f.flags, .int .i64 f.pad, .int .i64 f.depend, .bool f.excl, .int .i64 f.weight, .int .u32 (f.code : Int), .slice B nl d, .int .i64 f.last, .int .i64 f.inc]) (b + 1))) := t1
  have HP1 := Lib.hid (HP.out.below (below3 _ _ hW1))
  have HL1 := Lib.hid (HL.out.below (below3 _ _ hW1))
  clear hbs hW1 HS t1 HP HL
  have hbx := (see3 [AO p (.idle m)] T1.out).1
  have x6 : W1.cell? ⟨b, 6, none⟩ = some (.slice A f.pay.length c) := (hbx.cell 6).trans rfl
  have xl := hbx.lt
  clear hbx
  have HM : Hid (decide (((Asm.idle m).most : Int) - ((Asm.idle m).f.pay.length : Int) < (f.pay.length : Int)) = true) := by
    have := HZ.out
    show decide ((m : Int) - ((0 : Nat) : Int) < (f.pay.length : Int)) = true
    rw [decide_eq_true_iff]
    omega
  have HM1 : Hid ((Asm.idle m).most ≤ 1000000 ∧ (Asm.idle m).f.pay.length ≤ 1000000) := ⟨H3.out, Nat.zero_le _⟩
  go_wp2_with (first
    | (go_at_call 20; (with_reducible refine (tooMuch_c T1.out _ _ _ true HM1.out.1 HM1.out.2 H1.out HM.out).mono ?_); rintro e W2 ⟨rfl, k, hk⟩
       have t2 := T1.out.drewN k
       rw [← hk] at t2
       have T2 := Lib.hid t2
       clear hk t2 x6 xl)
    | (go_at_call 17; (with_reducible refine (fail_11 T2.out).mono ?_); rintro e W3 ⟨rfl, t3⟩
       have T3 := Lib.hid t3
       have HQ1 : Hid (Blk _ (b + 1) 32 zero16) := (see3 [AO p (.broken 11)] T3.out).2.1
       have HQ2 : Hid (Blk _ (b + 1 + 1) 34 [.bool false, .int .u32 0, .int .i64 0]) := (see3 [AO p (.broken 11)] T3.out).2.2
       clear t3)
    | (with_reducible refine guard_store 32 _ _ ?_
       refine wpList_store_blk rfl rfl 32 _ _ rfl (b + 1) _ rfl rfl HQ1.out info_frame rfl rfl ?_
       intro W8 hb8 hf8
       have HB8 := Lib.hid hb8
       have HF8 := Lib.hid hf8
       clear hb8 hf8)
    | (with_reducible refine guard_store 34 _ _ ?_
       refine wpList_store_blk rfl rfl 34 _ _ rfl (b + 1 + 1) _ rfl rfl (HQ2.out.fr HF8.out (show ¬ (b + 1 + 1 = b + 1) by omega)) info_fault rfl rfl ?_
       intro W9 hb9 hf9
       have HB9 := Lib.hid hb9
       have HF9 := Lib.hid hf9
       clear hb9 hf9))
  obtain ⟨k1, k2⟩ := un3 [AO p (.broken 11)] T3.out HB8.out HF8.out HB9.out HF9.out
  exact bodyPost_ret (res_fbf (p := 4) (q := 6) (r := 5) rfl rfl rfl rfl rfl k1 HB9.out) rfl ⟨rfl, k2⟩
set_option maxHeartbeats 4000000 in
theorem begin_no (s : St S w0 w (AO p (.idle m) :: L)) (hp : Rd w 1 A f.pay.length (f.pay.map BV)) (hl : Rd w 2 B nl (scells f.list)) (h1 : f.pay.length ≤ 1000000) (h2 : nl ≤ 1000000) (h3 : m ≤ 1000000) (hA : 0 < f.pay.length → ∀ a, A = some a → a.block ≠ p) (hB : 0 < nl → ∀ a, B = some a → a.block ≠ p) (hz : f.pay.length ≤ m) (he : f.eh = false) :
    Calls Try.prog 18 #[.pointer (some ⟨p, 0, none⟩), .agg #[.int .i64 f.kind, .int .i64 f.stream, .bool f.fin, .bool f.eh, .bool f.ack, .bool f.prio, .slice A f.pay.length c, .int .i64 f.flags, .int .i64 f.pad, .int .i64 f.depend, .bool f.excl, .int .i64 f.weight, .int .u32 (f.code : Int), .slice B nl d, .int .i64 f.last, .int .i64 f.inc]] w fun e w' => e = .returned (.tuple #[.agg #[.int .i64 0, .int .i64 0, .bool false, .bool false, .bool false, .bool false, .slice none 0 0, .int .i64 0, .int .i64 0, .int .i64 0, .bool false, .int .i64 0, .int .u32 0, .slice none 0 0, .int .i64 0, .int .i64 0], .bool false, .agg #[.bool false, .int .u32 0, .int .i64 0]]) ∧ St S w0 w' (AO p (.opened m f 0) :: L) := by
  have HS := Lib.hid s
  have HP := Lib.hid hp
  have HL := Lib.hid hl
  have H1 := Lib.hid h1
  have H2 := Lib.hid h2
  have H3 := Lib.hid h3
  have HZ := Lib.hid hz
  have HA := Lib.hid hA
  have HB := Lib.hid hB
  clear s hp hl h1 h2 h3 hz hA hB
  have HE := Lib.hid he
  clear he
  go_enter Try.func18, Try.ntmps18
  go_upto_region 1 with (fail)
  obtain ⟨b, hbs⟩ : ∃ b, w.heap.size = b := ⟨_, rfl⟩
  obtain ⟨W1, hW1⟩ : ∃ W1, ((w.alloc (.cells #[.int .i64 f.kind, .int .i64 f.stream, .bool f.fin, .bool f.eh, .bool f.ack, .bool f.prio, .slice A f.pay.length c, .int .i64 f.flags, .int .i64 f.pad, .int .i64 f.depend, .bool f.excl, .int .i64 f.weight, .int .u32 (f.code : Int), .slice B nl d, .int .i64 f.last, .int .i64 f.inc] 32)).alloc (.cells #[.int .i64 0, .int .i64 0, .bool false, .bool false, .bool false, .bool false, .slice none 0 0, .int .i64 0, .int .i64 0, .int .i64 0, .bool false, .int .i64 0, .int .u32 0, .slice none 0 0, .int .i64 0, .int .i64 0] 32)).alloc (.cells #[.bool false, .int .u32 0, .int .i64 0] 34) = W1 := ⟨_, rfl⟩
  have t1 := St.three HS.out [.int .i64 f.kind, .int .i64 f.stream, .bool f.fin, .bool f.eh, .bool f.ack, .bool f.prio, .slice A f.pay.length c, .int .i64 f.flags, .int .i64 f.pad, .int .i64 f.depend, .bool f.excl, .int .i64 f.weight, .int .u32 (f.code : Int), .slice B nl d, .int .i64 f.last, .int .i64 f.inc] W1 hW1
  rw [hbs] at t1
  rw [hW1, hbs]
  have T1 : Hid (St S w0 W1 (AO p (.idle m) :: LC (LB L b [.int .i64 f.kind, .int .i64 f.stream, .bool f.fin, .bool f.eh, .bool f.ack, .bool f.prio, .slice A f.pay.length c, .int .i64 f.flags, .int .i64 f.pad, .int .i64 f.depend, .bool f.excl, .int .i64 f.weight, .int .u32 (f.code : Int), .slice B nl d, .int .i64 f.last, .int .i64 f.inc]) (b + 1))) := t1
  have HP1 := Lib.hid (HP.out.below (below3 _ _ hW1))
  have HL1 := Lib.hid (HL.out.below (below3 _ _ hW1))
  clear hbs hW1 HS t1 HP HL
  have hbx := (see3 [AO p (.idle m)] T1.out).1
  have x6 : W1.cell? ⟨b, 6, none⟩ = some (.slice A f.pay.length c) := (hbx.cell 6).trans rfl
  have xl := hbx.lt
  clear hbx
  have HM : Hid (decide (((Asm.idle m).most : Int) - ((Asm.idle m).f.pay.length : Int) < (f.pay.length : Int)) = false) := by
    have := HZ.out
    show decide ((m : Int) - ((0 : Nat) : Int) < (f.pay.length : Int)) = false
    rw [decide_eq_false_iff_not]
    omega
  have HM1 : Hid ((Asm.idle m).most ≤ 1000000 ∧ (Asm.idle m).f.pay.length ≤ 1000000) := ⟨H3.out, Nat.zero_le _⟩
  go_upto_region 3 with (first
    | (go_at_call 20; (with_reducible refine (tooMuch_c T1.out _ _ _ false HM1.out.1 HM1.out.2 H1.out HM.out).mono ?_); rintro e W2 ⟨rfl, k, hk⟩
       have t2 := T1.out.drewN k
       rw [← hk] at t2
       have hp2 := HP1.out.below (below_drewN (Below.refl _ _) k)
       rw [← hk] at hp2
       have hl2 := HL1.out.below (below_drewN (Below.refl _ _) k)
       rw [← hk] at hl2
       have T2 := Lib.hid t2
       have HP2 := Lib.hid hp2
       have HL2 := Lib.hid hl2
       clear hk t2 hp2 hl2 x6 xl))
  obtain ⟨P, pc, D, ll, lc, t2⟩ := ao_open T2.out
  obtain ⟨hpl, hpf0, z0, z1, _⟩ := see_a t2
  have hpf := hpf0 1
  have t3 := St.set0 t2 1 (.bool true)
  have hf3 : Fr (· = p) W2 (W2.setCell ⟨p, 1, none⟩ (.bool true)) := Fr.setCell (S := (· = p)) (Fr.refl _ _) (p := ⟨p, 1, none⟩) (.inl rfl) _
  have hp3 := HP2.out.fr0 hf3 (fun h0 a ha h => HA.out h0 a ha h)
  have hl3 := HL2.out.fr0 hf3 (fun h0 a ha h => HB.out h0 a ha h)
  clear T1 T2 t2 HP1 HL1 HP2 HL2 hf3 hpf0 z0
  go_upto_region 4 with (fail)
  obtain ⟨W3, hW3⟩ : ∃ W3, W2.setCell ⟨p, 1, none⟩ (.bool true) = W3 := ⟨_, rfl⟩
  rw [hW3] at t3 hp3 hl3 ⊢
  have T3 := Lib.hid t3
  have HP3 := Lib.hid hp3
  have HL3 := Lib.hid hl3
  have hbx := (see3 [BLo p 50 _, SLo 0 5 1 _ 0 []] T3.out).1
  obtain ⟨x0, x1, x2, x3, x4, x5, x6, x7, x8, x9, x10, x11, x12, x13, x14, x15⟩ := cells16v hbx
  have xl := hbx.lt
  clear hpl hpf z1 t3 hp3 hl3 hW3 hbx
  go_upto_region 5 with (first
    | (go_at_call 19; (with_reducible refine (copyOf_c f HP3.out HL3.out H1.out H2.out).mono ?_); rintro e W4 ⟨A1, c1, B1, d1, rfl, h4⟩
       have t4 := T3.out.add h4
       have T4 := Lib.hid t4
       have hpl := (St.blk0 t4).lt
       clear h4 t4)
    | (with_reducible refine guard_store 32 _ _ ?_
       refine wpList_store_in rfl rfl 32 _ _ rfl p 2 _ rfl rfl (St.blk0 T4.out) info_frame (Nat.le_of_ble_eq_true rfl) rfl ?_
       intro W5 hb5 hf5
       have t5 := St.drop1 (St.blkTo T4.out hb5 hf5)
       have T5 := Lib.hid t5
       clear t5 hb5 hf5))
  have t6 : St S w0 W5 (BLo p 50 (acells (.opened m f 0) (.slice A1 f.pay.length c1) (.slice B1 nl d1)) :: (LC (LB L b [.int .i64 f.kind, .int .i64 f.stream, .bool f.fin, .bool f.eh, .bool f.ack, .bool f.prio, .slice A f.pay.length c, .int .i64 f.flags, .int .i64 f.pad, .int .i64 f.depend, .bool f.excl, .int .i64 f.weight, .int .u32 (f.code : Int), .slice B nl d, .int .i64 f.last, .int .i64 f.inc]) (b + 1) ++ SLo 0 5 1 (.slice A1 f.pay.length c1) f.pay.length (f.pay.map BV) :: [SLo 0 54 2 (.slice B1 nl d1) nl (scells f.list)])) := T5.out
  have T6 : Hid (St S w0 W5 (AO p (.opened m f 0) :: LC (LB L b [.int .i64 f.kind, .int .i64 f.stream, .bool f.fin, .bool f.eh, .bool f.ack, .bool f.prio, .slice A f.pay.length c, .int .i64 f.flags, .int .i64 f.pad, .int .i64 f.depend, .bool f.excl, .int .i64 f.weight, .int .u32 (f.code : Int), .slice B nl d, .int .i64 f.last, .int .i64 f.inc]) (b + 1))) := ao_close (St.third t6)
  clear T3 T4 T5 t6 HP3 HL3 x0 x1 x2 x3 x4 x5 x6 x7 x8 x9 x10 x11 x12 x13 x14 x15 xl hpl
  have hbx := (see3 [AO p (.opened m f 0)] T6.out).1
  have x3 : W5.cell? ⟨b, 3, none⟩ = some (.bool f.eh) := (hbx.cell 3).trans rfl
  have xl := hbx.lt
  clear hbx
  go_wp2_with (first
    | (go_at_call 21; (with_reducible refine (told_no' T6.out _ HE.out).mono ?_); rintro e W7 ⟨rfl, t7⟩
       have T7 : Hid (St S w0 W7 ([AO p (.opened m f 0)] ++ LC (LB L b [.int .i64 f.kind, .int .i64 f.stream, .bool f.fin, .bool f.eh, .bool f.ack, .bool f.prio, .slice A f.pay.length c, .int .i64 f.flags, .int .i64 f.pad, .int .i64 f.depend, .bool f.excl, .int .i64 f.weight, .int .u32 (f.code : Int), .slice B nl d, .int .i64 f.last, .int .i64 f.inc]) (b + 1))) := t7
       have HQ1 : Hid (Blk _ (b + 1) 32 zero16) := (see3 _ T7.out).2.1
       have HQ2 : Hid (Blk _ (b + 1 + 1) 34 [.bool false, .int .u32 0, .int .i64 0]) := (see3 _ T7.out).2.2
       clear t7)
    | (with_reducible refine guard_store 32 _ _ ?_
       refine wpList_store_blk rfl rfl 32 _ _ rfl (b + 1) _ rfl rfl HQ1.out info_frame rfl rfl ?_
       intro W8 hb8 hf8
       have HB8 := Lib.hid hb8
       have HF8 := Lib.hid hf8
       clear hb8 hf8)
    | (with_reducible refine guard_store 34 _ _ ?_
       refine wpList_store_blk rfl rfl 34 _ _ rfl (b + 1 + 1) _ rfl rfl (HQ2.out.fr HF8.out (show ¬ (b + 1 + 1 = b + 1) by omega)) info_fault rfl rfl ?_
       intro W9 hb9 hf9
       have HB9 := Lib.hid hb9
       have HF9 := Lib.hid hf9
       clear hb9 hf9))
  obtain ⟨k1, k2⟩ := un3 _ T7.out HB8.out HF8.out HB9.out HF9.out
  exact bodyPost_ret (res_fbf (p := 4) (q := 6) (r := 5) rfl rfl rfl rfl rfl k1 HB9.out) rfl ⟨rfl, k2⟩
set_option maxHeartbeats 4000000 in
theorem begin_yes (s : St S w0 w (AO p (.idle m) :: L)) (hp : Rd w 1 A f.pay.length (f.pay.map BV)) (hl : Rd w 2 B nl (scells f.list)) (h1 : f.pay.length ≤ 1000000) (h2 : nl ≤ 1000000) (h3 : m ≤ 1000000) (hA : 0 < f.pay.length → ∀ a, A = some a → a.block ≠ p) (hB : 0 < nl → ∀ a, B = some a → a.block ≠ p) (hz : f.pay.length ≤ m) (he : f.eh = true) :
    Calls Try.prog 18 #[.pointer (some ⟨p, 0, none⟩), .agg #[.int .i64 f.kind, .int .i64 f.stream, .bool f.fin, .bool f.eh, .bool f.ack, .bool f.prio, .slice A f.pay.length c, .int .i64 f.flags, .int .i64 f.pad, .int .i64 f.depend, .bool f.excl, .int .i64 f.weight, .int .u32 (f.code : Int), .slice B nl d, .int .i64 f.last, .int .i64 f.inc]] w fun e w' => ∃ A' c' B' n' d', e = .returned (.tuple #[.agg #[.int .i64 f.kind, .int .i64 f.stream, .bool f.fin, .bool true, .bool f.ack, .bool f.prio, .slice A' f.pay.length c', .int .i64 f.flags, .int .i64 f.pad, .int .i64 f.depend, .bool f.excl, .int .i64 f.weight, .int .u32 (f.code : Int), .slice B' n' d', .int .i64 f.last, .int .i64 f.inc], .bool true, .agg #[.bool false, .int .u32 0, .int .i64 0]]) ∧ St S w0 w' (AO p (.idle m) :: SLo 0 5 1 (.slice A' f.pay.length c') f.pay.length (f.pay.map BV) :: L) := by
  have HS := Lib.hid s
  have HP := Lib.hid hp
  have HL := Lib.hid hl
  have H1 := Lib.hid h1
  have H2 := Lib.hid h2
  have H3 := Lib.hid h3
  have HZ := Lib.hid hz
  have HA := Lib.hid hA
  have HB := Lib.hid hB
  clear s hp hl h1 h2 h3 hz hA hB
  have HE := Lib.hid he
  clear he
  go_enter Try.func18, Try.ntmps18
  go_upto_region 1 with (fail)
  obtain ⟨b, hbs⟩ : ∃ b, w.heap.size = b := ⟨_, rfl⟩
  obtain ⟨W1, hW1⟩ : ∃ W1, ((w.alloc (.cells #[.int .i64 f.kind, .int .i64 f.stream, .bool f.fin, .bool f.eh, .bool f.ack, .bool f.prio, .slice A f.pay.length c, .int .i64 f.flags, .int .i64 f.pad, .int .i64 f.depend, .bool f.excl, .int .i64 f.weight, .int .u32 (f.code : Int), .slice B nl d, .int .i64 f.last, .int .i64 f.inc] 32)).alloc (.cells #[.int .i64 0, .int .i64 0, .bool false, .bool false, .bool false, .bool false, .slice none 0 0, .int .i64 0, .int .i64 0, .int .i64 0, .bool false, .int .i64 0, .int .u32 0, .slice none 0 0, .int .i64 0, .int .i64 0] 32)).alloc (.cells #[.bool false, .int .u32 0, .int .i64 0] 34) = W1 := ⟨_, rfl⟩
  have t1 := St.three HS.out [.int .i64 f.kind, .int .i64 f.stream, .bool f.fin, .bool f.eh, .bool f.ack, .bool f.prio, .slice A f.pay.length c, .int .i64 f.flags, .int .i64 f.pad, .int .i64 f.depend, .bool f.excl, .int .i64 f.weight, .int .u32 (f.code : Int), .slice B nl d, .int .i64 f.last, .int .i64 f.inc] W1 hW1
  rw [hbs] at t1
  rw [hW1, hbs]
  have T1 : Hid (St S w0 W1 (AO p (.idle m) :: LC (LB L b [.int .i64 f.kind, .int .i64 f.stream, .bool f.fin, .bool f.eh, .bool f.ack, .bool f.prio, .slice A f.pay.length c, .int .i64 f.flags, .int .i64 f.pad, .int .i64 f.depend, .bool f.excl, .int .i64 f.weight, .int .u32 (f.code : Int), .slice B nl d, .int .i64 f.last, .int .i64 f.inc]) (b + 1))) := t1
  have HP1 := Lib.hid (HP.out.below (below3 _ _ hW1))
  have HL1 := Lib.hid (HL.out.below (below3 _ _ hW1))
  clear hbs hW1 HS t1 HP HL
  have hbx := (see3 [AO p (.idle m)] T1.out).1
  have x6 : W1.cell? ⟨b, 6, none⟩ = some (.slice A f.pay.length c) := (hbx.cell 6).trans rfl
  have xl := hbx.lt
  clear hbx
  have HM : Hid (decide (((Asm.idle m).most : Int) - ((Asm.idle m).f.pay.length : Int) < (f.pay.length : Int)) = false) := by
    have := HZ.out
    show decide ((m : Int) - ((0 : Nat) : Int) < (f.pay.length : Int)) = false
    rw [decide_eq_false_iff_not]
    omega
  have HM1 : Hid ((Asm.idle m).most ≤ 1000000 ∧ (Asm.idle m).f.pay.length ≤ 1000000) := ⟨H3.out, Nat.zero_le _⟩
  go_upto_region 3 with (first
    | (go_at_call 20; (with_reducible refine (tooMuch_c T1.out _ _ _ false HM1.out.1 HM1.out.2 H1.out HM.out).mono ?_); rintro e W2 ⟨rfl, k, hk⟩
       have t2 := T1.out.drewN k
       rw [← hk] at t2
       have hp2 := HP1.out.below (below_drewN (Below.refl _ _) k)
       rw [← hk] at hp2
       have hl2 := HL1.out.below (below_drewN (Below.refl _ _) k)
       rw [← hk] at hl2
       have T2 := Lib.hid t2
       have HP2 := Lib.hid hp2
       have HL2 := Lib.hid hl2
       clear hk t2 hp2 hl2 x6 xl))
  obtain ⟨P, pc, D, ll, lc, t2⟩ := ao_open T2.out
  obtain ⟨hpl, hpf0, z0, z1, _⟩ := see_a t2
  have hpf := hpf0 1
  have t3 := St.set0 t2 1 (.bool true)
  have hf3 : Fr (· = p) W2 (W2.setCell ⟨p, 1, none⟩ (.bool true)) := Fr.setCell (S := (· = p)) (Fr.refl _ _) (p := ⟨p, 1, none⟩) (.inl rfl) _
  have hp3 := HP2.out.fr0 hf3 (fun h0 a ha h => HA.out h0 a ha h)
  have hl3 := HL2.out.fr0 hf3 (fun h0 a ha h => HB.out h0 a ha h)
  clear T1 T2 t2 HP1 HL1 HP2 HL2 hf3 hpf0 z0
  go_upto_region 4 with (fail)
  obtain ⟨W3, hW3⟩ : ∃ W3, W2.setCell ⟨p, 1, none⟩ (.bool true) = W3 := ⟨_, rfl⟩
  rw [hW3] at t3 hp3 hl3 ⊢
  have T3 := Lib.hid t3
  have HP3 := Lib.hid hp3
  have HL3 := Lib.hid hl3
  have hbx := (see3 [BLo p 50 _, SLo 0 5 1 _ 0 []] T3.out).1
  obtain ⟨x0, x1, x2, x3, x4, x5, x6, x7, x8, x9, x10, x11, x12, x13, x14, x15⟩ := cells16v hbx
  have xl := hbx.lt
  clear hpl hpf z1 t3 hp3 hl3 hW3 hbx
  go_upto_region 5 with (first
    | (go_at_call 19; (with_reducible refine (copyOf_c f HP3.out HL3.out H1.out H2.out).mono ?_); rintro e W4 ⟨A1, c1, B1, d1, rfl, h4⟩
       have t4 := T3.out.add h4
       have T4 := Lib.hid t4
       have hpl := (St.blk0 t4).lt
       clear h4 t4)
    | (with_reducible refine guard_store 32 _ _ ?_
       refine wpList_store_in rfl rfl 32 _ _ rfl p 2 _ rfl rfl (St.blk0 T4.out) info_frame (Nat.le_of_ble_eq_true rfl) rfl ?_
       intro W5 hb5 hf5
       have t5 := St.drop1 (St.blkTo T4.out hb5 hf5)
       have T5 := Lib.hid t5
       clear t5 hb5 hf5))
  have t6 : St S w0 W5 (BLo p 50 (acells (.opened m f 0) (.slice A1 f.pay.length c1) (.slice B1 nl d1)) :: (LC (LB L b [.int .i64 f.kind, .int .i64 f.stream, .bool f.fin, .bool f.eh, .bool f.ack, .bool f.prio, .slice A f.pay.length c, .int .i64 f.flags, .int .i64 f.pad, .int .i64 f.depend, .bool f.excl, .int .i64 f.weight, .int .u32 (f.code : Int), .slice B nl d, .int .i64 f.last, .int .i64 f.inc]) (b + 1) ++ SLo 0 5 1 (.slice A1 f.pay.length c1) f.pay.length (f.pay.map BV) :: [SLo 0 54 2 (.slice B1 nl d1) nl (scells f.list)])) := T5.out
  have T6 : Hid (St S w0 W5 (AO p (.opened m f 0) :: LC (LB L b [.int .i64 f.kind, .int .i64 f.stream, .bool f.fin, .bool f.eh, .bool f.ack, .bool f.prio, .slice A f.pay.length c, .int .i64 f.flags, .int .i64 f.pad, .int .i64 f.depend, .bool f.excl, .int .i64 f.weight, .int .u32 (f.code : Int), .slice B nl d, .int .i64 f.last, .int .i64 f.inc]) (b + 1))) := ao_close (St.third t6)
  clear T3 T4 T5 t6 HP3 HL3 x0 x1 x2 x3 x4 x5 x6 x7 x8 x9 x10 x11 x12 x13 x14 x15 xl hpl
  have hbx := (see3 [AO p (.opened m f 0)] T6.out).1
  have x3 : W5.cell? ⟨b, 3, none⟩ = some (.bool f.eh) := (hbx.cell 3).trans rfl
  have xl := hbx.lt
  clear hbx
  go_wp2_with (first
    | (go_at_call 21; (with_reducible refine (told_yes' T6.out _ HE.out).mono ?_); rintro e W7 ⟨A2, c2, B2, n2, d2, rfl, t7⟩
       have T7 : Hid (St S w0 W7 ([AO p (.idle m), SLo 0 5 1 (.slice A2 f.pay.length c2) f.pay.length (f.pay.map BV)] ++ LC (LB L b [.int .i64 f.kind, .int .i64 f.stream, .bool f.fin, .bool f.eh, .bool f.ack, .bool f.prio, .slice A f.pay.length c, .int .i64 f.flags, .int .i64 f.pad, .int .i64 f.depend, .bool f.excl, .int .i64 f.weight, .int .u32 (f.code : Int), .slice B nl d, .int .i64 f.last, .int .i64 f.inc]) (b + 1))) := t7
       have HQ1 : Hid (Blk _ (b + 1) 32 zero16) := (see3 _ T7.out).2.1
       have HQ2 : Hid (Blk _ (b + 1 + 1) 34 [.bool false, .int .u32 0, .int .i64 0]) := (see3 _ T7.out).2.2
       clear t7)
    | (with_reducible refine guard_store 32 _ _ ?_
       refine wpList_store_blk rfl rfl 32 _ _ rfl (b + 1) _ rfl rfl HQ1.out info_frame rfl rfl ?_
       intro W8 hb8 hf8
       have HB8 := Lib.hid hb8
       have HF8 := Lib.hid hf8
       clear hb8 hf8)
    | (with_reducible refine guard_store 34 _ _ ?_
       refine wpList_store_blk rfl rfl 34 _ _ rfl (b + 1 + 1) _ rfl rfl (HQ2.out.fr HF8.out (show ¬ (b + 1 + 1 = b + 1) by omega)) info_fault rfl rfl ?_
       intro W9 hb9 hf9
       have HB9 := Lib.hid hb9
       have HF9 := Lib.hid hf9
       clear hb9 hf9))
  obtain ⟨k1, k2⟩ := un3 _ T7.out HB8.out HF8.out HB9.out HF9.out
  exact bodyPost_ret (res_fbf (p := 4) (q := 6) (r := 5) rfl rfl rfl rfl rfl k1 HB9.out) rfl ⟨_, _, _, _, _, rfl, k2⟩
end
end Go.Proofs.Ytnflegdoeomhcaa
