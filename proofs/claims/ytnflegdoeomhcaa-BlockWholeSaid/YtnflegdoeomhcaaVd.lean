/- Stage 12: isTooMuch, the clones, copyOf. -/
import Derived.Test.YtnflegdoeomhcaaVc
namespace Go.Own
open Go.RowKit
set_option linter.unusedVariables false
theorem own_lit (w : World) (e : TypeId) (size : Nat) : (w.alloc (.cells #[] e)).ownsRow w.heap.size e size (.slice (some ⟨w.heap.size, 0, none⟩) 0 0) 0 [] := by
  have h := own_of_blk (n := 0) (size := size) (cap := 0) (Blk.new w e []) (by simp) (Nat.le_refl _) (by unfold maxLen; omega)
  rw [List.take_nil] at h
  refine ⟨h.1, ?_⟩
  rcases h.2 with hn | ⟨g, cap, cur, hv, hb, rest⟩
  · exact .inl hn
  · refine .inr ⟨g, cap, cur, hv, ?_, rest⟩
    cases hv
    exact Nat.le_refl _
theorem rd_none {w : World} {size n : Nat} {vs : List Value} (h : Rd w size none n vs) : n = 0 ∧ vs = [] := by
  have hn : n = 0 := by
    rcases Nat.eq_zero_or_pos n with h0 | h0
    · exact h0
    · obtain ⟨b, o, he, _⟩ := h.2 h0; cases he
  subst hn
  exact ⟨rfl, List.eq_nil_of_length_eq_zero (by simpa using h.1)⟩
theorem info_parts {P : Program} {e : TypeId} {z : Value} {k b : Nat} (h : (P.info? e).map (fun i => (i.zero, i.size, i.bytes)) = some (some z, k, b)) : ∃ i, P.info? e = some i ∧ i.zero = some z ∧ i.size = k ∧ i.bytes = b := by
  obtain ⟨i, hi, hx⟩ := Option.map_eq_some_iff.1 h
  simp only [Prod.mk.injEq] at hx
  exact ⟨i, hi, hx⟩
/-- append onto an owned slice, the owned row told by a floor: as wpList_append_rd, w's size said apart -/
theorem st_app {w w1 w2 : World} {e : TypeId} {size n : Nat} {v v' : Value} {xs : List Value} (hb : Below w.heap.size w w1) (hv : v.ownBlock = some w.heap.size) (ho : w2.ownsRow w.heap.size e size v' n xs) (hf : Fr (fun i => some i = v.ownBlock) w1 w2) : St (fun _ => False) w w2 [SLo w.heap.size e size v' n xs] := by
  refine St.made_own ho (hb.trans (hf.below (B := w.heap.size) hb.size (fun i hi h => ?_)))
  rw [hv] at h
  cases h
  exact Nat.le_refl _
end Go.Own
namespace Go.Proofs.Ytnflegdoeomhcaa
open Go.RowKit Go.Own Go.Frm
set_option linter.unusedVariables false
set_option linter.unusedSimpArgs false
set_option maxRecDepth 100000
/-- the cells of settings -/
def scell (s : Int × Nat) : List Value := [.int .i64 s.1, .int .u32 (s.2 : Int)]
def scells (l : List (Int × Nat)) : List Value := l.flatMap scell
theorem scells_length (l : List (Int × Nat)) : (scells l).length = l.length * 2 := by
  induction l with
  | nil => rfl
  | cons s l ih => simp [scells, scell] at ih ⊢; omega
theorem scells_at : ∀ (l : List (Int × Nat)) (k : Nat) (s : Int × Nat), l[k]? = some s → (scells l)[k * 2]? = some (.int .i64 s.1) ∧ (scells l)[k * 2 + 1]? = some (.int .u32 (s.2 : Int))
  | [], k, s, h => by simp at h
  | a :: l, 0, s, h => by simp at h; subst h; exact ⟨rfl, rfl⟩
  | a :: l, k + 1, s, h => by
    have h' := scells_at l k s (by simpa using h)
    have e : scells (a :: l) = scell a ++ scells l := by simp [scells]
    have e1 : (scell a).length = 2 := rfl
    rw [e, List.getElem?_append_right (by rw [e1]; omega), List.getElem?_append_right (by rw [e1]; omega), e1]
    rw [show (k + 1) * 2 - 2 = k * 2 by omega, show (k + 1) * 2 + 1 - 2 = k * 2 + 1 by omega]
    exact h'
theorem scells_one (l : List (Int × Nat)) : ∀ v ∈ scells l, v.oneCell' = true := by
  intro v hv
  obtain ⟨s, _, hs⟩ := List.mem_flatMap.1 hv
  simp [scell] at hs
  rcases hs with rfl | rfl <;> rfl
theorem rd_set_len {w : World} {A : Option Addr} {n : Nat} {l : List (Int × Nat)} (h : Rd w 2 A n (scells l)) : l.length = n := by
  have := h.1
  rw [scells_length] at this
  omega
theorem info_u8 : (Try.prog.info? 5).map (fun i => (i.zero, i.size, i.bytes)) = some (some (.int .u8 0), 1, 1) := by kernel_rfl
theorem info_set : (Try.prog.info? 54).map (fun i => (i.zero, i.size, i.bytes)) = some (some (.agg #[.int .i64 0, .int .u32 0]), 2, 16) := by kernel_rfl
theorem EB12 : Elt Try.prog 22 5 (.int .u8 0) 1 1 := ⟨Try.underlying22, info_parts info_u8, rfl, by omega⟩
theorem ES12 : Elt Try.prog 30 54 (.agg #[.int .i64 0, .int .u32 0]) 2 16 := ⟨Try.underlying30, info_parts info_set, rfl, by omega⟩
section
variable {S : Nat → Prop} {w0 w : World} {L : List Ob} {p : Nat} {a : Asm}
set_option maxHeartbeats 1000000 in
theorem tooMuch_c (s : St S w0 w (AO p a :: L)) (B : Option Addr) (n c : Nat) (z : Bool) (h1 : a.most ≤ 1000000) (h2 : a.f.pay.length ≤ 1000000) (h3 : n ≤ 1000000) (hz : decide ((a.most : Int) - (a.f.pay.length : Int) < (n : Int)) = z) :
    Calls Try.prog 20 #[.pointer (some ⟨p, 0, none⟩), .slice B n c] w fun e w' => e = .returned (.bool z) ∧ ∃ k, w' = w.drewN k := by
  have HS := Lib.hid s
  have HL : Hid (∀ k, Calls Try.prog 12 #[.pointer (some ⟨p, 0, none⟩)] (w.drewN k) fun e w' => e = .returned (.int .i64 (a.f.pay.length : Int)) ∧ w' = w.drewN k) := fun k => len_c (HS.out.drewN k)
  obtain ⟨x, hx⟩ : ∃ x, a.f.pay.length = x := ⟨_, rfl⟩
  obtain ⟨m, hm⟩ : ∃ m, a.most = m := ⟨_, rfl⟩
  obtain ⟨P, pc, D, ll, lc, s⟩ := ao_open s
  obtain ⟨hl, _, z0, _⟩ := see_a s
  rw [hx] at HL h2 hz
  rw [hm] at z0 h1 hz
  have e1 : IntKind.i64.wrap ((m : Int) - (x : Int)) = (m : Int) - (x : Int) := by rw [IntKind.wrap_i64]; omega
  clear s HS hx hm h1 h2 h3
  go_enter Try.func20, Try.ntmps20
  go_wp2
  go_quiet ((go_at_call 12; (with_reducible exact Calls.quiet_of_same (HL.out _))))
  go_wp2
  go_ret
  exact ⟨rfl, _, rfl⟩
end
set_option maxHeartbeats 4000000 in
theorem clone_c {w : World} {A : Option Addr} {n c : Nat} {xs : List UInt8} (hr : Rd w 1 A n (xs.map BV)) (hn : n ≤ 1000000) :
    Calls Try.prog 22 #[.slice A n c] w fun e w' => ∃ A' c', e = .returned (.slice A' n c') ∧ St (fun _ => False) w w' [SLo w.heap.size 5 1 (.slice A' n c') n (xs.map BV)] := by
  cases A with
  | none =>
    obtain ⟨rfl, hx⟩ := rd_none hr
    have q : ∀ (w : World), (binOp .eql 22 (.slice none 0 c) (.slice none 0 0)).run Try.prog w = .ok (.bool true) w := fun w => Lib.run_eql_slice_nil w _ _ none 0 c 0 0 Try.underlying22
    have HS : Hid (St (fun _ => False) w w [SLo w.heap.size 5 1 (.slice none 0 0) 0 []]) := St.made (F := fun i => (Value.slice none 0 0).ownBlock = some i) (framed_SLo ..) ⟨World.ownsRow_nil _ _ _ _, rfl⟩ (fun i h => by simp [Value.ownBlock] at h) (Below.refl _ _)
    have HX := Lib.hid hx
    clear hr hx
    go_enter Try.func22, Try.ntmps22
    go_wp2
    go_ret
    exact ⟨_, _, rfl, by rw [HX.out]; exact HS.out⟩
  | some ad =>
    have q : ∀ (w : World), (binOp .eql 22 (.slice (some ad) n c) (.slice none 0 0)).run Try.prog w = .ok (.bool false) w := fun w => Lib.run_eql_slice_nil w _ _ (some ad) n c 0 0 Try.underlying22
    have HO := Lib.hid (own_lit w 5 1)
    have HR := Lib.hid (hr.below ((Below.refl _ _).alloc (Nat.le_refl _) (.cells #[] 5)))
    have HB : Hid (Below w.heap.size w (w.alloc (.cells #[] 5))) := (Below.refl _ _).alloc (Nat.le_refl _) _
    have HN := Lib.hid hn
    clear hr hn
    go_enter Try.func22, Try.ntmps22
    go_wp2_with (first
      | (at_builtin
         refine wpList_append_rd rfl (.tmp 5) (.tmp 6) 22 rfl EB12 (.slice (some ⟨w.heap.size, 0, none⟩) 0 0) 0 [] rfl HO.out (some ad) n c (xs.map BV) rfl HR.out (BV_one _) (by have := HN.out; omega) (by have := HN.out; unfold maxLen; omega) HB.out.size ?_
         intro A' c' w3 ho3 hf3 h3
         simp only [Nat.zero_add, List.nil_append] at ho3 ⊢
         have H3 := Lib.hid (st_app HB.out rfl ho3 hf3)
         clear ho3 hf3 h3))
    go_ret
    exact ⟨_, _, rfl, H3.out⟩
set_option maxHeartbeats 4000000 in
theorem cloneT_c {w : World} {A : Option Addr} {n c : Nat} {l : List (Int × Nat)} (hr : Rd w 2 A n (scells l)) (hn : n ≤ 1000000) :
    Calls Try.prog 23 #[.slice A n c] w fun e w' => ∃ A' c', e = .returned (.slice A' n c') ∧ St (fun _ => False) w w' [SLo w.heap.size 54 2 (.slice A' n c') n (scells l)] := by
  cases A with
  | none =>
    obtain ⟨rfl, hx⟩ := rd_none hr
    have q : ∀ (w : World), (binOp .eql 30 (.slice none 0 c) (.slice none 0 0)).run Try.prog w = .ok (.bool true) w := fun w => Lib.run_eql_slice_nil w _ _ none 0 c 0 0 Try.underlying30
    have HS : Hid (St (fun _ => False) w w [SLo w.heap.size 54 2 (.slice none 0 0) 0 []]) := St.made (F := fun i => (Value.slice none 0 0).ownBlock = some i) (framed_SLo ..) ⟨World.ownsRow_nil _ _ _ _, rfl⟩ (fun i h => by simp [Value.ownBlock] at h) (Below.refl _ _)
    have HX := Lib.hid hx
    clear hr hx
    go_enter Try.func23, Try.ntmps23
    go_wp2
    go_ret
    exact ⟨_, _, rfl, by rw [HX.out]; exact HS.out⟩
  | some ad =>
    have q : ∀ (w : World), (binOp .eql 30 (.slice (some ad) n c) (.slice none 0 0)).run Try.prog w = .ok (.bool false) w := fun w => Lib.run_eql_slice_nil w _ _ (some ad) n c 0 0 Try.underlying30
    have HO := Lib.hid (own_lit w 54 2)
    have HR := Lib.hid (hr.below ((Below.refl _ _).alloc (Nat.le_refl _) (.cells #[] 54)))
    have HB : Hid (Below w.heap.size w (w.alloc (.cells #[] 54))) := (Below.refl _ _).alloc (Nat.le_refl _) _
    have HN := Lib.hid hn
    clear hr hn
    go_enter Try.func23, Try.ntmps23
    go_wp2_with (first
      | (at_builtin
         refine wpList_append_rd rfl (.tmp 5) (.tmp 6) 30 rfl ES12 (.slice (some ⟨w.heap.size, 0, none⟩) 0 0) 0 [] rfl HO.out (some ad) n c (scells l) rfl HR.out (scells_one _) (by have := HN.out; omega) (by have := HN.out; unfold maxLen; omega) HB.out.size ?_
         intro A' c' w3 ho3 hf3 h3
         simp only [Nat.zero_add, List.nil_append] at ho3 ⊢
         have H3 := Lib.hid (st_app HB.out rfl ho3 hf3)
         clear ho3 hf3 h3))
    go_ret
    exact ⟨_, _, rfl, H3.out⟩
set_option maxHeartbeats 4000000 in
theorem copyOf_c (f : Fm) {w : World} {A B : Option Addr} {np c nl d : Nat} (hp : Rd w 1 A np (f.pay.map BV)) (hl : Rd w 2 B nl (scells f.list)) (h1 : np ≤ 1000000) (h2 : nl ≤ 1000000) :
    Calls Try.prog 19 #[.agg #[.int .i64 f.kind, .int .i64 f.stream, .bool f.fin, .bool f.eh, .bool f.ack, .bool f.prio, .slice A np c, .int .i64 f.flags, .int .i64 f.pad, .int .i64 f.depend, .bool f.excl, .int .i64 f.weight, .int .u32 (f.code : Int), .slice B nl d, .int .i64 f.last, .int .i64 f.inc]] w fun e w' => ∃ A1 c1 B1 d1, e = .returned (.agg #[.int .i64 f.kind, .int .i64 f.stream, .bool f.fin, .bool f.eh, .bool f.ack, .bool f.prio, .slice A1 np c1, .int .i64 f.flags, .int .i64 f.pad, .int .i64 f.depend, .bool f.excl, .int .i64 f.weight, .int .u32 (f.code : Int), .slice B1 nl d1, .int .i64 f.last, .int .i64 f.inc]) ∧ St (fun _ => False) w w' [SLo 0 5 1 (.slice A1 np c1) np (f.pay.map BV), SLo 0 54 2 (.slice B1 nl d1) nl (scells f.list)] := by
  have HP := Lib.hid hp
  have HL := Lib.hid hl
  have H1 := Lib.hid h1
  have H2 := Lib.hid h2
  clear hp hl h1 h2
  go_enter Try.func19, Try.ntmps19
  go_upto_region 1 with (fail)
  obtain ⟨r, hr⟩ : ∃ r, w.heap.size = r := ⟨_, rfl⟩
  obtain ⟨W1, hW1⟩ : ∃ W1, (w.alloc (.cells #[.int .i64 f.kind, .int .i64 f.stream, .bool f.fin, .bool f.eh, .bool f.ack, .bool f.prio, .slice A np c, .int .i64 f.flags, .int .i64 f.pad, .int .i64 f.depend, .bool f.excl, .int .i64 f.weight, .int .u32 (f.code : Int), .slice B nl d, .int .i64 f.last, .int .i64 f.inc] 32)).alloc (.cells #[.int .i64 0, .int .i64 0, .bool false, .bool false, .bool false, .bool false, .slice none 0 0, .int .i64 0, .int .i64 0, .int .i64 0, .bool false, .int .i64 0, .int .u32 0, .slice none 0 0, .int .i64 0, .int .i64 0] 32) = W1 := ⟨_, rfl⟩
  have t1 : St (fun _ => False) w W1 [BLo r 32 [.int .i64 f.kind, .int .i64 f.stream, .bool f.fin, .bool f.eh, .bool f.ack, .bool f.prio, .slice A np c, .int .i64 f.flags, .int .i64 f.pad, .int .i64 f.depend, .bool f.excl, .int .i64 f.weight, .int .u32 (f.code : Int), .slice B nl d, .int .i64 f.last, .int .i64 f.inc], BLo (r + 1) 32 [.int .i64 0, .int .i64 0, .bool false, .bool false, .bool false, .bool false, .slice none 0 0, .int .i64 0, .int .i64 0, .int .i64 0, .bool false, .int .i64 0, .int .u32 0, .slice none 0 0, .int .i64 0, .int .i64 0]] := by
    have s0 := ((St.nil (fun _ => False) w).block 32 [.int .i64 f.kind, .int .i64 f.stream, .bool f.fin, .bool f.eh, .bool f.ack, .bool f.prio, .slice A np c, .int .i64 f.flags, .int .i64 f.pad, .int .i64 f.depend, .bool f.excl, .int .i64 f.weight, .int .u32 (f.code : Int), .slice B nl d, .int .i64 f.last, .int .i64 f.inc]).block 32 [.int .i64 0, .int .i64 0, .bool false, .bool false, .bool false, .bool false, .slice none 0 0, .int .i64 0, .int .i64 0, .int .i64 0, .bool false, .int .i64 0, .int .u32 0, .slice none 0 0, .int .i64 0, .int .i64 0]
    rw [World.size_alloc, hr, hW1] at s0
    exact s0
  rw [hW1, hr]
  have T1 := Lib.hid t1
  clear hr hW1 t1
  have hb := St.blk0 T1.out
  have y6 : W1.cell? ⟨r, 6, none⟩ = some (.slice A np c) := (hb.cell 6).trans rfl
  have yl := hb.lt
  have HP1 := Lib.hid (T1.out.rd HP.out (fun _ _ h => h))
  clear hb
  go_upto_region 2 with (first
    | (go_at_call 22; (with_reducible refine (clone_c HP1.out H1.out).mono ?_); rintro e W2 ⟨A1, c1, rfl, h2⟩
       have t2 : St (fun _ => False) w W2 [BLo r 32 [.int .i64 f.kind, .int .i64 f.stream, .bool f.fin, .bool f.eh, .bool f.ack, .bool f.prio, .slice A np c, .int .i64 f.flags, .int .i64 f.pad, .int .i64 f.depend, .bool f.excl, .int .i64 f.weight, .int .u32 (f.code : Int), .slice B nl d, .int .i64 f.last, .int .i64 f.inc], BLo (r + 1) 32 [.int .i64 0, .int .i64 0, .bool false, .bool false, .bool false, .bool false, .slice none 0 0, .int .i64 0, .int .i64 0, .int .i64 0, .bool false, .int .i64 0, .int .u32 0, .slice none 0 0, .int .i64 0, .int .i64 0], SLo 0 5 1 (.slice A1 np c1) np (f.pay.map BV)] := T1.out.add (St.floor [] [] h2 (Nat.zero_le _))
       have T2 := Lib.hid t2
       have hb := St.blk0 t2
       have x6 : W2.cell? ⟨r, 6, none⟩ = some (.slice A np c) := (hb.cell 6).trans rfl
       have xf := hb.frozen 6
       have xl := hb.lt
       clear h2 t2 hb))
  obtain ⟨W3, hW3⟩ : ∃ W3, W2.setCell ⟨r, 6, none⟩ (.slice A1 np c1) = W3 := ⟨_, rfl⟩
  have t3 : St (fun _ => False) w W3 [BLo r 32 [.int .i64 f.kind, .int .i64 f.stream, .bool f.fin, .bool f.eh, .bool f.ack, .bool f.prio, .slice A1 np c1, .int .i64 f.flags, .int .i64 f.pad, .int .i64 f.depend, .bool f.excl, .int .i64 f.weight, .int .u32 (f.code : Int), .slice B nl d, .int .i64 f.last, .int .i64 f.inc], BLo (r + 1) 32 [.int .i64 0, .int .i64 0, .bool false, .bool false, .bool false, .bool false, .slice none 0 0, .int .i64 0, .int .i64 0, .int .i64 0, .bool false, .int .i64 0, .int .u32 0, .slice none 0 0, .int .i64 0, .int .i64 0], SLo 0 5 1 (.slice A1 np c1) np (f.pay.map BV)] := hW3 ▸ St.set0 T2.out 6 (.slice A1 np c1)
  rw [hW3]
  have T3 := Lib.hid t3
  clear T1 T2 t3 hW3 y6 yl x6 xf xl HP1
  have hb := St.blk0 T3.out
  have y13 : W3.cell? ⟨r, 13, none⟩ = some (.slice B nl d) := (hb.cell 13).trans rfl
  have yl := hb.lt
  have HL1 := Lib.hid (T3.out.rd HL.out (fun _ _ h => h))
  clear hb
  go_upto_region 3 with (first
    | (go_at_call 23; (with_reducible refine (cloneT_c HL1.out H2.out).mono ?_); rintro e W4 ⟨B1, d1, rfl, h2⟩
       have t4 : St (fun _ => False) w W4 [BLo r 32 [.int .i64 f.kind, .int .i64 f.stream, .bool f.fin, .bool f.eh, .bool f.ack, .bool f.prio, .slice A1 np c1, .int .i64 f.flags, .int .i64 f.pad, .int .i64 f.depend, .bool f.excl, .int .i64 f.weight, .int .u32 (f.code : Int), .slice B nl d, .int .i64 f.last, .int .i64 f.inc], BLo (r + 1) 32 [.int .i64 0, .int .i64 0, .bool false, .bool false, .bool false, .bool false, .slice none 0 0, .int .i64 0, .int .i64 0, .int .i64 0, .bool false, .int .i64 0, .int .u32 0, .slice none 0 0, .int .i64 0, .int .i64 0], SLo 0 5 1 (.slice A1 np c1) np (f.pay.map BV), SLo 0 54 2 (.slice B1 nl d1) nl (scells f.list)] := T3.out.add (St.floor [] [] h2 (Nat.zero_le _))
       have T4 := Lib.hid t4
       have hb := St.blk0 t4
       have x13 : W4.cell? ⟨r, 13, none⟩ = some (.slice B nl d) := (hb.cell 13).trans rfl
       have xf := hb.frozen 13
       have xl := hb.lt
       clear h2 t4 hb))
  obtain ⟨W5, hW5⟩ : ∃ W5, W4.setCell ⟨r, 13, none⟩ (.slice B1 nl d1) = W5 := ⟨_, rfl⟩
  have t5 : St (fun _ => False) w W5 [BLo r 32 [.int .i64 f.kind, .int .i64 f.stream, .bool f.fin, .bool f.eh, .bool f.ack, .bool f.prio, .slice A1 np c1, .int .i64 f.flags, .int .i64 f.pad, .int .i64 f.depend, .bool f.excl, .int .i64 f.weight, .int .u32 (f.code : Int), .slice B1 nl d1, .int .i64 f.last, .int .i64 f.inc], BLo (r + 1) 32 [.int .i64 0, .int .i64 0, .bool false, .bool false, .bool false, .bool false, .slice none 0 0, .int .i64 0, .int .i64 0, .int .i64 0, .bool false, .int .i64 0, .int .u32 0, .slice none 0 0, .int .i64 0, .int .i64 0], SLo 0 5 1 (.slice A1 np c1) np (f.pay.map BV), SLo 0 54 2 (.slice B1 nl d1) nl (scells f.list)] := hW5 ▸ St.set0 T4.out 13 (.slice B1 nl d1)
  rw [hW5]
  have T5 := Lib.hid t5
  clear T3 T4 t5 hW5 y13 yl x13 xf xl HL1
  have hb := St.blk0 T5.out
  obtain ⟨x0, x1, x2, x3, x4, x5, x6, x7, x8, x9, x10, x11, x12, x13, x14, x15⟩ := cells16v hb
  have xl := hb.lt
  clear hb
  go_wp2_with (first
    | (with_reducible refine guard_store 32 _ _ ?_
       refine wpList_store_blk rfl rfl 32 _ _ rfl (r + 1) _ rfl rfl (St.blk1 T5.out) info_frame rfl rfl ?_
       intro W6 hb6 hf6
       have t6 := St.drop0 (St.drop0 (St.blkToL [BLo r 32 [.int .i64 f.kind, .int .i64 f.stream, .bool f.fin, .bool f.eh, .bool f.ack, .bool f.prio, .slice A1 np c1, .int .i64 f.flags, .int .i64 f.pad, .int .i64 f.depend, .bool f.excl, .int .i64 f.weight, .int .u32 (f.code : Int), .slice B1 nl d1, .int .i64 f.last, .int .i64 f.inc]] T5.out hb6 hf6))
       have HB6 := Lib.hid hb6
       have T6 := Lib.hid t6
       clear hb6 hf6 t6))
  exact bodyPost_ret (res_frame (p := 2) rfl rfl rfl HB6.out) rfl ⟨_, _, _, _, rfl, T6.out⟩
end Go.Proofs.Ytnflegdoeomhcaa
