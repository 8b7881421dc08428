/- Stage 12: own (a law's): a frame of at most so many octets and settings, its own. -/
import Derived.Test.YtnflegdoeomhcaaVi
namespace Go.Own
open Go.RowKit
set_option linter.unusedVariables false
end Go.Own
namespace Go.Proofs.Ytnflegdoeomhcaa
open Go.RowKit Go.Own Go.Frm
set_option linter.unusedVariables false
set_option linter.unusedSimpArgs false
set_option maxRecDepth 100000
/-- a frame of its first octets and settings -/
def smF (f : Fm) (m : Nat) : Fm := ⟨f.kind, f.stream, f.fin, f.eh, f.ack, f.prio, f.pay.take m, f.flags, f.pad, f.depend, f.excl, f.weight, f.code, f.list.take 20, f.last, f.inc⟩
theorem scells_take : ∀ (l : List (Int × Nat)) (k : Nat), (scells l).take (k * 2) = scells (l.take k)
  | [], k => by simp [scells]
  | a :: l, 0 => by simp [scells]
  | a :: l, k + 1 => by
    have e : scells (a :: l) = scell a ++ scells l := by simp [scells]
    have e2 : scells ((a :: l).take (k + 1)) = scell a ++ scells (l.take k) := by simp [scells]
    have e1 : (scell a).length = 2 := rfl
    rw [e, e2, List.take_append, List.take_of_length_le (by rw [e1]; omega), e1, show (k + 1) * 2 - 2 = k * 2 by omega, scells_take l k]
set_option maxHeartbeats 4000000 in
theorem own_c (f : Fm) {w : World} {A B : Option Addr} {np c nl d : Nat} (hp : Rd w 1 A np (f.pay.map BV)) (hl : Rd w 2 B nl (scells f.list)) (h1 : np ≤ c) (h2 : nl ≤ d) (h3 : c ≤ 9223372036854775807) (h4 : d ≤ 9223372036854775807) (N M : Nat) (hN : min np 300 = N) (hM : min nl 20 = M) :
    Calls Try.prog 11 #[.agg #[.int .i64 f.kind, .int .i64 f.stream, .bool f.fin, .bool f.eh, .bool f.ack, .bool f.prio, .slice A np c, .int .i64 f.flags, .int .i64 f.pad, .int .i64 f.depend, .bool f.excl, .int .i64 f.weight, .int .u32 (f.code : Int), .slice B nl d, .int .i64 f.last, .int .i64 f.inc], .int .i64 300] w fun e w' => ∃ A1 c1 B1 d1, e = .returned (.agg #[.int .i64 f.kind, .int .i64 f.stream, .bool f.fin, .bool f.eh, .bool f.ack, .bool f.prio, .slice A1 N c1, .int .i64 f.flags, .int .i64 f.pad, .int .i64 f.depend, .bool f.excl, .int .i64 f.weight, .int .u32 (f.code : Int), .slice B1 M d1, .int .i64 f.last, .int .i64 f.inc]) ∧ St (fun _ => False) w w' [SLo 0 5 1 (.slice A1 N c1) N ((f.pay.take 300).map BV), SLo 0 54 2 (.slice B1 M d1) M (scells (f.list.take 20))] := by
  have hpl : f.pay.length = np := by simpa using hp.1
  have hll : f.list.length = nl := rd_set_len hl
  have hp1 : Rd w 1 A N ((f.pay.take 300).map BV) := by
    have := hp.take (k := N) (by omega)
    rw [Nat.mul_one, ← List.map_take] at this
    have e : f.pay.take N = f.pay.take 300 := by rw [List.take_eq_take_iff]; omega
    rw [e] at this
    exact this
  have hl1 : Rd w 2 B M (scells (f.list.take 20)) := by
    have := hl.take (k := M) (by omega)
    rw [scells_take] at this
    have e : f.list.take M = f.list.take 20 := by rw [List.take_eq_take_iff]; omega
    rw [e] at this
    exact this
  have mN1 : (if (300 : Int) < (np : Int) then 300 else (np : Int)) = (N : Int) := by split <;> omega
  have mN2 : (if (np : Int) ≤ 300 then (np : Int) else 300) = (N : Int) := by split <;> omega
  have mN3 : (if (np : Int) < 300 then (np : Int) else 300) = (N : Int) := by split <;> omega
  have mM1 : (if (20 : Int) < (nl : Int) then 20 else (nl : Int)) = (M : Int) := by split <;> omega
  have mM2 : (if (nl : Int) ≤ 20 then (nl : Int) else 20) = (M : Int) := by split <;> omega
  have mM3 : (if (nl : Int) < 20 then (nl : Int) else 20) = (M : Int) := by split <;> omega
  have hNc : N ≤ c := by omega
  have hMd : M ≤ d := by omega
  have HN : Hid (N ≤ 300) := by unfold Hid; omega
  have HM : Hid (M ≤ 20) := by unfold Hid; omega
  have HP := Lib.hid hp1
  have HL := Lib.hid hl1
  clear hp hl hp1 hl1 hpl hll hN hM
  go_enter Try.func11, Try.ntmps11
  go_upto_region 1 with (fail)
  obtain ⟨r, hr⟩ : ∃ r, w.heap.size = r := ⟨_, rfl⟩
  obtain ⟨W1, hW1⟩ : ∃ W1, (w.alloc (.cells #[.int .i64 f.kind, .int .i64 f.stream, .bool f.fin, .bool f.eh, .bool f.ack, .bool f.prio, .slice A np c, .int .i64 f.flags, .int .i64 f.pad, .int .i64 f.depend, .bool f.excl, .int .i64 f.weight, .int .u32 (f.code : Int), .slice B nl d, .int .i64 f.last, .int .i64 f.inc] 32)).alloc (.cells #[.int .i64 0, .int .i64 0, .bool false, .bool false, .bool false, .bool false, .slice none 0 0, .int .i64 0, .int .i64 0, .int .i64 0, .bool false, .int .i64 0, .int .u32 0, .slice none 0 0, .int .i64 0, .int .i64 0] 32) = W1 := ⟨_, rfl⟩
  have t1 : St (fun _ => False) w W1 [BLo r 32 [.int .i64 f.kind, .int .i64 f.stream, .bool f.fin, .bool f.eh, .bool f.ack, .bool f.prio, .slice A np c, .int .i64 f.flags, .int .i64 f.pad, .int .i64 f.depend, .bool f.excl, .int .i64 f.weight, .int .u32 (f.code : Int), .slice B nl d, .int .i64 f.last, .int .i64 f.inc], BLo (r + 1) 32 [.int .i64 0, .int .i64 0, .bool false, .bool false, .bool false, .bool false, .slice none 0 0, .int .i64 0, .int .i64 0, .int .i64 0, .bool false, .int .i64 0, .int .u32 0, .slice none 0 0, .int .i64 0, .int .i64 0]] := by
    have s0 := ((St.nil (fun _ => False) w).block 32 [.int .i64 f.kind, .int .i64 f.stream, .bool f.fin, .bool f.eh, .bool f.ack, .bool f.prio, .slice A np c, .int .i64 f.flags, .int .i64 f.pad, .int .i64 f.depend, .bool f.excl, .int .i64 f.weight, .int .u32 (f.code : Int), .slice B nl d, .int .i64 f.last, .int .i64 f.inc]).block 32 [.int .i64 0, .int .i64 0, .bool false, .bool false, .bool false, .bool false, .slice none 0 0, .int .i64 0, .int .i64 0, .int .i64 0, .bool false, .int .i64 0, .int .u32 0, .slice none 0 0, .int .i64 0, .int .i64 0]
    rw [World.size_alloc, hr, hW1] at s0
    exact s0
  rw [hW1, hr]
  have T1 := Lib.hid t1
  clear hr hW1 t1
  have hb := St.blk0 T1.out
  have y6 : W1.cell? ⟨r, 6, none⟩ = some (.slice A np c) := (hb.cell 6).trans rfl
  have yl := hb.lt
  have HB1 : Hid (Below W1.heap.size W1 (W1.alloc (.cells #[] 5))) := (Below.refl _ _).alloc (Nat.le_refl _) _
  have HO1 := Lib.hid (own_lit W1 5 1)
  have HP1 := Lib.hid ((T1.out.rd HP.out (fun _ _ h => h)).below HB1.out)
  clear hb
  go_upto_region 2 with (first
    | (at_builtin
       refine wpList_append_rd rfl (.tmp 5) (.tmp 13) 22 rfl EB12 (.slice (some ⟨W1.heap.size, 0, none⟩) 0 0) 0 [] rfl HO1.out A N c ((f.pay.take 300).map BV) rfl HP1.out (BV_one _) (by have := HN.out; omega) (by have := HN.out; unfold maxLen; omega) HB1.out.size ?_
       intro A1 c1 W2 ho2 hf2 h2
       simp only [Nat.zero_add, List.nil_append] at ho2 ⊢
       have h2' := st_app HB1.out rfl ho2 hf2
       have t2 : St (fun _ => False) w W2 [BLo r 32 [.int .i64 f.kind, .int .i64 f.stream, .bool f.fin, .bool f.eh, .bool f.ack, .bool f.prio, .slice A np c, .int .i64 f.flags, .int .i64 f.pad, .int .i64 f.depend, .bool f.excl, .int .i64 f.weight, .int .u32 (f.code : Int), .slice B nl d, .int .i64 f.last, .int .i64 f.inc], BLo (r + 1) 32 [.int .i64 0, .int .i64 0, .bool false, .bool false, .bool false, .bool false, .slice none 0 0, .int .i64 0, .int .i64 0, .int .i64 0, .bool false, .int .i64 0, .int .u32 0, .slice none 0 0, .int .i64 0, .int .i64 0], SLo 0 5 1 (.slice A1 N c1) N ((f.pay.take 300).map BV)] := T1.out.add (St.floor [] [] h2' (Nat.zero_le _))
       have T2 := Lib.hid t2
       have hb := St.blk0 t2
       have x6 : W2.cell? ⟨r, 6, none⟩ = some (.slice A np c) := (hb.cell 6).trans rfl
       have xf := hb.frozen 6
       have xl := hb.lt
       clear h2 h2' t2 hb ho2 hf2))
  obtain ⟨W3, hW3⟩ : ∃ W3, W2.setCell ⟨r, 6, none⟩ (.slice A1 N c1) = W3 := ⟨_, rfl⟩
  have t3 : St (fun _ => False) w W3 [BLo r 32 [.int .i64 f.kind, .int .i64 f.stream, .bool f.fin, .bool f.eh, .bool f.ack, .bool f.prio, .slice A1 N c1, .int .i64 f.flags, .int .i64 f.pad, .int .i64 f.depend, .bool f.excl, .int .i64 f.weight, .int .u32 (f.code : Int), .slice B nl d, .int .i64 f.last, .int .i64 f.inc], BLo (r + 1) 32 [.int .i64 0, .int .i64 0, .bool false, .bool false, .bool false, .bool false, .slice none 0 0, .int .i64 0, .int .i64 0, .int .i64 0, .bool false, .int .i64 0, .int .u32 0, .slice none 0 0, .int .i64 0, .int .i64 0], SLo 0 5 1 (.slice A1 N c1) N ((f.pay.take 300).map BV)] := hW3 ▸ St.set0 T2.out 6 (.slice A1 N c1)
  rw [hW3]
  have T3 := Lib.hid t3
  clear T1 T2 t3 hW3 y6 yl x6 xf xl HP1 HB1 HO1
  have hb := St.blk0 T3.out
  have y13 : W3.cell? ⟨r, 13, none⟩ = some (.slice B nl d) := (hb.cell 13).trans rfl
  have yl := hb.lt
  have HB1 : Hid (Below W3.heap.size W3 (W3.alloc (.cells #[] 54))) := (Below.refl _ _).alloc (Nat.le_refl _) _
  have HO1 := Lib.hid (own_lit W3 54 2)
  have HL1 := Lib.hid ((T3.out.rd HL.out (fun _ _ h => h)).below HB1.out)
  clear hb
  go_upto_region 3 with (first
    | (at_builtin
       refine wpList_append_rd rfl (.tmp 16) (.tmp 23) 30 rfl ES12 (.slice (some ⟨W3.heap.size, 0, none⟩) 0 0) 0 [] rfl HO1.out B M d (scells (f.list.take 20)) rfl HL1.out (scells_one _) (by have := HM.out; omega) (by have := HM.out; unfold maxLen; omega) HB1.out.size ?_
       intro B1 d1 W4 ho2 hf2 h2
       simp only [Nat.zero_add, List.nil_append] at ho2 ⊢
       have h2' := st_app HB1.out rfl ho2 hf2
       have t4 : St (fun _ => False) w W4 [BLo r 32 [.int .i64 f.kind, .int .i64 f.stream, .bool f.fin, .bool f.eh, .bool f.ack, .bool f.prio, .slice A1 N c1, .int .i64 f.flags, .int .i64 f.pad, .int .i64 f.depend, .bool f.excl, .int .i64 f.weight, .int .u32 (f.code : Int), .slice B nl d, .int .i64 f.last, .int .i64 f.inc], BLo (r + 1) 32 [.int .i64 0, .int .i64 0, .bool false, .bool false, .bool false, .bool false, .slice none 0 0, .int .i64 0, .int .i64 0, .int .i64 0, .bool false, .int .i64 0, .int .u32 0, .slice none 0 0, .int .i64 0, .int .i64 0], SLo 0 5 1 (.slice A1 N c1) N ((f.pay.take 300).map BV), SLo 0 54 2 (.slice B1 M d1) M (scells (f.list.take 20))] := T3.out.add (St.floor [] [] h2' (Nat.zero_le _))
       have T4 := Lib.hid t4
       have hb := St.blk0 t4
       have x13 : W4.cell? ⟨r, 13, none⟩ = some (.slice B nl d) := (hb.cell 13).trans rfl
       have xf := hb.frozen 13
       have xl := hb.lt
       clear h2 h2' t4 hb ho2 hf2))
  obtain ⟨W5, hW5⟩ : ∃ W5, W4.setCell ⟨r, 13, none⟩ (.slice B1 M d1) = W5 := ⟨_, rfl⟩
  have t5 : St (fun _ => False) w W5 [BLo r 32 [.int .i64 f.kind, .int .i64 f.stream, .bool f.fin, .bool f.eh, .bool f.ack, .bool f.prio, .slice A1 N c1, .int .i64 f.flags, .int .i64 f.pad, .int .i64 f.depend, .bool f.excl, .int .i64 f.weight, .int .u32 (f.code : Int), .slice B1 M d1, .int .i64 f.last, .int .i64 f.inc], BLo (r + 1) 32 [.int .i64 0, .int .i64 0, .bool false, .bool false, .bool false, .bool false, .slice none 0 0, .int .i64 0, .int .i64 0, .int .i64 0, .bool false, .int .i64 0, .int .u32 0, .slice none 0 0, .int .i64 0, .int .i64 0], SLo 0 5 1 (.slice A1 N c1) N ((f.pay.take 300).map BV), SLo 0 54 2 (.slice B1 M d1) M (scells (f.list.take 20))] := hW5 ▸ St.set0 T4.out 13 (.slice B1 M d1)
  rw [hW5]
  have T5 := Lib.hid t5
  clear T3 T4 t5 hW5 y13 yl x13 xf xl HL1 HB1 HO1
  have hb := St.blk0 T5.out
  obtain ⟨x0, x1, x2, x3, x4, x5, x6, x7, x8, x9, x10, x11, x12, x13, x14, x15⟩ := cells16v hb
  have xl := hb.lt
  clear hb
  go_wp2_with (first
    | (with_reducible refine guard_store 32 _ _ ?_
       refine wpList_store_blk rfl rfl 32 _ _ rfl (r + 1) _ rfl rfl (St.blk1 T5.out) info_frame rfl rfl ?_
       intro W6 hb6 hf6
       have t6 := St.drop0 (St.drop0 (St.blkToL [BLo r 32 [.int .i64 f.kind, .int .i64 f.stream, .bool f.fin, .bool f.eh, .bool f.ack, .bool f.prio, .slice A1 N c1, .int .i64 f.flags, .int .i64 f.pad, .int .i64 f.depend, .bool f.excl, .int .i64 f.weight, .int .u32 (f.code : Int), .slice B1 M d1, .int .i64 f.last, .int .i64 f.inc]] T5.out hb6 hf6))
       have HB6 := Lib.hid hb6
       have T6 := Lib.hid t6
       clear hb6 hf6 t6))
  exact bodyPost_ret (res_frame (p := 4) rfl rfl rfl HB6.out) rfl ⟨_, _, _, _, rfl, T6.out⟩
end Go.Proofs.Ytnflegdoeomhcaa
