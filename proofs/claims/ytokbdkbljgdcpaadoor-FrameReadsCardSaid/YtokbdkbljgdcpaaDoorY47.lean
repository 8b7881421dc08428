/- Several texts in one: LwD. -/
import Derived.Test.YtokbdkbljgdcpaaDoorY46
import Derived.Test.YtokbdkbljgdcpaaDoorY3
import Derived.Test.YtokbdkbljgdcpaaDoorY31
import Derived.Great.BuildSlice
import Derived.Lib.SlBytesConst
/- The laws' shown. -/
namespace Go.Proofs.YtokbdkbljgdcpaaDoor
open Go.RowKit Go.Own Go.Frm
set_option linter.unusedVariables false
set_option maxRecDepth 100000
def sF1 : Fm := ⟨0, 1, true, false, false, false, [97, 98], 0, 3, 0, false, 0, 0, [], 0, 0⟩
def sB1 : List UInt8 := [0, 0, 5, 0, 9, 0, 0, 0, 1, 2, 97, 98, 0, 0]
def sOct : List UInt8 := [0, 0, 4, 8, 0, 0, 0, 0, 3, 0, 0, 0, 0, 0, 64, 1, 0, 0, 0, 0, 0, 1]
def sOc2 : List UInt8 := [0, 64, 1, 0, 0, 0, 0, 0, 1]
theorem sW1 : writeP sF1 = (sB1, 0) := by kernel_rfl
theorem sW2 : writeP zeroF = ([], 1) := by kernel_rfl
theorem sN1 : nextP 16384 ⟨sOct, false⟩ = (⟨zeroF, ⟨true, 1, 3⟩, true⟩, ⟨sOc2, false⟩) := by kernel_rfl
theorem sN2 : nextP 16384 ⟨sOc2, false⟩ = (⟨zeroF, ⟨true, 6, 0⟩, true⟩, ⟨[], true⟩) := by kernel_rfl
theorem sN3 : nextP 16384 ⟨[], true⟩ = (none_, ⟨[], true⟩) := by kernel_rfl
section
variable {w : World}
/-- what Write answers, the length written out -/
def WL (w : World) (xs : List UInt8) (n : Nat) (z : Int) (e : Ending) (w' : World) : Prop := ∃ A c, e = .returned (.tuple #[.slice A n c, .int .i64 z]) ∧ w'.ownsRow w.heap.size 5 1 (.slice A n c) n (xs.map BV) ∧ Below w.heap.size w w'
theorem shW1 (hG : Gl w) {A : Option Addr} (hr : Rd w 1 A 2 (([97, 98] : List UInt8).map BV)) : Calls Tryd.prog 14 #[.agg #[.int .i64 0, .int .i64 1, .bool true, .bool false, .bool false, .bool false, .slice A 2 2, .int .i64 0, .int .i64 3, .int .i64 0, .bool false, .int .i64 0, .int .u32 0, .slice none 0 0, .int .i64 0, .int .i64 0]] w (WL w sB1 14 0) := by
  have h := write_c sF1 ⟨by decide, fun s hs => by cases hs⟩ A none 2 2 0 0 hG hr (by omega) (by omega) (Rd.nil _ _ _) (by omega)
  rw [sW1] at h
  exact h
theorem shW2 (hG : Gl w) : Calls Tryd.prog 14 #[.agg #[.int .i64 0, .int .i64 0, .bool false, .bool false, .bool false, .bool false, .slice none 0 0, .int .i64 0, .int .i64 0, .int .i64 0, .bool false, .int .i64 0, .int .u32 0, .slice none 0 0, .int .i64 0, .int .i64 0]] w (WL w [] 0 1) := by
  have h := write_c zeroF ⟨by decide, fun s hs => by cases hs⟩ none none 0 0 0 0 hG (Rd.nil _ _ _) (by omega) (by omega) (Rd.nil _ _ _) (by omega)
  rw [sW2] at h
  exact h
variable {w0 : World} {L : List Ob} {p : Nat}
/-- Next where no frame is told -/
theorem shN (b : Bool) (c : Nat) (z : Int) (ok : Bool) {st st' : Pst} (s : St (fun _ => False) w0 w (PFo p 16384 st :: L)) (hG : Gl w0) (h : nextP 16384 st = (⟨zeroF, ⟨b, c, z⟩, ok⟩, st')) :
    Calls Tryd.prog 21 #[.pointer (some ⟨p, 0, none⟩)] w fun e w' => ∃ A x B y, e = .returned (.tuple #[.agg #[.int .i64 0, .int .i64 0, .bool false, .bool false, .bool false, .bool false, .slice A 0 x, .int .i64 0, .int .i64 0, .int .i64 0, .bool false, .int .i64 0, .int .u32 0, .slice B 0 y, .int .i64 0, .int .i64 0], .agg #[.bool b, .int .u32 (c : Int), .int .i64 z], .bool ok]) ∧ St (fun _ => False) w0 w' (PFo p 16384 st' :: L) := by
  refine (next_s s hG).mono ?_
  rintro e w' ⟨pv, lv, rfl, ho, hs, _⟩
  rw [h] at hs ho ⊢
  obtain ⟨A, x, B, y, rfl, rfl, _, _⟩ := ho
  exact ⟨A, x, B, y, rfl, hs⟩
theorem conv_const (w : World) (C : Array Value) (k : Nat) : (convert 22 22 (.slice (some ⟨w.heap.size, 0, none⟩) k k)).run Tryd.prog (w.alloc (.cells C 5)) = .ok (.slice (some ⟨w.heap.size, 0, none⟩) k k) (w.alloc (.cells C 5 (C.size, C.size + 1))) :=
  Lib.run_convert_bytes_const w 22 5 C k k Tryd.underlying22 Tryd.underlying5
theorem conv_at (w : World) (C : Array Value) (k g : Nat) (hg : g = w.heap.size) : (convert 22 22 (.slice (some ⟨g, 0, none⟩) k k)).run Tryd.prog (w.alloc (.cells C 5)) = .ok (.slice (some ⟨g, 0, none⟩) k k) (w.alloc (.cells C 5 (C.size, C.size + 1))) := by
  subst hg; exact conv_const w C k
theorem rd_mark (w : World) (ys : List UInt8) (n : Nat) (fz : Nat × Nat) (hn : ys.length = n) : Rd (w.alloc (.cells (ys.map BV).toArray 5 fz)) 1 (some ⟨w.heap.size, 0, none⟩) n (ys.map BV) := by
  refine ⟨by simp; omega, fun _ => ⟨w.heap.size, 0, rfl, fun j v hv => ?_⟩⟩
  rw [Nat.zero_add, cell_of_row _ w.heap.size j _ 5 fz (heap_alloc_new w _)]
  simpa using hv
theorem shF (s : St (fun _ => False) w0 w [PFo p 16384 ⟨[], false⟩]) {fz : Nat × Nat} : Calls Tryd.prog 23 #[.pointer (some ⟨p, 0, none⟩), .slice (some ⟨w.heap.size, 0, none⟩) 22 22] (w.alloc (.cells #[.int .u8 0, .int .u8 0, .int .u8 4, .int .u8 8, .int .u8 0, .int .u8 0, .int .u8 0, .int .u8 0, .int .u8 3, .int .u8 0, .int .u8 0, .int .u8 0, .int .u8 0, .int .u8 0, .int .u8 64, .int .u8 1, .int .u8 0, .int .u8 0, .int .u8 0, .int .u8 0, .int .u8 0, .int .u8 1] 5 fz)) fun e w' => e = .returned (.int .i64 22) ∧ St (fun _ => False) w0 w' [PFo p 16384 ⟨sOct, false⟩] :=
  feed_new s (w1 := w.alloc (.cells (sOct.map BV).toArray 5 fz)) ((Below.refl _ _).alloc (Nat.le_refl _) _) (ys := sOct) (rd_mark w sOct 22 fz rfl) (by omega) (by omega) (fun a ha => by cases ha; exact Nat.le_refl _)
theorem shW1' (hG : Gl w) {fz : Nat × Nat} : Calls Tryd.prog 14 #[.agg #[.int .i64 0, .int .i64 1, .bool true, .bool false, .bool false, .bool false, .slice (some ⟨w.heap.size, 0, none⟩) 2 2, .int .i64 0, .int .i64 3, .int .i64 0, .bool false, .int .i64 0, .int .u32 0, .slice none 0 0, .int .i64 0, .int .i64 0]] (w.alloc (.cells #[.int .u8 97, .int .u8 98] 5 fz)) (WL (w.alloc (.cells #[.int .u8 97, .int .u8 98] 5 fz)) sB1 14 0) := shW1 (hG.alloc _) (rd_mark w [97, 98] 2 fz rfl)
theorem shO {fz : Nat × Nat} {g : Nat} (hg : g = w.heap.size) : Calls Tryd.prog 29 #[.slice (some ⟨g, 0, none⟩) 3 3] (w.alloc (.cells #[.int .u8 80, .int .u8 82, .int .u8 73] 5 fz)) fun e w' => e = .returned (.int .i64 2) ∧ Below w.heap.size w w' := by
  subst hg
  refine (opening_c (xs := [80, 82, 73]) (rd_mark w [80, 82, 73] 3 fz rfl) (by omega) (by omega)).mono ?_
  rintro e w' ⟨rfl, hb⟩
  exact ⟨congrArg (fun z => Ending.returned (Value.int .i64 z)) (by kernel_rfl), ((Below.refl _ _).alloc (Nat.le_refl _) _).trans (hb.mono (by simp))⟩
theorem shS {d : Bool} (s : St (fun _ => False) w0 w (PFo p 16384 ⟨[], d⟩ :: L)) : Calls Tryd.prog 25 #[.pointer (some ⟨p, 0, none⟩)] w fun e w' => e = .returned (.int .i64 0) ∧ w' = w := size_s s
theorem shC {A : Option Addr} {c : Nat} (hr : Rd w 1 A 14 (sB1.map BV)) : (convert 22 9 (.slice A 14 c)).run Tryd.prog w = .ok (.string { data := #[0, 0, 5, 0, 9, 0, 0, 0, 1, 2, 97, 98, 0, 0] }) w := run_conv_bytes Tryd.underlying22 Tryd.underlying5 Tryd.underlying9 hr
theorem shB {S : Nat → Prop} (s : St S w0 w L) (o : Obj) (t : TypeId) (cs : List Value) : St S w0 ((w.alloc o).alloc (.cells cs.toArray t)) (L ++ [BLo (w.heap.size + 1) t cs]) := by
  have h := (s.alloc o).block t cs
  have e : (w.alloc o).heap.size = w.heap.size + 1 := by simp
  rw [e] at h
  exact h
set_option maxHeartbeats 4000000 in
theorem shown_c (hG : Gl w) : Calls Tryd.prog 12 #[] w fun e w' => e = .returned (.bool true) ∧ Below w.heap.size w w' := by
  have HG := Lib.hid hG
  clear hG
  have cs := conv_const
  have cs2 := conv_at
  go_enter Tryd.func12, Tryd.ntmps12
  go_wp2_with (first
    | (go_at_call 14; (with_reducible refine (shW1' HG.out).mono ?_); rintro e w1 ⟨A1, c1, rfl, ho1, hb1⟩
       have HO1 := Lib.hid ho1
       have HB1 : Hid (Below w.heap.size w w1) := ((Below.refl _ _).alloc (Nat.le_refl _) _).trans (hb1.mono (by simp))
       have HG1 := Lib.hid (HG.out.below HB1.out)
       clear ho1 hb1)
    | (go_at_call 14; (with_reducible refine (shW2 HG1.out).mono ?_); rintro e w2 ⟨A2, c2, rfl, ho2, hb2⟩
       have HO2 := Lib.hid (Rd.below (Rd.of_own HO1.out) hb2)
       have HB2 : Hid (Below w.heap.size w w2) := HB1.out.trans (hb2.mono HB1.out.size)
       have HG2 := Lib.hid (HG.out.below HB2.out)
       clear ho2 hb2)
    | (go_at_call 17; (with_reducible refine (new_c 0 (by omega)).mono ?_); rintro e w3 ⟨p, rfl, s3⟩
       have s3' : St (fun _ => False) w2 w3 [PFo p 16384 ⟨[], false⟩] := s3
       have S3 := Lib.hid s3'
       clear s3 s3')
    | (go_at_call 23; (with_reducible refine (shF S3.out).mono ?_); rintro e w4 ⟨rfl, s4'⟩
       have S4 := Lib.hid s4'
       clear s4')
    | (go_at_call 21; (with_reducible refine (shN true 1 3 true S4.out HG2.out sN1).mono ?_); rintro e w5 ⟨a5, b5, x5, y5, rfl, s5⟩
       have S5 := Lib.hid (shB s5 (.cells #[.int .i64 0, .int .i64 0, .bool false, .bool false, .bool false, .bool false, .slice a5 0 b5, .int .i64 0, .int .i64 0, .int .i64 0, .bool false, .int .i64 0, .int .u32 0, .slice x5 0 y5, .int .i64 0, .int .i64 0] 27) 46 [.bool true, .int .u32 1, .int .i64 3])
       clear s5)
    | (go_at_call 21; (with_reducible refine (shN true 6 0 true S5.out HG2.out sN2).mono ?_); rintro e w6 ⟨a6, b6, x6, y6, rfl, s6⟩
       have S6 := Lib.hid (shB s6 (.cells #[.int .i64 0, .int .i64 0, .bool false, .bool false, .bool false, .bool false, .slice a6 0 b6, .int .i64 0, .int .i64 0, .int .i64 0, .bool false, .int .i64 0, .int .u32 0, .slice x6 0 y6, .int .i64 0, .int .i64 0] 27) 46 [.bool true, .int .u32 6, .int .i64 0])
       clear s6)
    | (go_at_call 21; (with_reducible refine (shN false 0 0 false S6.out HG2.out sN3).mono ?_); rintro e w7 ⟨a7, b7, x7, y7, rfl, s7⟩
       have S7 := Lib.hid (shB s7 (.cells #[.int .i64 0, .int .i64 0, .bool false, .bool false, .bool false, .bool false, .slice a7 0 b7, .int .i64 0, .int .i64 0, .int .i64 0, .bool false, .int .i64 0, .int .u32 0, .slice x7 0 y7, .int .i64 0, .int .i64 0] 27) 46 [.bool false, .int .u32 0, .int .i64 0])
       have cv7 := shC (c := c1) (HO2.out.below S7.out.below)
       have f5 := s7.blk1
       have f6 := s7.blk2
       have fl5 := f5.lt
       have fl6 := f6.lt
       have fl7 : w5.heap.size < w7.heap.size := by omega
       have fl8 : w6.heap.size < w7.heap.size := by omega
       have f50 := f5.cell 0
       have f51 := f5.cell 1
       have f52 := f5.cell 2
       have f60 := f6.cell 0
       have f61 := f6.cell 1
       have f62 := f6.cell 2
       simp only [List.getElem?_cons_zero, List.getElem?_cons_succ] at f50 f51 f52 f60 f61 f62
       clear s7 f5 f6)
    | (go_at_call 25; (with_reducible refine (shS S7.out).mono ?_); rintro e w8 ⟨rfl, rfl⟩)
    | (go_at_call 29; (with_reducible refine (shO (by simp)).mono ?_); rintro e w9 ⟨rfl, hb9⟩
       have HB9 := Lib.hid hb9
       clear hb9))
  go_ret
  exact ⟨rfl, (HB2.out.trans (S7.out.below.mono HB2.out.size)).trans (HB9.out.mono (by have := HB2.out.size; have := S7.out.size; omega))⟩
end
end Go.Proofs.YtokbdkbljgdcpaaDoor
