/- The document's encoder: a field's octets. -/
import Derived.Test.YtinieljgcenemaaDoorR5B
import Derived.Deep.RegionWith
namespace Go.Proofs.YtinieljgcenemaaDoor
open Go.RowKit Go.Own Go.Tbl Go.Huf Go.Hin
set_option linter.unusedVariables false
set_option maxRecDepth 100000
attribute [local go_sem ↓] Go.wp_at_zero Go.wp_at_succ

theorem xrFind_p {w : World} {r h : Nat} {G : Nat → Prop} {l : List Fld} (t : RX w r G h l) (n v : ByteArray) (nv : Bool) (i : Nat) (b : Bool) (hR : findF (statL ++ l) ⟨n, v, nv⟩ = (i, b)) : Calls Tryd.prog 58 #[.pointer (some ⟨r, 0, none⟩), .agg #[.string n, .string v, .bool nv]] w fun e w' => e = .returned (.tuple #[.int .i64 (i : Int), .bool b]) ∧ Below w.heap.size w w' := by
  have := xrFind t ⟨n, v, nv⟩
  rw [hR] at this
  exact this
theorem xrAdd_p {w : World} {r h : Nat} {G : Nat → Prop} {l : List Fld} (t : RX w r G h l) (n v : ByteArray) (nv : Bool) (hf : fok ⟨n, v, nv⟩) (L : List Fld) (hL : addF h ⟨n, v, nv⟩ l = L) : Calls Tryd.prog 60 #[.pointer (some ⟨r, 0, none⟩), .agg #[.string n, .string v, .bool nv]] w fun e w' => ∃ F', e = .returned (.tuple #[]) ∧ RX w' r F' h L ∧ (∀ i, F' i → G i ∨ w.heap.size ≤ i) ∧ Fr G w w' := by
  subst hL
  exact xrAdd t ⟨n, v, nv⟩ hf
theorem r5lit_p (k p i : Nat) (hx : k < 256) (h1 : 1 ≤ p) (h8 : p ≤ 8) (hi : i ≤ 2147483647) (n v : ByteArray) (nv : Bool) (hn : n.size ≤ 1048576) (hv : v.size ≤ 1048576) (S : ByteArray) (hS : ofB (litB k p i ⟨n, v, nv⟩) = S) (zx : Int) (hzx : zx = (k : Int)) (z : Int) (hz : z = (p : Int)) (w : World) :
    Calls Tryd.prog 59 #[.int .u8 zx, .int .i64 z, .int .i64 (i : Int), .agg #[.string n, .string v, .bool nv]] w fun e w' => e = .returned (.string S) ∧ Below w.heap.size w w' := r5lit cInt cTxt k p i hx h1 h8 hi ⟨n, v, nv⟩ hn hv S hS zx hzx z hz w
theorem rFSize_d (n v : ByteArray) (nv : Bool) (hn : n.size ≤ 140737488355328) (hv : v.size ≤ 140737488355328) (M : Nat) (hM : n.size + v.size + 32 = M) (w : World) : Calls Tryd.prog 33 #[.agg #[.string n, .string v, .bool nv]] w fun e w' => e = .returned (.int .i64 (M : Int)) ∧ Below w.heap.size w w' := rFSize_c n v nv hn hv M hM w
/-- what a call leaves that writes a field -/
def OneEr (w : World) (F : Nat → Prop) (q h : Nat) (l' : List Fld) (T : ByteArray) (e : Ending) (w' : World) : Prop := e = .returned (.string T) ∧ St F w w' [RXo q h l']
theorem st_next0 {S : Nat → Prop} {w0 w w' : World} {L : List Ob} (s : St S w0 w L) (hb : Below w.heap.size w w') : St S w0 w' L := s.next hb
set_option maxHeartbeats 4000000 in
theorem r5oneE_never {w : World} {p q h : Nat} {F : Nat → Prop} {l : List Fld} {cs : List Value} (t : RX w q F h l) (b : Blk w p 72 (.pointer (some ⟨q, 0, none⟩) :: cs))
    (n v : ByteArray) (hn : n.size ≤ 1048576) (hv : v.size ≤ 1048576) (i : Nat) (b1 : Bool) (hf : findF (statL ++ l) ⟨n, v, true⟩ = (i, b1)) (hi : i ≤ 2147483647)  (L : List UInt8) (l' : List Fld) (hL : oneE statL h l ⟨n, v, true⟩ = (L, l')) (T : ByteArray) (hT : ofB L = T) :
    Calls Tryd.prog 42 #[.pointer (some ⟨p, 0, none⟩), .agg #[.string n, .string v, .bool true]] w (OneEr w F q h l' T) := by
  have hfo : fok ⟨n, v, true⟩ := fok_of (f := ⟨n, v, true⟩) hn hv (by omega) (by omega)
  have hL2 : litB 16 4 i ⟨n, v, true⟩ = L ∧ l = l' := by rw [oneE, if_pos rfl, hf] at hL; injection hL with h1 h2; exact ⟨h1, h2⟩
  obtain ⟨hL2, rfl⟩ := hL2
  have hfn : n.size ≤ 140737488355328 := by omega
  have hfv : v.size ≤ 140737488355328 := by omega
  have y0 : w.cell? ⟨p, 0, none⟩ = some (.pointer (some ⟨q, 0, none⟩)) := b.cell 0
  have S1 : Hid (St F w (w.alloc (.cells #[.string n, .string v, .bool true] 38)) [RXo q h l, BLo w.heap.size 38 [.string n, .string v, .bool true]]) := (St.start (framed_RXo ..) t).block 38 [.string n, .string v, .bool true]
  have S1d : Hid (St F w (w.alloc (.cells #[.string n, .string v, .bool true] 38)).drew [RXo q h l, BLo w.heap.size 38 [.string n, .string v, .bool true]]) := S1.out.drew
  have HF := Lib.hid hf
  have HL := Lib.hid hL2
  rw [← hL2] at hT
  have HN := Lib.hid hT
  have Hb := Lib.hid b
  have Hfo := Lib.hid hfo
  have x0 : (w.alloc (.cells #[.string n, .string v, .bool true] 38)).cell? ⟨w.heap.size, 0, none⟩ = some (.string n) := (Blk.new w 38 [.string n, .string v, .bool true]).cell 0
  have x1 : (w.alloc (.cells #[.string n, .string v, .bool true] 38)).cell? ⟨w.heap.size, 1, none⟩ = some (.string v) := (Blk.new w 38 [.string n, .string v, .bool true]).cell 1
  have x2 : (w.alloc (.cells #[.string n, .string v, .bool true] 38)).cell? ⟨w.heap.size, 2, none⟩ = some (.bool true) := (Blk.new w 38 [.string n, .string v, .bool true]).cell 2
  have yp : p < w.heap.size := Blk.lt b
  have y1 : (w.alloc (.cells #[.string n, .string v, .bool true] 38)).cell? ⟨p, 0, none⟩ = some (.pointer (some ⟨q, 0, none⟩)) := (b.alloc _).cell 0
  have y1' : (w.alloc (.cells #[.string n, .string v, .bool true] 38)).drew.cell? ⟨p, 0, none⟩ = some (.pointer (some ⟨q, 0, none⟩)) := y1
  have x0' : (w.alloc (.cells #[.string n, .string v, .bool true] 38)).drew.cell? ⟨w.heap.size, 0, none⟩ = some (.string n) := x0
  have x1' : (w.alloc (.cells #[.string n, .string v, .bool true] 38)).drew.cell? ⟨w.heap.size, 1, none⟩ = some (.string v) := x1
  have x2' : (w.alloc (.cells #[.string n, .string v, .bool true] 38)).drew.cell? ⟨w.heap.size, 2, none⟩ = some (.bool true) := x2
  clear t b hf hL hL2 hT
  go_enter Tryd.func42, Tryd.ntmps42
  go_wp2
  go_region_with
    (first
    | (go_at_call 58; (obtain ⟨F2, t2, _⟩ := S1d.out.focus0); (with_reducible refine (xrFind_p t2 n v true i b1 HF.out).mono ?_); rintro e w2 ⟨rfl, hb⟩
       have S2 := Lib.hid (S1d.out.next hb)
       have X2 := S2.out.blk1
       have z0 := X2.cell 0
       have z1 := X2.cell 1
       have z2 := X2.cell 2
       have Y2 := ((Hb.out.alloc (.cells #[.string n, .string v, .bool true] 38)).drew.below hb (Nat.lt_of_lt_of_le yp S1d.out.size))
       have v0 := Y2.cell 0
       have Y2 := Lib.hid Y2
       simp only [List.getElem?_cons_zero, List.getElem?_cons_succ] at z0 z1 z2 v0
       clear hb t2 X2))
  all_goals
    clear y1 y1' x0 x1 x2 x0' x1' x2' y0
    go_wp2_with (first
      | (go_at_call 59; (with_reducible refine (r5lit_p 16 4 i (by omega) (by omega) (by omega) hi n v true hn hv T HN.out 16 rfl 4 rfl _).mono ?_); rintro e w3 ⟨rfl, hb⟩
         have S3 := Lib.hid (st_next0 (st_drop1 S2.out) hb)
         clear hb))
    go_ret
    exact ⟨rfl, S3.out⟩
set_option maxHeartbeats 4000000 in
theorem r5oneE_whole {w : World} {p q h : Nat} {F : Nat → Prop} {l : List Fld} {cs : List Value} (t : RX w q F h l) (b : Blk w p 72 (.pointer (some ⟨q, 0, none⟩) :: cs))
    (n v : ByteArray) (hn : n.size ≤ 1048576) (hv : v.size ≤ 1048576) (i : Nat) (b1 : Bool) (hf : findF (statL ++ l) ⟨n, v, false⟩ = (i, b1)) (hi : i ≤ 2147483647) (hb1 : b1 = true) (L : List UInt8) (l' : List Fld) (hL : oneE statL h l ⟨n, v, false⟩ = (L, l')) (T : ByteArray) (hT : ofB L = T) :
    Calls Tryd.prog 42 #[.pointer (some ⟨p, 0, none⟩), .agg #[.string n, .string v, .bool false]] w (OneEr w F q h l' T) := by
  have hfo : fok ⟨n, v, false⟩ := fok_of (f := ⟨n, v, false⟩) hn hv (by omega) (by omega)
  subst hb1
  have hL2 : putB (2 ^ 7 - 1) (topOf 128 7) i = L ∧ l = l' := by rw [oneE, if_neg (by simp), hf, if_pos rfl] at hL; injection hL with h1 h2; exact ⟨h1, h2⟩
  obtain ⟨hL2, rfl⟩ := hL2
  have hfn : n.size ≤ 140737488355328 := by omega
  have hfv : v.size ≤ 140737488355328 := by omega
  have y0 : w.cell? ⟨p, 0, none⟩ = some (.pointer (some ⟨q, 0, none⟩)) := b.cell 0
  have S1 : Hid (St F w (w.alloc (.cells #[.string n, .string v, .bool false] 38)) [RXo q h l, BLo w.heap.size 38 [.string n, .string v, .bool false]]) := (St.start (framed_RXo ..) t).block 38 [.string n, .string v, .bool false]
  have S1d : Hid (St F w (w.alloc (.cells #[.string n, .string v, .bool false] 38)).drew [RXo q h l, BLo w.heap.size 38 [.string n, .string v, .bool false]]) := S1.out.drew
  have HF := Lib.hid hf
  have HL := Lib.hid hL2
  rw [← hL2] at hT
  have HN := Lib.hid hT
  have Hb := Lib.hid b
  have Hfo := Lib.hid hfo
  have x0 : (w.alloc (.cells #[.string n, .string v, .bool false] 38)).cell? ⟨w.heap.size, 0, none⟩ = some (.string n) := (Blk.new w 38 [.string n, .string v, .bool false]).cell 0
  have x1 : (w.alloc (.cells #[.string n, .string v, .bool false] 38)).cell? ⟨w.heap.size, 1, none⟩ = some (.string v) := (Blk.new w 38 [.string n, .string v, .bool false]).cell 1
  have x2 : (w.alloc (.cells #[.string n, .string v, .bool false] 38)).cell? ⟨w.heap.size, 2, none⟩ = some (.bool false) := (Blk.new w 38 [.string n, .string v, .bool false]).cell 2
  have yp : p < w.heap.size := Blk.lt b
  have y1 : (w.alloc (.cells #[.string n, .string v, .bool false] 38)).cell? ⟨p, 0, none⟩ = some (.pointer (some ⟨q, 0, none⟩)) := (b.alloc _).cell 0
  have y1' : (w.alloc (.cells #[.string n, .string v, .bool false] 38)).drew.cell? ⟨p, 0, none⟩ = some (.pointer (some ⟨q, 0, none⟩)) := y1
  have x0' : (w.alloc (.cells #[.string n, .string v, .bool false] 38)).drew.cell? ⟨w.heap.size, 0, none⟩ = some (.string n) := x0
  have x1' : (w.alloc (.cells #[.string n, .string v, .bool false] 38)).drew.cell? ⟨w.heap.size, 1, none⟩ = some (.string v) := x1
  have x2' : (w.alloc (.cells #[.string n, .string v, .bool false] 38)).drew.cell? ⟨w.heap.size, 2, none⟩ = some (.bool false) := x2
  clear t b hf hL hL2 hT
  go_enter Tryd.func42, Tryd.ntmps42
  go_wp2
  go_region_with
    (first
    | (go_at_call 58; (obtain ⟨F2, t2, _⟩ := S1d.out.focus0); (with_reducible refine (xrFind_p t2 n v false i true HF.out).mono ?_); rintro e w2 ⟨rfl, hb⟩
       have S2 := Lib.hid (S1d.out.next hb)
       have X2 := S2.out.blk1
       have z0 := X2.cell 0
       have z1 := X2.cell 1
       have z2 := X2.cell 2
       have Y2 := ((Hb.out.alloc (.cells #[.string n, .string v, .bool false] 38)).drew.below hb (Nat.lt_of_lt_of_le yp S1d.out.size))
       have v0 := Y2.cell 0
       have Y2 := Lib.hid Y2
       simp only [List.getElem?_cons_zero, List.getElem?_cons_succ] at z0 z1 z2 v0
       clear hb t2 X2))
  all_goals
    clear y1 y1' x0 x1 x2 x0' x1' x2' y0
    go_wp2_with (first
      | (go_at_call 57; (with_reducible refine (cInt 128 7 i (by omega) (by omega) (by omega) hi T HN.out 128 rfl 7 rfl _ rfl _).mono ?_); rintro e w3 ⟨rfl, hb⟩
         have S3 := Lib.hid (st_next0 (st_drop1 S2.out) hb)
         clear hb))
    go_ret
    exact ⟨rfl, S3.out⟩
set_option maxHeartbeats 4000000 in
theorem r5oneE_plain {w : World} {p q h : Nat} {F : Nat → Prop} {l : List Fld} {cs : List Value} (t : RX w q F h l) (b : Blk w p 72 (.pointer (some ⟨q, 0, none⟩) :: cs))
    (n v : ByteArray) (hn : n.size ≤ 1048576) (hv : v.size ≤ 1048576) (i : Nat) (b1 : Bool) (hf : findF (statL ++ l) ⟨n, v, false⟩ = (i, b1)) (hi : i ≤ 2147483647) (hb1 : b1 = false) (M : Nat) (hM : n.size + v.size + 32 = M) (hlt : h < M) (L : List UInt8) (l' : List Fld) (hL : oneE statL h l ⟨n, v, false⟩ = (L, l')) (T : ByteArray) (hT : ofB L = T) :
    Calls Tryd.prog 42 #[.pointer (some ⟨p, 0, none⟩), .agg #[.string n, .string v, .bool false]] w (OneEr w F q h l' T) := by
  have hfo : fok ⟨n, v, false⟩ := fok_of (f := ⟨n, v, false⟩) hn hv (by omega) (by omega)
  subst hb1
  have hL2 : litB 0 4 i ⟨n, v, false⟩ = L ∧ l = l' := by rw [oneE, if_neg (by simp), hf, if_neg (by simp), if_pos (by show h < n.size + v.size + 32; omega)] at hL; injection hL with h1 h2; exact ⟨h1, h2⟩
  obtain ⟨hL2, rfl⟩ := hL2
  have HM := Lib.hid hM
  have klt : (h : Int) < (M : Int) := by omega
  have kb : decide (h < M) = true := decide_eq_true hlt
  clear hM hlt
  have hfn : n.size ≤ 140737488355328 := by omega
  have hfv : v.size ≤ 140737488355328 := by omega
  have y0 : w.cell? ⟨p, 0, none⟩ = some (.pointer (some ⟨q, 0, none⟩)) := b.cell 0
  have S1 : Hid (St F w (w.alloc (.cells #[.string n, .string v, .bool false] 38)) [RXo q h l, BLo w.heap.size 38 [.string n, .string v, .bool false]]) := (St.start (framed_RXo ..) t).block 38 [.string n, .string v, .bool false]
  have S1d : Hid (St F w (w.alloc (.cells #[.string n, .string v, .bool false] 38)).drew [RXo q h l, BLo w.heap.size 38 [.string n, .string v, .bool false]]) := S1.out.drew
  have HF := Lib.hid hf
  have HL := Lib.hid hL2
  rw [← hL2] at hT
  have HN := Lib.hid hT
  have Hb := Lib.hid b
  have Hfo := Lib.hid hfo
  have x0 : (w.alloc (.cells #[.string n, .string v, .bool false] 38)).cell? ⟨w.heap.size, 0, none⟩ = some (.string n) := (Blk.new w 38 [.string n, .string v, .bool false]).cell 0
  have x1 : (w.alloc (.cells #[.string n, .string v, .bool false] 38)).cell? ⟨w.heap.size, 1, none⟩ = some (.string v) := (Blk.new w 38 [.string n, .string v, .bool false]).cell 1
  have x2 : (w.alloc (.cells #[.string n, .string v, .bool false] 38)).cell? ⟨w.heap.size, 2, none⟩ = some (.bool false) := (Blk.new w 38 [.string n, .string v, .bool false]).cell 2
  have yp : p < w.heap.size := Blk.lt b
  have y1 : (w.alloc (.cells #[.string n, .string v, .bool false] 38)).cell? ⟨p, 0, none⟩ = some (.pointer (some ⟨q, 0, none⟩)) := (b.alloc _).cell 0
  have y1' : (w.alloc (.cells #[.string n, .string v, .bool false] 38)).drew.cell? ⟨p, 0, none⟩ = some (.pointer (some ⟨q, 0, none⟩)) := y1
  have x0' : (w.alloc (.cells #[.string n, .string v, .bool false] 38)).drew.cell? ⟨w.heap.size, 0, none⟩ = some (.string n) := x0
  have x1' : (w.alloc (.cells #[.string n, .string v, .bool false] 38)).drew.cell? ⟨w.heap.size, 1, none⟩ = some (.string v) := x1
  have x2' : (w.alloc (.cells #[.string n, .string v, .bool false] 38)).drew.cell? ⟨w.heap.size, 2, none⟩ = some (.bool false) := x2
  clear t b hf hL hL2 hT
  go_enter Tryd.func42, Tryd.ntmps42
  go_wp2
  go_region_with
    (first
    | (go_at_call 58; (obtain ⟨F2, t2, _⟩ := S1d.out.focus0); (with_reducible refine (xrFind_p t2 n v false i false HF.out).mono ?_); rintro e w2 ⟨rfl, hb⟩
       have S2 := Lib.hid (S1d.out.next hb)
       have X2 := S2.out.blk1
       have z0 := X2.cell 0
       have z1 := X2.cell 1
       have z2 := X2.cell 2
       have Y2 := ((Hb.out.alloc (.cells #[.string n, .string v, .bool false] 38)).drew.below hb (Nat.lt_of_lt_of_le yp S1d.out.size))
       have v0 := Y2.cell 0
       have Y2 := Lib.hid Y2
       simp only [List.getElem?_cons_zero, List.getElem?_cons_succ] at z0 z1 z2 v0
       clear hb t2 X2))
  all_goals
    clear y1 y1' x0 x1 x2 x0' x1' x2' y0
    go_wp2
    have d0 : w2.drew.cell? ⟨w.heap.size, 0, none⟩ = some (.string n) := z0
    have d1 : w2.drew.cell? ⟨w.heap.size, 1, none⟩ = some (.string v) := z1
    have d2 : w2.drew.cell? ⟨w.heap.size, 2, none⟩ = some (.bool false) := z2
    have dp : w2.drew.cell? ⟨p, 0, none⟩ = some (.pointer (some ⟨q, 0, none⟩)) := v0
    have S2d := Lib.hid S2.out.drew
    have dh : w2.drew.cell? ⟨q, 1, none⟩ = some (.int .i64 (h : Int)) := st_hcell S2d.out
    have Y2d : Hid (Blk w2.drew p 72 (.pointer (some ⟨q, 0, none⟩) :: cs)) := Y2.out.drew
    clear S1 S1d
    go_region_with
      (first
      | (go_at_call 33; (with_reducible refine (rFSize_d n v false hfn hfv M HM.out _).mono ?_); rintro e w4 ⟨rfl, hb⟩
         have S4 := Lib.hid (S2d.out.next hb)
         have eh := st_hcell S4.out
         have X4 := S4.out.blk1
         have e0 := X4.cell 0
         have e1 := X4.cell 1
         have e2 := X4.cell 2
         have Y4 := Y2d.out.below hb (Blk.lt Y2d.out)
         have ep := Y4.cell 0
         have Y4 := Lib.hid Y4
         simp only [List.getElem?_cons_zero, List.getElem?_cons_succ] at e0 e1 e2 ep
         clear hb X4))
    all_goals
      clear z0 z1 z2 v0 d0 d1 d2 dp dh S2 S2d Y2 Y2d
      go_wp2_with (first
        | (go_at_call 59; (with_reducible refine (r5lit_p 0 4 i (by omega) (by omega) (by omega) hi n v false hn hv T HN.out 0 rfl 4 rfl _).mono ?_); rintro e w3 ⟨rfl, hb⟩
           have S3 := Lib.hid (st_next0 (st_drop1 S4.out) hb)
           clear hb))
      go_ret
      exact ⟨rfl, S3.out⟩
set_option maxHeartbeats 4000000 in
theorem r5oneE_add {w : World} {p q h : Nat} {F : Nat → Prop} {l : List Fld} {cs : List Value} (t : RX w q F h l) (b : Blk w p 72 (.pointer (some ⟨q, 0, none⟩) :: cs))
    (n v : ByteArray) (hn : n.size ≤ 1048576) (hv : v.size ≤ 1048576) (i : Nat) (b1 : Bool) (hf : findF (statL ++ l) ⟨n, v, false⟩ = (i, b1)) (hi : i ≤ 2147483647) (hb1 : b1 = false) (M : Nat) (hM : n.size + v.size + 32 = M) (hlt : ¬ h < M) (L : List UInt8) (l' : List Fld) (hL : oneE statL h l ⟨n, v, false⟩ = (L, l')) (T : ByteArray) (hT : ofB L = T) :
    Calls Tryd.prog 42 #[.pointer (some ⟨p, 0, none⟩), .agg #[.string n, .string v, .bool false]] w (OneEr w F q h l' T) := by
  have hfo : fok ⟨n, v, false⟩ := fok_of (f := ⟨n, v, false⟩) hn hv (by omega) (by omega)
  subst hb1
  have hL2 : litB 64 6 i ⟨n, v, false⟩ = L ∧ addF h ⟨n, v, false⟩ l = l' := by rw [oneE, if_neg (by simp), hf, if_neg (by simp), if_neg (by show ¬ h < n.size + v.size + 32; omega)] at hL; injection hL with h1 h2; exact ⟨h1, h2⟩
  obtain ⟨hL2, rfl⟩ := hL2
  have HM := Lib.hid hM
  have klt : ¬ (h : Int) < (M : Int) := by omega
  have kb : decide (h < M) = false := decide_eq_false hlt
  clear hM hlt
  have hfn : n.size ≤ 140737488355328 := by omega
  have hfv : v.size ≤ 140737488355328 := by omega
  have y0 : w.cell? ⟨p, 0, none⟩ = some (.pointer (some ⟨q, 0, none⟩)) := b.cell 0
  have S1 : Hid (St F w (w.alloc (.cells #[.string n, .string v, .bool false] 38)) [RXo q h l, BLo w.heap.size 38 [.string n, .string v, .bool false]]) := (St.start (framed_RXo ..) t).block 38 [.string n, .string v, .bool false]
  have S1d : Hid (St F w (w.alloc (.cells #[.string n, .string v, .bool false] 38)).drew [RXo q h l, BLo w.heap.size 38 [.string n, .string v, .bool false]]) := S1.out.drew
  have HF := Lib.hid hf
  have HL := Lib.hid hL2
  rw [← hL2] at hT
  have HN := Lib.hid hT
  have Hb := Lib.hid b
  have Hfo := Lib.hid hfo
  have x0 : (w.alloc (.cells #[.string n, .string v, .bool false] 38)).cell? ⟨w.heap.size, 0, none⟩ = some (.string n) := (Blk.new w 38 [.string n, .string v, .bool false]).cell 0
  have x1 : (w.alloc (.cells #[.string n, .string v, .bool false] 38)).cell? ⟨w.heap.size, 1, none⟩ = some (.string v) := (Blk.new w 38 [.string n, .string v, .bool false]).cell 1
  have x2 : (w.alloc (.cells #[.string n, .string v, .bool false] 38)).cell? ⟨w.heap.size, 2, none⟩ = some (.bool false) := (Blk.new w 38 [.string n, .string v, .bool false]).cell 2
  have yp : p < w.heap.size := Blk.lt b
  have y1 : (w.alloc (.cells #[.string n, .string v, .bool false] 38)).cell? ⟨p, 0, none⟩ = some (.pointer (some ⟨q, 0, none⟩)) := (b.alloc _).cell 0
  have y1' : (w.alloc (.cells #[.string n, .string v, .bool false] 38)).drew.cell? ⟨p, 0, none⟩ = some (.pointer (some ⟨q, 0, none⟩)) := y1
  have x0' : (w.alloc (.cells #[.string n, .string v, .bool false] 38)).drew.cell? ⟨w.heap.size, 0, none⟩ = some (.string n) := x0
  have x1' : (w.alloc (.cells #[.string n, .string v, .bool false] 38)).drew.cell? ⟨w.heap.size, 1, none⟩ = some (.string v) := x1
  have x2' : (w.alloc (.cells #[.string n, .string v, .bool false] 38)).drew.cell? ⟨w.heap.size, 2, none⟩ = some (.bool false) := x2
  clear t b hf hL hL2 hT
  go_enter Tryd.func42, Tryd.ntmps42
  go_wp2
  go_region_with
    (first
    | (go_at_call 58; (obtain ⟨F2, t2, _⟩ := S1d.out.focus0); (with_reducible refine (xrFind_p t2 n v false i false HF.out).mono ?_); rintro e w2 ⟨rfl, hb⟩
       have S2 := Lib.hid (S1d.out.next hb)
       have X2 := S2.out.blk1
       have z0 := X2.cell 0
       have z1 := X2.cell 1
       have z2 := X2.cell 2
       have Y2 := ((Hb.out.alloc (.cells #[.string n, .string v, .bool false] 38)).drew.below hb (Nat.lt_of_lt_of_le yp S1d.out.size))
       have v0 := Y2.cell 0
       have Y2 := Lib.hid Y2
       simp only [List.getElem?_cons_zero, List.getElem?_cons_succ] at z0 z1 z2 v0
       clear hb t2 X2))
  all_goals
    clear y1 y1' x0 x1 x2 x0' x1' x2' y0
    go_wp2
    have d0 : w2.drew.cell? ⟨w.heap.size, 0, none⟩ = some (.string n) := z0
    have d1 : w2.drew.cell? ⟨w.heap.size, 1, none⟩ = some (.string v) := z1
    have d2 : w2.drew.cell? ⟨w.heap.size, 2, none⟩ = some (.bool false) := z2
    have dp : w2.drew.cell? ⟨p, 0, none⟩ = some (.pointer (some ⟨q, 0, none⟩)) := v0
    have S2d := Lib.hid S2.out.drew
    have dh : w2.drew.cell? ⟨q, 1, none⟩ = some (.int .i64 (h : Int)) := st_hcell S2d.out
    have Y2d : Hid (Blk w2.drew p 72 (.pointer (some ⟨q, 0, none⟩) :: cs)) := Y2.out.drew
    clear S1 S1d
    go_region_with
      (first
      | (go_at_call 33; (with_reducible refine (rFSize_d n v false hfn hfv M HM.out _).mono ?_); rintro e w4 ⟨rfl, hb⟩
         have S4 := Lib.hid (S2d.out.next hb)
         have eh := st_hcell S4.out
         have X4 := S4.out.blk1
         have e0 := X4.cell 0
         have e1 := X4.cell 1
         have e2 := X4.cell 2
         have Y4 := Y2d.out.below hb (Blk.lt Y2d.out)
         have ep := Y4.cell 0
         have Y4 := Lib.hid Y4
         simp only [List.getElem?_cons_zero, List.getElem?_cons_succ] at e0 e1 e2 ep
         clear hb X4))
    all_goals
      clear z0 z1 z2 v0 d0 d1 d2 dp dh S2 S2d Y2 Y2d
      go_wp2
      have f0 : w4.drew.cell? ⟨w.heap.size, 0, none⟩ = some (.string n) := e0
      have f1 : w4.drew.cell? ⟨w.heap.size, 1, none⟩ = some (.string v) := e1
      have f2 : w4.drew.cell? ⟨w.heap.size, 2, none⟩ = some (.bool false) := e2
      have fp : w4.drew.cell? ⟨p, 0, none⟩ = some (.pointer (some ⟨q, 0, none⟩)) := ep
      have S4d := Lib.hid S4.out.drew
      go_region_with
        (first
        | (go_at_call 60; (obtain ⟨F2, t2, _, _, go⟩ := S4d.out.focus0); (with_reducible refine (xrAdd_p t2 n v false Hfo.out _ rfl).mono ?_); rintro e w6 ⟨F6, rfl, t6, hF6, f6⟩
           have S6 := Lib.hid (go _ _ [] (RX.st t6 hF6 f6))
           have X6 := S6.out.blk1
           have g0 := X6.cell 0
           have g1 := X6.cell 1
           have g2 := X6.cell 2
           simp only [List.getElem?_cons_zero, List.getElem?_cons_succ] at g0 g1 g2
           clear t6 hF6 f6 t2 X6 go))
      all_goals
        clear e0 e1 e2 ep eh f0 f1 f2 fp S4 S4d
        go_wp2_with (first
          | (go_at_call 59; (with_reducible refine (r5lit_p 64 6 i (by omega) (by omega) (by omega) hi n v false hn hv T HN.out 64 rfl 6 rfl _).mono ?_); rintro e w3 ⟨rfl, hb⟩
             have S3 := Lib.hid (st_next0 (st_drop1 S6.out) hb)
             clear hb))
        go_ret
        exact ⟨rfl, S3.out⟩
/-- a field's octets: the table behind it -/
theorem r5oneE_c {w : World} {p q h : Nat} {F : Nat → Prop} {l : List Fld} {cs : List Value} (t : RX w q F h l) (b : Blk w p 72 (.pointer (some ⟨q, 0, none⟩) :: cs))
    (n v : ByteArray) (nv : Bool) (hn : n.size ≤ 1048576) (hv : v.size ≤ 1048576) (hOk : Ok statL h l) (L : List UInt8) (l' : List Fld) (hL : oneE statL h l ⟨n, v, nv⟩ = (L, l')) (T : ByteArray) (hT : ofB L = T) :
    Calls Tryd.prog 42 #[.pointer (some ⟨p, 0, none⟩), .agg #[.string n, .string v, .bool nv]] w (OneEr w F q h l' T) := by
  obtain ⟨⟨i, b1⟩, hf⟩ : ∃ z, findF (statL ++ l) ⟨n, v, nv⟩ = z := ⟨_, rfl⟩
  have hi : i ≤ 2147483647 := by
    have h1 := findF_le (all := statL ++ l) (f := ⟨n, v, nv⟩)
    rw [hf] at h1
    have h2 := hOk.len
    have h3 : i ≤ (statL ++ l).length := h1
    omega
  cases nv with
  | true => exact r5oneE_never t b n v hn hv i b1 hf hi L l' hL T hT
  | false =>
    cases b1 with
    | true => exact r5oneE_whole t b n v hn hv i true hf hi rfl L l' hL T hT
    | false =>
      by_cases hlt : h < n.size + v.size + 32
      · exact r5oneE_plain t b n v hn hv i false hf hi rfl _ rfl hlt L l' hL T hT
      · exact r5oneE_add t b n v hn hv i false hf hi rfl _ rfl hlt L l' hL T hT
end Go.Proofs.YtinieljgcenemaaDoor
