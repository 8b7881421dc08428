/- The contract of the hints laws' common case 'shown'. -/
import Derived.Test.YtdmheinepkeglaaDoorHText
import Derived.Test.YtdmheinepkeglaaDoorSpelt
import Derived.Lib.SlBytesConst
namespace Go.Proofs.YtdmheinepkeglaaDoor
open Go.RowKit Go.Own Go.Huf Go.Hin
set_option linter.unusedVariables false

theorem conv_same (C : Array Value) (k : Nat) (w : World) : (convert 23 23 (.slice (some ⟨w.heap.size, 0, none⟩) k k)).run Tryd.prog (w.alloc (.cells C 5)) = .ok (.slice (some ⟨w.heap.size, 0, none⟩) k k) (w.alloc (.cells C 5 (C.size, C.size + 1))) :=
  Lib.run_convert_bytes_const w 23 5 C k k Tryd.underlying23 Tryd.underlying5
theorem rd_marked (w : World) (ys : List UInt8) (n : Nat) (cs : Array Value) (fz : Nat × Nat) (hcs : cs = (ys.map BV).toArray) (hn : ys.length = n) : Rd (w.alloc (.cells cs 5 fz)) 1 (some ⟨w.heap.size, 0, none⟩) n (ys.map BV) := by
  subst hcs
  refine ⟨by simp; omega, fun _ => ⟨w.heap.size, 0, rfl, fun j v hv => ?_⟩⟩
  rw [Nat.zero_add, cell_of_row _ w.heap.size j _ 5 fz (heap_alloc_new w _)]
  simpa using hv
/-- PutInt, the octets said -/
theorem PutInt_n (x m v : Nat) (hx : x < 256) (h1 : 1 ≤ m) (h8 : m ≤ 8) (hv : v ≤ 2147483647) (L : List UInt8) (hL : putB (2 ^ m - 1) (topOf x m) v = L) (N : Nat) (hN : L.length = N) (zx : Int) (hzx : zx = (x : Int)) (z : Int) (hz : z = (m : Int)) (zv : Int) (hzv : zv = (v : Int)) (w : World) :
    Calls Tryd.prog 10 #[.int .u8 zx, .int .i64 z, .int .i64 zv] w fun e w' => ∃ A c, e = .returned (.tuple #[.slice A N c, .int .i64 0]) ∧ Rd w' 1 A N (L.map BV) ∧ N ≤ c ∧ c ≤ 9223372036854775807 ∧ Below w.heap.size w w' := by
  subst hzx
  refine (PutInt_ok x m v hx h1 h8 hv L hL z hz zv hzv N hN w).mono ?_
  rintro e w' ⟨A, c, rfl, ho, hb⟩
  obtain ⟨A', c', he, q1, q2, _⟩ := own_shape ho
  simp only [Value.slice.injEq] at he
  obtain ⟨_, _, rfl⟩ := he
  exact ⟨A, c, rfl, Rd.of_own ho, q1, q2, hb⟩
theorem get_lit (ys : List UInt8) (n : Nat) (cs : Array Value) (hcs : cs = (ys.map BV).toArray) (hn : ys.length = n) (hnb : n ≤ 1000) (m : Int) (v : Value) (hv : getV (getI ys m) = v) (w : World) :
    Calls Tryd.prog 12 #[.slice (some ⟨w.heap.size, 0, none⟩) n n, .int .i64 m] (w.alloc (.cells cs 5 (n, n + 1))) fun e w' => e = .returned v ∧ Below w.heap.size w w' := by
  refine (GetInt_any (rd_marked w ys n cs _ hcs hn) (Nat.le_refl _) (by omega) m _ rfl).mono ?_
  rintro e w' ⟨he, hb⟩
  exact ⟨by rw [he, hv], ((Below.refl _ _).alloc (Nat.le_refl _) _).trans (hb.mono (by simp))⟩
theorem text_lit (ys : List UInt8) (n : Nat) (cs : Array Value) (hcs : cs = (ys.map BV).toArray) (hn : ys.length = n) (hnb : n ≤ 1000) (v : Value) (hv : textV (getT 9223372036854775807 ys) = v) (w : World) (hC : Cnt w) :
    Calls Tryd.prog 14 #[.slice (some ⟨w.heap.size, 0, none⟩) n n] (w.alloc (.cells cs 5 (n, n + 1))) fun e w' => e = .returned v ∧ Below w.heap.size w w' := by
  refine (GetText_any (rd_marked w ys n cs _ hcs hn) (Nat.le_refl _) (by omega) (hC.fr ((Fr.refl (fun _ => False) _).alloc _) (fun h => h)) (fun _ _ _ h => by omega) _ rfl).mono ?_
  rintro e w' ⟨he, hb⟩
  exact ⟨by rw [he, hv], ((Below.refl _ _).alloc (Nat.le_refl _) _).trans (hb.mono (by simp))⟩
theorem put_1337 : putB (2 ^ 5 - 1) (topOf 0 5) 1337 = [31, 154, 10] := by simp [putB, topOf, grp]
theorem put_30 : putB (2 ^ 5 - 1) (topOf 224 5) 30 = [254] := by simp [putB, topOf]
theorem put_a : putT [97] [31] = [1, 97] := by simp [putT, putB, topOf]
theorem get_1337 : getV (getI [31, 154, 10] 5) = .tuple #[.int .i64 1337, .int .i64 3, .int .i64 0] := by kernel_rfl
theorem get_cut : getV (getI [31, 154] 5) = .tuple #[.int .i64 0, .int .i64 0, .int .i64 2] := by kernel_rfl
theorem text_ab : textV (getT 9223372036854775807 [1, 97, 98]) = .tuple #[.string (str [97]), .int .i64 2, .int .i64 0] := by kernel_rfl
theorem get3 (w : World) : Calls Tryd.prog 12 #[.slice (some ⟨w.heap.size, 0, none⟩) 3 3, .int .i64 5] (w.alloc (.cells #[.int .u8 31, .int .u8 154, .int .u8 10] 5 (3, 4))) fun e w' => e = .returned (.tuple #[.int .i64 1337, .int .i64 3, .int .i64 0]) ∧ Below w.heap.size w w' :=
  get_lit [31, 154, 10] 3 _ rfl rfl (by omega) 5 _ get_1337 w
theorem get2 (w : World) : Calls Tryd.prog 12 #[.slice (some ⟨w.heap.size, 0, none⟩) 2 2, .int .i64 5] (w.alloc (.cells #[.int .u8 31, .int .u8 154] 5 (2, 3))) fun e w' => e = .returned (.tuple #[.int .i64 0, .int .i64 0, .int .i64 2]) ∧ Below w.heap.size w w' :=
  get_lit [31, 154] 2 _ rfl rfl (by omega) 5 _ get_cut w
theorem text3 (w : World) (hC : Cnt w) : Calls Tryd.prog 14 #[.slice (some ⟨w.heap.size, 0, none⟩) 3 3] (w.alloc (.cells #[.int .u8 1, .int .u8 97, .int .u8 98] 5 (3, 4))) fun e w' => e = .returned (.tuple #[.string ⟨#[97]⟩, .int .i64 2, .int .i64 0]) ∧ Below w.heap.size w w' :=
  text_lit [1, 97, 98] 3 _ rfl rfl (by omega) _ text_ab w hC
theorem s1337 {W : World} {A : Option Addr} {c : Nat} (h : Rd W 1 A 3 (([31, 154, 10] : List UInt8).map BV)) : (convert 23 9 (.slice A 3 c)).run Tryd.prog W = .ok (.string ⟨#[31, 154, 10]⟩) W := conv_str h
theorem s30 {W : World} {A : Option Addr} {c : Nat} (h : Rd W 1 A 1 (([254] : List UInt8).map BV)) : (convert 23 9 (.slice A 1 c)).run Tryd.prog W = .ok (.string ⟨#[254]⟩) W := conv_str h
theorem s1a {W : World} {A : Option Addr} {c : Nat} (h : Rd W 1 A 2 (([1, 97] : List UInt8).map BV)) : (convert 23 9 (.slice A 2 c)).run Tryd.prog W = .ok (.string ⟨#[1, 97]⟩) W := conv_str h
theorem puta (w : World) (hC : Cnt w) : Calls Tryd.prog 16 #[.string ⟨#[97]⟩] w fun e w' => ∃ A c, e = .returned (.slice A 2 c) ∧ Rd w' 1 A 2 (([1, 97] : List UInt8).map BV) ∧ Below w.heap.size w w' := by
  refine (PutText_any ⟨#[97]⟩ [31] ⟨3, by omega, by decide +kernel⟩ (by decide) [1, 97] put_a 2 rfl w hC).mono ?_
  rintro e w' ⟨A, c, rfl, ho, hb⟩
  exact ⟨A, c, rfl, Rd.of_own ho, hb⟩
set_option maxRecDepth 100000 in
set_option maxHeartbeats 4000000 in
theorem shown_any (w : World) (hC : Cnt w) : Calls Tryd.prog 9 #[] w fun e w' => e = .returned (.bool true) ∧ Below w.heap.size w w' := by
  have HC := Lib.hid hC
  clear hC
  have hcs := conv_same
  go_enter Tryd.func9, Tryd.ntmps9
  go_wp2_with (first
    | (go_at_call 10; (with_reducible refine (PutInt_n 0 5 1337 (by omega) (by omega) (by omega) (by omega) _ put_1337 3 rfl 0 rfl 5 rfl 1337 rfl _).mono ?_); rintro e w1 ⟨A1, c1, rfl, hr1, ha1, hb1, hw1⟩; have H1 := Lib.hid hw1; have R1 := Lib.hid hr1; clear hw1 hr1)
    | (go_at_call 10; (with_reducible refine (PutInt_n 224 5 30 (by omega) (by omega) (by omega) (by omega) _ put_30 1 rfl 224 rfl 5 rfl 30 rfl _).mono ?_); rintro e w2 ⟨A2, c2, rfl, hr2, ha2, hb2, hw2⟩; have H2 := Lib.hid (H1.out.trans (hw2.mono H1.out.size)); have R12 := Lib.hid (R1.out.below hw2); have R2 := Lib.hid hr2; clear hw2 hr2)
    | (go_at_call 12; (with_reducible refine (get3 _).mono ?_); rintro e w3 ⟨rfl, hw3⟩; have H3 := Lib.hid (H2.out.trans (hw3.mono H2.out.size)); have R13 := Lib.hid (R12.out.below hw3); have R23 := Lib.hid (R2.out.below hw3); clear hw3)
    | (go_at_call 12; (with_reducible refine (get2 _).mono ?_); rintro e w4 ⟨rfl, hw4⟩; have H4 := Lib.hid (H3.out.trans (hw4.mono H3.out.size)); have R14 := Lib.hid (R13.out.below hw4); have R24 := Lib.hid (R23.out.below hw4); clear hw4)
    | (go_at_call 14; (with_reducible refine (text3 _ (HC.out.below H4.out)).mono ?_); rintro e w5 ⟨rfl, hw5⟩; have H5 := Lib.hid (H4.out.trans (hw5.mono H4.out.size)); have R15 := Lib.hid (R14.out.below hw5); have R25 := Lib.hid (R24.out.below hw5); clear hw5)
    | (go_at_call 16; (with_reducible refine (puta _ (HC.out.below H5.out)).mono ?_); rintro e w6 ⟨A6, c6, rfl, hr6, hw6⟩; have H6 := Lib.hid (H5.out.trans (hw6.mono H5.out.size)); have q1 := s1337 (c := c1) (R15.out.below hw6); have q2 := s30 (c := c2) (R25.out.below hw6); have q3 := s1a (c := c6) hr6; clear hw6 hr6))
  go_ret
  exact ⟨rfl, H6.out⟩
end Go.Proofs.YtdmheinepkeglaaDoor
