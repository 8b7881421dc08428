/- OctetsNext's and OctetsBack's walks: whatever the input, true. -/
import Derived.Test.YtfklllikihjjhaaShown
namespace Go.Proofs.Ytfklllikihjjhaa
open Go.ChangeShapes Go.WideShapes Go.ChangeAt Go.RowKit Go.Own
set_option linter.unusedVariables false

theorem and_mask (v k : Nat) (hv : v < 18446744073709551616) (hk : 2 ^ k ≤ 18446744073709551616) : bits .and .u64 (v : Int) ((2 ^ k - 1 : Nat) : Int) = ((v % 2 ^ k : Nat) : Int) := by
  have := Nat.two_pow_pos k
  rw [u64_and_nat v (2 ^ k - 1) hv (by omega), Nat.and_two_pow_sub_one_eq_mod]
theorem low_any (v n : Nat) (w : World) (h1 : 1 ≤ n) (h8 : n ≤ 8) (hv : v < 18446744073709551616) :
    Calls Try.prog 22 #[.int .u64 v, .int .i64 n] w fun e w' => e = .returned (.int .u64 ((v % 256 ^ n : Nat) : Int)) ∧ w = w' := by
  have key : n = 1 ∨ n = 2 ∨ n = 3 ∨ n = 4 ∨ n = 5 ∨ n = 6 ∨ n = 7 ∨ n = 8 := by omega
  have h := fun k => and_mask v k hv
  rcases key with rfl | rfl | rfl | rfl | rfl | rfl | rfl | rfl
  · have H := Lib.hid (h 8 (by decide)); clear h
    go_enter Try.func22, Try.ntmps22
    go_wp2
    go_ret
    exact ⟨ret_int H.out, rfl⟩
  · have H := Lib.hid (h 16 (by decide)); clear h
    go_enter Try.func22, Try.ntmps22
    go_wp2
    go_ret
    exact ⟨ret_int H.out, rfl⟩
  · have H := Lib.hid (h 24 (by decide)); clear h
    go_enter Try.func22, Try.ntmps22
    go_wp2
    go_ret
    exact ⟨ret_int H.out, rfl⟩
  · have H := Lib.hid (h 32 (by decide)); clear h
    go_enter Try.func22, Try.ntmps22
    go_wp2
    go_ret
    exact ⟨ret_int H.out, rfl⟩
  · have H := Lib.hid (h 40 (by decide)); clear h
    go_enter Try.func22, Try.ntmps22
    go_wp2
    go_ret
    exact ⟨ret_int H.out, rfl⟩
  · have H := Lib.hid (h 48 (by decide)); clear h
    go_enter Try.func22, Try.ntmps22
    go_wp2
    go_ret
    exact ⟨ret_int H.out, rfl⟩
  · have H := Lib.hid (h 56 (by decide)); clear h
    go_enter Try.func22, Try.ntmps22
    go_wp2
    go_ret
    exact ⟨ret_int H.out, rfl⟩
  · clear h
    have H : Hid (v % 256 ^ 8 = v) := Nat.mod_eq_of_lt (by omega)
    go_enter Try.func22, Try.ntmps22
    go_wp2
    go_ret
    exact ⟨ret_int (by rw [H.out]), rfl⟩

/-- 1 + n & 7 lies from 1 to 8 -/
theorem one_and7 (a : Int) : ∃ n : Nat, wrap64 (1 + bits BinOp.and IntKind.i64 a 7) = (n : Int) ∧ 1 ≤ n ∧ n ≤ 8 := by
  have e : ∃ m : Nat, bits BinOp.and IntKind.i64 a 7 = (m : Int) ∧ m ≤ 7 := by
    refine ⟨(BitVec.ofInt 64 a &&& BitVec.ofInt 64 7).toNat, ?_, ?_⟩
    · have h7 : (BitVec.ofInt 64 a &&& BitVec.ofInt 64 7).toNat ≤ 7 := by rw [BitVec.toNat_and]; exact Nat.and_le_right
      have e : bits BinOp.and IntKind.i64 a 7 = IntKind.i64.wrap ((BitVec.ofInt 64 a &&& BitVec.ofInt 64 7).toNat : Int) := rfl
      rw [e, IntKind.wrap_i64]; omega
    · rw [BitVec.toNat_and]; exact Nat.and_le_right
  obtain ⟨m, e, hm⟩ := e
  refine ⟨m + 1, ?_, by omega, by omega⟩
  rw [e]
  unfold wrap64
  omega

theorem putNil (v n : Nat) (W : World) (h1 : 1 ≤ n) (h8 : n ≤ 8) (hv : v < 18446744073709551616) : Calls Try.prog 10 #[.slice none 0 0, .int .u64 v, .int .i64 n] W fun e w' => ∃ g, e = .returned (.slice (some ⟨g, 0, none⟩) n n) ∧
      Blk w' g 5 ((be v n).map BV) ∧ Below W.heap.size W w' := by
  refine (Put_yes none 0 0 [] v n W (Rd.nil _ _ _) h1 h8 hv (by omega) (by omega)).mono ?_
  rintro e w' ⟨g, rfl, hb, hg, hl⟩
  exact ⟨g, by rw [Nat.zero_add], by simpa using hb, hl⟩
theorem putBlk (g len : Nat) (xs : List UInt8) (v n : Nat) (W : World) (hb : Blk W g 5 (xs.map BV)) (hl : xs.length = len) (hl8 : len ≤ 8) (h1 : 1 ≤ n) (h8 : n ≤ 8) (hv : v < 18446744073709551616) :
    Calls Try.prog 10 #[.slice (some ⟨g, 0, none⟩) len len, .int .u64 v, .int .i64 n] W fun e w' => ∃ g, e = .returned (.slice (some ⟨g, 0, none⟩) (len + n) (len + n)) ∧
      Blk w' g 5 ((xs ++ be v n).map BV) ∧ Below W.heap.size W w' := by
  have hr := Rd.of_blk (n := len) (size := 1) hb (by simp; omega)
  rw [Nat.mul_one, List.take_of_length_le (by simp; omega)] at hr
  refine (Put_yes _ len len xs v n W hr h1 h8 hv (by omega) (by omega)).mono ?_
  rintro e w' ⟨g, rfl, hb, hg, hl⟩
  exact ⟨g, rfl, hb, hl⟩
theorem uintBlk (g len n : Nat) (xs ys : List UInt8) (W : World) (hb : Blk W g 5 ((xs ++ ys).map BV)) (hl : (xs ++ ys).length = len) (hx : xs.length = n) (hs : len ≤ 16) (h1 : 1 ≤ n) (h8 : n ≤ 8) :
    Calls Try.prog 11 #[.slice (some ⟨g, 0, none⟩) len len, .int .i64 n] W fun e w' => e = .returned (.tuple #[.int .u64 (num xs : Nat), .bool true]) ∧ W = w' := by
  have hr := Rd.of_blk (n := len) (size := 1) hb (by simp; simp at hl; omega)
  rw [Nat.mul_one, List.take_of_length_le (by simp; simp at hl; omega)] at hr
  have h := Uint_yes _ len len (xs ++ ys) n W hr h1 h8 (by simp at hl; omega) (Nat.le_refl _) (by omega)
  rw [List.take_append_of_le_length (by omega), List.take_of_length_le (by omega)] at h
  exact h
theorem uintTail (g o len n : Nat) (xs ys : List UInt8) (W : World) (hb : Blk W g 5 ((xs ++ ys).map BV)) (hx : xs.length = o) (hy : ys.length = n) (hl : len = n) (h1 : 1 ≤ n) (h8 : n ≤ 8) :
    Calls Try.prog 11 #[.slice (some ⟨g, o, none⟩) len len, .int .i64 n] W fun e w' => e = .returned (.tuple #[.int .u64 (num ys : Nat), .bool true]) ∧ W = w' := by
  subst hl
  have hr : Rd W 1 (some ⟨g, o, none⟩) len (ys.map BV) := by
    refine ⟨by simp [hy], fun _ => ⟨g, o, rfl, fun j v hv => ?_⟩⟩
    rw [hb.cell, List.map_append, List.getElem?_append_right (by simp; omega)]
    rw [← hv]
    congr 1
    simp
    omega
  have h := Uint_yes _ len len ys len W hr h1 h8 (by omega) (Nat.le_refl _) (by omega)
  rw [List.take_of_length_le (by omega)] at h
  exact h

theorem uintHead (g len a n : Nat) (ys : List UInt8) (W : World) (hb : Blk W g 5 ((be a n ++ ys).map BV)) (hl : n + ys.length = len) (hs : len ≤ 16) (h1 : 1 ≤ n) (h8 : n ≤ 8) :
    Calls Try.prog 11 #[.slice (some ⟨g, 0, none⟩) len len, .int .i64 n] W fun e w' => e = .returned (.tuple #[.int .u64 ((a % 256 ^ n : Nat) : Int), .bool true]) ∧ W = w' := by
  have h := uintBlk g len n (be a n) ys W hb (by simp [be_length]; exact hl) (be_length _ _) hs h1 h8
  rw [num_be] at h
  exact h
theorem uintRest (g o len b n : Nat) (xs : List UInt8) (W : World) (hb : Blk W g 5 ((xs ++ be b n).map BV)) (hx : xs.length = o) (hl : len = n) (h1 : 1 ≤ n) (h8 : n ≤ 8) :
    Calls Try.prog 11 #[.slice (some ⟨g, o, none⟩) len len, .int .i64 n] W fun e w' => e = .returned (.tuple #[.int .u64 ((b % 256 ^ n : Nat) : Int), .bool true]) ∧ W = w' := by
  have h := uintTail g o len n xs (be b n) W hb hx (be_length _ _) hl h1 h8
  rw [num_be] at h
  exact h

set_option maxHeartbeats 400000 in
theorem next_walk (a0 a1 a2 a3 : Int) (w : World) (w0 : (Lit.int .u64 a0).wf = true) (w1 : (Lit.int .u64 a1).wf = true) (w2 : (Lit.int .i64 a2).wf = true) (w3 : (Lit.int .i64 a3).wf = true) :
    Calls Try.prog 8 #[.int .u64 a0, .int .u64 a1, .int .i64 a2, .int .i64 a3] w fun e w' => e = .returned (.bool true) ∧ Below w.heap.size w w' := by
  have b0 : 0 ≤ a0 ∧ a0 < 18446744073709551616 := by simp [Lit.wf, IntKind.min, IntKind.max, IntKind.signed, IntKind.bits] at w0; omega
  have b1 : 0 ≤ a1 ∧ a1 < 18446744073709551616 := by simp [Lit.wf, IntKind.min, IntKind.max, IntKind.signed, IntKind.bits] at w1; omega
  clear w0 w1 w2 w3
  obtain ⟨a, rfl⟩ := Int.eq_ofNat_of_zero_le b0.1
  obtain ⟨b, rfl⟩ := Int.eq_ofNat_of_zero_le b1.1
  have ha : a < 18446744073709551616 := by omega
  have hb : b < 18446744073709551616 := by omega
  clear b0 b1
  obtain ⟨n, en, hn1, hn8⟩ := one_and7 a2
  obtain ⟨m, em, hm1, hm8⟩ := one_and7 a3
  go_enter Try.func8, Try.ntmps8
  go_wp2_with (first
    | (go_at_call 9; (with_reducible refine (shown_any _).mono ?_); rintro e w1 ⟨rfl, hb1⟩; have Hb1 := Lib.hid hb1; clear hb1)
    | (go_at_call 10; (with_reducible refine (putNil a n _ hn1 hn8 ha).mono ?_); rintro e w2 ⟨g, rfl, hB2, hb2⟩; have HB2 := Lib.hid hB2; have Hb2 := Lib.hid hb2; clear hB2 hb2)
    | (go_at_call 10; (with_reducible refine (putBlk g n (be a n) b m w2 HB2.out (be_length a n) hn8 hm1 hm8 hb).mono ?_); rintro e w3 ⟨g3, rfl, hB3, hb3⟩; have HB3 := Lib.hid hB3; have Hb3 := Lib.hid hb3; clear hB3 hb3)
    | (go_at_call 11; (with_reducible refine (uintHead g3 (n + m) a n (be b m) w3 HB3.out (by rw [be_length]) (by omega) hn1 hn8).mono ?_); rintro e w' ⟨rfl, rfl⟩)
    | (go_at_call 11; (with_reducible refine (uintRest g3 n _ b m (be a n) w3 HB3.out (be_length _ _) (by omega) hm1 hm8).mono ?_); rintro e w' ⟨rfl, rfl⟩)
    | (go_at_call 22; (with_reducible refine (low_any a n _ hn1 hn8 ha).mono ?_); rintro e w' ⟨rfl, rfl⟩)
    | (go_at_call 22; (with_reducible refine (low_any b m _ hm1 hm8 hb).mono ?_); rintro e w' ⟨rfl, rfl⟩))
  go_ret
  exact ⟨rfl, Hb1.out.trans ((Hb2.out.mono Hb1.out.size).trans (Hb3.out.mono (Nat.le_trans Hb1.out.size Hb2.out.size)))⟩
end Go.Proofs.Ytfklllikihjjhaa
