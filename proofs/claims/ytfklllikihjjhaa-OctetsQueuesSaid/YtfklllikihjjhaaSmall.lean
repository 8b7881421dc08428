/- The contracts of package octets' functions on numbers (Uint, Put), over the seat's translation. -/
import Derived.Test.YtfklllikihjjhaaRows
import Derived.Test.YtfklllikihjjhaaBase
import Derived.ProofKit
import Derived.OpenShut
import Derived.ShutString
import Derived.ChangeOld
namespace Go.Proofs.Ytfklllikihjjhaa
open Go.ChangeShapes Go.WideShapes Go.ChangeAt Go.RowKit Go.Own
set_option linter.unusedVariables false

theorem hasWidth_any (n : Int) (w : World) :
    Calls Try.prog 23 #[.int .i64 n] w fun e w' => e = .returned (.bool (decide (1 ≤ n) && decide (n ≤ 8))) ∧ w = w' := by
  by_cases h : 1 ≤ n
  · go_enter Try.func23, Try.ntmps23
    go_wp2
    go_ret
    exact ⟨ret_bool (by simp [h]), rfl⟩
  · go_enter Try.func23, Try.ntmps23
    go_wp2
    go_ret
    exact ⟨ret_bool (by simp; omega), rfl⟩
theorem upTo_any (n m : Int) (w : World) :
    Calls Try.prog 24 #[.int .i64 n, .int .i64 m] w fun e w' => e = .returned (.int .i64 (max 0 (min n m))) ∧ w = w' := by
  go_enter Try.func24, Try.ntmps24
  go_wp2
  all_goals go_ret
  all_goals exact ⟨ret_int (by split at * <;> omega), rfl⟩

def num (xs : List UInt8) : Nat := xs.foldl (fun v b => v * 256 + b.toNat) 0


theorem num_snoc (xs : List UInt8) (b : UInt8) : num (xs ++ [b]) = num xs * 256 + b.toNat := by simp [num]
theorem num_take_succ (xs : List UInt8) (k : Nat) (h : k < xs.length) : num (xs.take (k + 1)) = num (xs.take k) * 256 + xs[k].toNat := by
  rw [List.take_succ_eq_append_getElem h, num_snoc]
theorem num_lt (xs : List UInt8) : num xs < 256 ^ xs.length := by
  suffices h : ∀ n, ∀ xs : List UInt8, xs.length = n → num xs < 256 ^ n from h _ xs rfl
  intro n
  induction n with
  | zero => intro xs h; have := List.eq_nil_of_length_eq_zero h; subst this; simp [num]
  | succ n ih =>
    intro xs h
    have hne : xs ≠ [] := by intro e; subst e; simp at h
    obtain ⟨ys, y, rfl⟩ : ∃ ys y, xs = ys ++ [y] := ⟨xs.dropLast, xs.getLast hne, (List.dropLast_concat_getLast hne).symm⟩
    rw [num_snoc]
    have := ih ys (by simpa using h)
    have hy := y.toNat_lt
    rw [Nat.pow_succ]
    omega
theorem num_take_lt (xs : List UInt8) (k : Nat) (h : k ≤ 7) : num (xs.take k) < 72057594037927936 := by
  have h1 := num_lt (xs.take k)
  have h2 : (xs.take k).length ≤ k := List.length_take_le _ _
  have h3 : 256 ^ (xs.take k).length ≤ 256 ^ 7 := Nat.pow_le_pow_right (by omega) (by omega)
  have h4 : (256 : Nat) ^ 7 = 72057594037927936 := by decide
  omega

theorem or_byte (v y : Nat) (hv : v < 72057594037927936) (hy : y < 256) : Value.int .u64 (bits .or .u64 ((v : Int) * 256) (y : Int)) = .int .u64 ((v * 256 + y : Nat) : Int) := by
  have e : ((v : Int) * 256) = ((v * 256 : Nat) : Int) := by omega
  rw [e, u64_or_nat _ _ (by omega) (by omega), Nat.or_comm, nat_join8' (v * 256) y (by omega) hy]

set_option maxHeartbeats 400000 in
theorem Uint_yes (A : Option Addr) (len cap : Nat) (xs : List UInt8) (n : Nat) (w : World) (hs : Rd w 1 A len (xs.map BV)) (h1 : 1 ≤ n) (h8 : n ≤ 8) (hl : n ≤ len) (hc : len ≤ cap) (hcap : cap ≤ 9223372036854775807) :
    Calls Try.prog 11 #[.slice A len cap, .int .i64 n] w fun e w' => e = .returned (.tuple #[.int .u64 (num (xs.take n)), .bool true]) ∧ w = w' := by
  have hlen : xs.length = len := by simpa using hs.1
  obtain ⟨b, o, rfl, hcl⟩ := hs.2 (by omega)
  clear hs
  have hb1 : (decide (1 ≤ (n : Int)) && decide ((n : Int) ≤ 8)) = true := by simp; omega
  have ht : decide (len < n) = false := by simp; omega
  have hw := hasWidth_any n
  rw [hb1] at hw
  have Hl := Lib.hid hlen
  have hge : len ≤ xs.length := by omega
  have HC := Lib.hid hcl
  clear hb1 hlen hcl
  go_enter Try.func11, Try.ntmps11
  go_wp2_with (go_at_call 23; refine (hw _).mono ?_; rintro e w' ⟨rfl, rfl⟩)
  go_loop [6, 22] (fun v i => ∃ k : Nat, k ≤ n ∧ i = .int .i64 k ∧ v = .int .u64 (num (xs.take k) : Nat)) (fun _ i => n - (intOf i).toNat)
  case atStart => exact ⟨0, by omega, rfl, by simp [num]⟩
  case round =>
    obtain ⟨k, hk, rfl, rfl⟩ := hrel
    by_cases hlt : k < n
    · obtain ⟨y, hy⟩ : ∃ y, xs[k] = y := ⟨_, rfl⟩
      have hcv : w.cell? ⟨b, o + k, none⟩ = some (.int .u8 (y.toNat : Int)) := HC.out k _ (by rw [List.getElem?_map, List.getElem?_eq_getElem (show k < xs.length by omega), hy]; rfl)
      have Hy := Lib.hid hy
      clear hy
      have hy1 := y.toNat_lt
      have hv := num_take_lt xs k (by omega)
      obtain ⟨v, ev⟩ : ∃ v, num (xs.take k) = v := ⟨_, rfl⟩
      have Hv := Lib.hid ev
      rw [ev] at hv ⊢
      clear ev
      go_wp2
      go_round
      case rel => exact ⟨k + 1, by omega, by go_num, by
        rw [num_take_succ xs k (by omega), Hv.out, Hy.out, or_byte v _ hv hy1]⟩
      case measure => simp [intOf]; omega
    · go_wp2
      go_ret2
      have e : k = n := by omega
      subst e
      exact ⟨rfl, rfl⟩

theorem Uint_wide (A : Option Addr) (len cap : Nat) (n : Int) (w : World) (h : n < 1 ∨ 8 < n) :
    Calls Try.prog 11 #[.slice A len cap, .int .i64 n] w fun e w' => e = .returned (.tuple #[.int .u64 0, .bool false]) ∧ w = w' := by
  have hb1 : (decide (1 ≤ n) && decide (n ≤ 8)) = false := by simp; omega
  have hw := hasWidth_any n
  rw [hb1] at hw
  clear hb1
  go_enter Try.func11, Try.ntmps11
  go_wp2_with (go_at_call 23; refine (hw _).mono ?_; rintro e w' ⟨rfl, rfl⟩)
  all_goals go_ret2
  all_goals exact ⟨rfl, rfl⟩
theorem Uint_short (A : Option Addr) (len cap : Nat) (n : Int) (w : World) (h1 : 1 ≤ n) (h8 : n ≤ 8) (h : len < n) :
    Calls Try.prog 11 #[.slice A len cap, .int .i64 n] w fun e w' => e = .returned (.tuple #[.int .u64 0, .bool false]) ∧ w = w' := by
  have hb1 : (decide (1 ≤ n) && decide (n ≤ 8)) = true := by simp; omega
  have hw := hasWidth_any n
  rw [hb1] at hw
  clear hb1
  go_enter Try.func11, Try.ntmps11
  go_wp2_with (go_at_call 23; refine (hw _).mono ?_; rintro e w' ⟨rfl, rfl⟩)
  all_goals go_ret2
  all_goals exact ⟨rfl, rfl⟩
theorem Uint_no (A : Option Addr) (len cap : Nat) (n : Int) (w : World) (h : n < 1 ∨ 8 < n ∨ len < n) :
    Calls Try.prog 11 #[.slice A len cap, .int .i64 n] w fun e w' => e = .returned (.tuple #[.int .u64 0, .bool false]) ∧ w = w' := by
  by_cases h1 : n < 1 ∨ 8 < n
  · exact Uint_wide A len cap n w h1
  · exact Uint_short A len cap n w (by omega) (by omega) (by omega)

/-- the lowest n octets of v, the highest first -/
def be (v : Nat) : Nat → List UInt8
  | 0 => []
  | n + 1 => be (v / 256) n ++ [UInt8.ofNat v]
theorem be_length (v n : Nat) : (be v n).length = n := by
  induction n generalizing v with
  | zero => rfl
  | succ n ih => simp [be, ih]
theorem be_succ (v n : Nat) : be v (n + 1) = UInt8.ofNat (v / 256 ^ n) :: be v n := by
  induction n generalizing v with
  | zero => simp [be]
  | succ n ih =>
    rw [be, ih (v / 256), be, Nat.div_div_eq_div_mul, Nat.pow_succ, Nat.mul_comm 256]; rfl
theorem num_be (v n : Nat) : num (be v n) = v % 256 ^ n := by
  induction n generalizing v with
  | zero => simp [be, num, Nat.mod_one]
  | succ n ih =>
    rw [be, num_snoc, ih, Nat.pow_succ, Nat.mul_comm (256 ^ n) 256, Nat.mod_mul]
    have : (UInt8.ofNat v).toNat = v % 256 := by simp
    omega

def zeroB : Value := .int .u8 0
/-- Put's block behind k rounds -/
def putC (xs : List UInt8) (v n k : Nat) : List Value := xs.map BV ++ (List.replicate (n - k) zeroB ++ (be v k).map BV)
theorem putC_length (xs : List UInt8) (v n k : Nat) (hk : k ≤ n) : (putC xs v n k).length = xs.length + n := by
  simp [putC, be_length]; omega
theorem putC_full (xs : List UInt8) (v n : Nat) : putC xs v n n = (xs ++ be v n).map BV := by simp [putC]
theorem putC_next (xs : List UInt8) (v n k : Nat) (hk : k < n) :
    (putC xs v n k).set (xs.length + n - 1 - k) (BV (UInt8.ofNat (v / 256 ^ k))) = putC xs v n (k + 1) := by
  unfold putC
  rw [List.set_append_right _ _ (by simp; omega)]
  congr 1
  obtain ⟨m, rfl⟩ : ∃ m, n = k + 1 + m := ⟨n - k - 1, by omega⟩
  have e1 : k + 1 + m - k = m + 1 := by omega
  have e2 : k + 1 + m - (k + 1) = m := by omega
  have e3 : xs.length + (k + 1 + m) - 1 - k - (xs.map BV).length = m := by simp; omega
  rw [e1, e2, e3, List.replicate_succ', List.append_assoc, List.set_append_right _ _ (by simp)]
  simp [be_succ]

theorem info5 : (Try.prog.info? 5).map (·.size) = some 1 := by kernel_rfl
theorem info5' : (Try.prog.info? 5).map (fun i => (i.zero, i.size, i.bytes)) = some (some (.int .u8 0), 1, 1) := by kernel_rfl

theorem E22 : Elt Try.prog 22 5 zeroB 1 1 := by
  obtain ⟨i0, hi, hz0, hz1, hz2⟩ := info_parts info5'
  exact ⟨Try.underlying22, ⟨i0, hi, hz0, hz1, hz2⟩, rfl, by omega⟩

set_option maxHeartbeats 400000 in
theorem Put_yes (A : Option Addr) (len cap : Nat) (xs : List UInt8) (v n : Nat) (w : World) (hs : Rd w 1 A len (xs.map BV)) (h1 : 1 ≤ n) (h8 : n ≤ 8) (hv : v < 18446744073709551616) (hc : len ≤ cap) (hcap : cap ≤ 140737488355328) :
    Calls Try.prog 10 #[.slice A len cap, .int .u64 v, .int .i64 n] w fun e w' => ∃ g, e = .returned (.slice (some ⟨g, 0, none⟩) (len + n) (len + n)) ∧
      Blk w' g 5 ((xs ++ be v n).map BV) ∧ w.heap.size ≤ g ∧ Below w.heap.size w w' := by
  have Hl : Hid (xs.length = len) := show _ = _ by simpa using hs.1
  have hb1 : (decide (1 ≤ (n : Int)) && decide ((n : Int) ≤ 8)) = true := by simp; omega
  have hw := hasWidth_any n
  rw [hb1] at hw
  clear hb1
  have hmk := run_make_zeros E22 rfl .i64 .i64 ((len : Int) + n) (len + n) (by omega) (by omega) (by omega)
  have hg0 : Blk (w.alloc (.cells (zeros zeroB (len + n)).toArray 5)) w.heap.size 5 (zeros zeroB (len + n)) := Blk.new _ _ _
  have hs1 : Rd (w.alloc (.cells (zeros zeroB (len + n)).toArray 5)) 1 A len (xs.map BV) := hs.below ((Below.refl _ _).alloc (Nat.le_refl _) _)
  have hmin : Nat.min len (len + n) = len := Nat.min_eq_left (by omega)
  have hsp : Hid (splice (zeros zeroB (len + n)) 0 ((xs.map BV).take len) = putC xs v n 0) := by
    show _ = _
    have := Hl.out
    have e : (xs.map BV).take len = xs.map BV := List.take_of_length_le (by simp; omega)
    simp [splice, putC, be, e, zeros, this]
  have Hmin := Lib.hid hmin
  clear hmin hs
  go_enter Try.func10, Try.ntmps10
  go_wp2_with (first
    | (go_at_call 23; refine (hw _).mono ?_; rintro e w' ⟨rfl, rfl⟩)
    | (with_reducible refine wpList_copy_blk rfl (.tmp 17) (.tmp 18) 22 22 rfl 5 Try.underlying22 info5 (some ⟨w.heap.size, 0, none⟩) A (len + n) (len + n) len cap rfl rfl w.heap.size 0 (zeros zeroB (len + n)) 5 hg0 (xs.map BV) hs1 (BV_one xs) (fun _ => rfl) (by rw [Hmin.out, zeros_length]; simp) ?_
       intro w1 m hm hB1 hF1))
  have hB2 : Blk w1 w.heap.size 5 (putC xs v n 0) := by rw [← hsp.out]; rw [hm.out, Hmin.out] at hB1; exact hB1
  have hL1 : Below w.heap.size w w1 := ((Below.refl _ _).alloc (Nat.le_refl _) _).trans (hF1.below (by simp) (fun i _ h => by omega))
  have hnv := be_length v n
  clear hB1 hF1 hg0 hs1 hmk hw hm hsp Hmin hnv
  go_loopw [1, 8] (fun v' i W => ∃ k : Nat, k ≤ n ∧ i = .int .i64 ((len : Int) + n - 1 - k) ∧ v' = .int .u64 ((v / 256 ^ k : Nat) : Int) ∧ Blk W w.heap.size 5 (putC xs v n k) ∧ Below w.heap.size w W) (fun _ i _ => (intOf i + 1 - len).toNat)
  case atStart => exact ⟨0, by omega, by simp, by simp, hB2, hL1⟩
  case round =>
    obtain ⟨k, hk, rfl, rfl, hB, hL⟩ := hrel
    by_cases hlt : k < n
    · obtain ⟨y, hy⟩ : ∃ y, v / 256 ^ k = y := ⟨_, rfl⟩
      have hyb : y ≤ v := by rw [← hy]; exact Nat.div_le_self _ _
      have Hy := Lib.hid hy
      rw [hy] at ⊢
      clear hy
      have hlen := putC_length xs v n k hk
      rw [Hl.out] at hlen
      have hc := hB.cell (len + n - 1 - k)
      rw [List.getElem?_eq_getElem (by omega)] at hc
      obtain ⟨old, hold⟩ : ∃ o, (putC xs v n k)[len + n - 1 - k]'(by omega) = o := ⟨_, rfl⟩
      rw [hold] at hc
      clear hold hlen
      have hz := hB.frozen (len + n - 1 - k)
      have hi1 : ((len : Int) + n - 1 - k).toNat = len + n - 1 - k := by omega
      go_wp2
      refine ⟨⟨k + 1, by omega, congrArg (Value.int .i64) (by omega), congrArg (Value.int .u64) ?_, ?_, hL.setCell (Nat.le_refl _) _⟩, by simp [intOf]; omega⟩
      · rw [Nat.pow_succ, ← Nat.div_div_eq_div_mul, Hy.out]; omega
      · have hs := hB.set_ (len + n - 1 - k) (Value.int .u8 ((y : Int) % 256))
        have hp := putC_next xs v n k hlt
        rw [Hl.out, Hy.out] at hp
        rw [← hp]
        have e : BV (UInt8.ofNat y) = Value.int .u8 ((y : Int) % 256) := congrArg (Value.int .u8) (by simp)
        rw [e]
        exact hs
    · have e : k = n := by omega
      subst e
      rw [putC_full] at hB
      go_wp2
      go_ret
      exact ⟨_, by simp, hB, Nat.le_refl _, hL⟩
end Go.Proofs.Ytfklllikihjjhaa
