/- OctetsBack's walk: whatever the input, true. -/
import Derived.Test.YtfklllikihjjhaaNext
namespace Go.Proofs.Ytfklllikihjjhaa
open Go.ChangeShapes Go.WideShapes Go.ChangeAt Go.RowKit Go.Own
set_option linter.unusedVariables false

theorem conv_rd {W : World} {A : Option Addr} {n c : Nat} {xs : List UInt8} (h : Rd W 1 A n (xs.map BV)) : (convert 22 9 (.slice A n c)).run Try.prog W = .ok (.string ⟨xs.toArray⟩) W :=
  run_conv_bytes (P := Try.prog) Try.underlying22 Try.underlying5 Try.underlying9 h

theorem mask_any (a n r : Nat) (ha : a < 18446744073709551616) (hn : n < 8) (hr : a % 256 ^ n = r) : bits BinOp.and IntKind.u64 (a : Int) (IntKind.u64.wrap (IntKind.u64.wrap (2 ^ (8 * n)) - 1)) = (r : Int) := by
  have key : n = 0 ∨ n = 1 ∨ n = 2 ∨ n = 3 ∨ n = 4 ∨ n = 5 ∨ n = 6 ∨ n = 7 := by omega
  subst hr
  have h := fun k => and_mask a k ha
  rcases key with rfl | rfl | rfl | rfl | rfl | rfl | rfl | rfl
  · exact h 0 (by decide)
  · exact h 8 (by decide)
  · exact h 16 (by decide)
  · exact h 24 (by decide)
  · exact h 32 (by decide)
  · exact h 40 (by decide)
  · exact h 48 (by decide)
  · exact h 56 (by decide)
theorem uintRest' (g o len b n r : Nat) (xs : List UInt8) (W : World) (hb : Blk W g 5 ((xs ++ be b n).map BV)) (hx : xs.length = o) (hl : len = n) (h1 : 1 ≤ n) (h8 : n ≤ 8) (hr : b % 256 ^ n = r) :
    Calls Try.prog 11 #[.slice (some ⟨g, o, none⟩) len len, .int .i64 n] W fun e w' => e = .returned (.tuple #[.int .u64 (r : Int), .bool true]) ∧ W = w' := by
  subst hr
  exact uintRest g o len b n xs W hb hx hl h1 h8

set_option maxHeartbeats 800000 in
theorem back_walk {W : World} {A : Option Addr} {len cap : Nat} {xs : List UInt8} (hr : Rd W 1 A len (xs.map BV)) (hlc : len ≤ cap) (hcap : cap ≤ 140737488351232) {a1 a2 : Int} (w1 : (Lit.int .u64 a1).wf = true) (w2 : (Lit.int .i64 a2).wf = true) :
    Calls Try.prog 3 #[.slice A len cap, .int .u64 a1, .int .i64 a2] W fun e w' => e = .returned (.bool true) ∧ Below W.heap.size W w' := by
  have b1 : 0 ≤ a1 ∧ a1 < 18446744073709551616 := by simp [Lit.wf, IntKind.min, IntKind.max, IntKind.signed, IntKind.bits] at w1; omega
  clear w1 w2
  obtain ⟨a, rfl⟩ := Int.eq_ofNat_of_zero_le b1.1
  have ha : a < 18446744073709551616 := by omega
  clear b1
  obtain ⟨n, en, hn1, hn8⟩ := one_and7 a2
  have hlen : xs.length = len := by simpa using hr.1
  obtain ⟨r, hrr⟩ : ∃ r, a % 256 ^ n = r := ⟨_, rfl⟩
  have hkey : (n < 8) ∨ (8 ≤ n ∧ r = a) := by
    by_cases h : n < 8
    · exact .inl h
    · obtain rfl : n = 8 := by omega
      exact .inr ⟨Nat.le_refl _, by rw [← hrr]; exact Nat.mod_eq_of_lt (by omega)⟩
  have hmask := mask_any a n r ha
  have Hmask := Lib.hid hmask
  have Hrr := Lib.hid hrr
  clear hrr hmask
  have Hr := Lib.hid hr
  have Hlen := Lib.hid hlen
  clear hr hlen
  go_enter Try.func3, Try.ntmps3
  go_wp2_with (first
    | (go_at_call 9; (with_reducible refine (shown_any _).mono ?_); rintro e w1 ⟨rfl, hb1⟩; have Hb1 := Lib.hid hb1; clear hb1)
    | (go_at_call 10; (with_reducible refine (Put_yes A len cap xs a n w1 (Hr.out.below Hb1.out) hn1 hn8 ha hlc (by omega)).mono ?_); rintro e w2 ⟨g, rfl, hB2, hg2, hb2⟩; have HB2 := Lib.hid hB2; have Hb2 := Lib.hid hb2; clear hB2 hb2))
  have hg : Rd w2 1 (some ⟨g, 0, none⟩) len (xs.map BV) := by
    have h := Rd.of_blk (n := len) (size := 1) HB2.out (by have := Hlen.out; simp; omega)
    rw [Nat.mul_one, List.map_append, List.take_append_of_le_length (by have := Hlen.out; simp; omega), List.take_of_length_le (by have := Hlen.out; simp; omega)] at h
    exact h
  have hc1 : ∀ q, (convert 22 9 (.slice (some ⟨g, 0, none⟩) len (len + n))).run Try.prog (w2.drewN q) = .ok (.string ⟨xs.toArray⟩) (w2.drewN q) := fun q => conv_rd (W := w2.drewN q) hg
  have hc2 : ∀ q, (convert 22 9 (.slice A len cap)).run Try.prog (w2.drewN q) = .ok (.string ⟨xs.toArray⟩) (w2.drewN q) := fun q => conv_rd (W := w2.drewN q) ((Hr.out.below Hb1.out).below (below_drewN Hb2.out q))
  have hwr : IntKind.i64.wrap ((len : Int) + n) = (len : Int) + n := by rw [IntKind.wrap_i64]; omega
  have hle : len ≤ len + n := by omega
  have hl0 : (0 : Int) ≤ len := by omega
  go_quiet (fail)
  have HB3 := HB2
  clear hc1 hc2 hwr hg
  rcases hkey with hlt | ⟨hge, rfl⟩
  · have hm := Hmask.out hlt Hrr.out
    go_wp2_with (first
      | (go_at_call 11; (with_reducible refine (uintRest' g len _ a n r xs _ (HB2.out.drewN _) Hlen.out (by omega) hn1 hn8 Hrr.out).mono ?_); rintro e w' ⟨rfl, rfl⟩)
      | (go_at_call 11; (with_reducible refine (Uint_no _ _ _ _ _ (by omega)).mono ?_); rintro e w' ⟨rfl, rfl⟩))
    go_ret
    exact ⟨rfl, below_drewN (Hb1.out.trans (Hb2.out.mono Hb1.out.size)) _⟩
  · go_wp2_with (first
      | (go_at_call 11; (with_reducible refine (uintRest' g len _ _ n _ xs _ (HB2.out.drewN _) Hlen.out (by omega) hn1 hn8 Hrr.out).mono ?_); rintro e w' ⟨rfl, rfl⟩)
      | (go_at_call 11; (with_reducible refine (Uint_no _ _ _ _ _ (by omega)).mono ?_); rintro e w' ⟨rfl, rfl⟩))
    go_ret
    exact ⟨rfl, below_drewN (Hb1.out.trans (Hb2.out.mono Hb1.out.size)) _⟩
end Go.Proofs.Ytfklllikihjjhaa
