/- The law StreamStays: the walk. -/
import Derived.Test.YtdpheliekdgnhaaNiS
namespace Go.Proofs.Ytdpheliekdgnhaa
open Go.RowKit Go.Own Go.Sm
set_option linter.unusedVariables false
set_option linter.unusedSimpArgs false
set_option maxRecDepth 100000
theorem ofInt64w (n : Nat) (h : n < 18446744073709551616) : (BitVec.ofInt 64 (n : Int)).toNat = n := by
  rw [BitVec.toNat_ofInt]; omega
/-- what is left of a number under a mask -/
theorem and_bd (z : Int) (m : Nat) (hm : m < 9223372036854775808) (M : Int) (hM : M = (m : Int)) : 0 ≤ bits .and .i64 z M ∧ bits .and .i64 z M ≤ M := by
  subst hM
  have e : bits .and .i64 z (m : Int) = IntKind.i64.wrap ((BitVec.ofInt 64 z &&& BitVec.ofInt 64 (m : Int)).toNat : Int) := rfl
  have h := @Nat.and_le_right (BitVec.ofInt 64 z).toNat m
  rw [e, BitVec.toNat_and, ofInt64w m (by omega), IntKind.wrap_i64]
  omega
/-- what Step tells of a state that is one -/
theorem stays9 {t : Int} (ht : 0 ≤ t ∧ t ≤ 6) (b : Bool) (k : Int) (fin : Bool) {n d c : Int} (h : stepV t b k fin = (n, d, c)) :
    (0 ≤ n ∧ n ≤ 6 ∧ (4 ≤ t → 4 ≤ n) ∧ (n = 0 → t = 0)) ∧ ((d = 0 ∧ c = 0) ∨ (d = 1 ∧ c = 0 ∧ n = t ∧ b = false) ∨ (d = 2 ∧ c = 5 ∧ n = 5 ∧ b = false) ∨ (d = 3 ∧ c = 1 ∧ n = t ∧ b = false) ∨ (d = 3 ∧ c = 5 ∧ n = t ∧ b = false) ∨ (d = 4 ∧ c = 2 ∧ n = t ∧ b = true)) := by
  unfold stepV at h
  have e : isStV t = true := by unfold isStV; rw [decide_eq_true_iff]; exact ht
  rw [e] at h
  simp only [Bool.true_eq_false, if_false] at h
  have key : ∀ k' : Int, (k' = 0 ∨ k' = 1 ∨ k' = 3 ∨ k' = 8 ∨ k' = 5 ∨ k' = 77) → ∀ t' : Int, 0 ≤ t' ∧ t' ≤ 6 → ∀ n d c, (bif b then sendV t' k' fin else getV t' k' fin) = (n, d, c) → 
    (0 ≤ n ∧ n ≤ 6 ∧ (4 ≤ t' → 4 ≤ n) ∧ (n = 0 → t' = 0)) ∧ ((d = 0 ∧ c = 0) ∨ (d = 1 ∧ c = 0 ∧ n = t' ∧ b = false) ∨ (d = 2 ∧ c = 5 ∧ n = 5 ∧ b = false) ∨ (d = 3 ∧ c = 1 ∧ n = t' ∧ b = false) ∨ (d = 3 ∧ c = 5 ∧ n = t' ∧ b = false) ∨ (d = 4 ∧ c = 2 ∧ n = t' ∧ b = true)) := by
    intro k' hk t' ht' n d c h
    rcases seven ht' with rfl | rfl | rfl | rfl | rfl | rfl | rfl <;> rcases hk with rfl | rfl | rfl | rfl | rfl | rfl <;> cases b <;> cases fin <;> cases h <;> decide
  rcases kinds9 k with rfl | rfl | rfl | rfl | rfl | ⟨k1, k2, k3, k4, k5⟩
  · exact key 1 (by decide) t ht n d c h
  · exact key 0 (by decide) t ht n d c h
  · exact key 3 (by decide) t ht n d c h
  · exact key 8 (by decide) t ht n d c h
  · exact key 5 (by decide) t ht n d c h
  · refine key 77 (by decide) t ht n d c ?_
    rw [← h]
    have e1 : sendV t 77 fin = sendV t k fin := by
      unfold sendV
      rw [if_neg k1, if_neg k2, if_neg k3, if_neg k4, if_neg k5]
      rfl
    have e2 : getV t 77 fin = getV t k fin := by
      unfold getV
      rw [if_neg k1, if_neg k2, if_neg k3, if_neg k4, if_neg k5]
      rfl
    rw [e1, e2]
set_option maxHeartbeats 8000000 in
theorem lawStays {w : World} (z : Int) (hz : i64i z) (b : Bool) (k : Int) (hk : i64i k) (fin : Bool) :
    Calls Try.prog 5 #[.int .i64 z, .bool b, .int .i64 k, .bool fin] w fun e w' => e = .returned (.bool true) ∧ Below w.heap.size w w' := by
  have hbd := and_bd z 65535 (by omega) 65535 rfl
  obtain ⟨m, hm⟩ : ∃ m, bits .and .i64 z 65535 = m := ⟨_, rfl⟩
  rw [hm] at hbd
  obtain ⟨t, ht⟩ : ∃ t, m.tmod 7 = t := ⟨_, rfl⟩
  have ht6 : 0 ≤ t ∧ t ≤ 6 := by
    rw [← ht, Int.tmod_eq_emod_of_nonneg hbd.1]
    omega
  obtain ⟨n, d, c, hs⟩ : ∃ n d c, stepV t b k fin = (n, d, c) := ⟨_, _, _, rfl⟩
  obtain ⟨⟨n0, n6, n4, nz⟩, hd⟩ := stays9 ht6 b k fin hs
  have HS := Lib.hid hs
  clear hs hbd hz hk
  have n1 : ¬ n < 0 := by omega
  have n2 : ¬ 6 < n := by omega
  have ways : (n = 0 ∧ t = 0) ∨ ((n == 0) = false ∧ ¬ 4 ≤ t) ∨ ((n == 0) = false ∧ 4 ≤ t ∧ ¬ n < 4) := by
    by_cases h1 : n = 0
    · exact .inl ⟨h1, nz h1⟩
    · have h2 : (n == 0) = false := by simpa using h1
      by_cases h3 : 4 ≤ t
      · exact .inr (.inr ⟨h2, h3, by have := n4 h3; omega⟩)
      · exact .inr (.inl ⟨h2, h3⟩)
  clear n0 n6 n4 nz ht6
  rcases hd with ⟨rfl, rfl⟩ | ⟨rfl, rfl, e, rfl⟩ | ⟨rfl, rfl, e, rfl⟩ | ⟨rfl, rfl, e, rfl⟩ | ⟨rfl, rfl, e, rfl⟩ | ⟨rfl, rfl, e, rfl⟩ <;> rcases ways with ⟨h1, h2⟩ | ⟨h1, h2⟩ | ⟨h1, h2, h3⟩
  all_goals try (exfalso; omega)
  all_goals
    try subst e
    try subst h1
    try subst h2
    go_enter Try.func5, Try.ntmps5
    go_wp2_with (first
      | (go_at_call 9; (with_reducible refine (shown_c _).mono ?_); rintro e w1 ⟨rfl, b1⟩; have B1 := Lib.hid b1; clear b1)
      | (go_at_call 10; (with_reducible refine (step_c _ _ k fin _ HS.out).mono ?_); rintro e w2 ⟨rfl, rfl⟩))
    go_ret
    exact ⟨rfl, B1.out⟩
end Go.Proofs.Ytdpheliekdgnhaa
