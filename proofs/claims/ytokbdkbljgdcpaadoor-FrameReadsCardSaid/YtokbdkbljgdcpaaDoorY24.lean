/- Several texts in one: Fh. -/
import Derived.Test.YtokbdkbljgdcpaaDoorY2
import Derived.Test.YtokbdkbljgdcpaaDoorY4
import Derived.Deep.LoopGhost
/- headOf: what stands ahead of a payload. -/
namespace Go.Proofs.YtokbdkbljgdcpaaDoor
open Go.RowKit Go.Own Go.Frm
set_option linter.unusedVariables false
set_option maxRecDepth 100000

/-- what of a kind's parts the first j rows of the flags' table say -/
def hpJ (k fl j : Nat) : List Bool := [decide (0 < j) && (hE k && fl.testBit 0), decide (2 < j) && (hH k && fl.testBit 2), decide (1 < j) && (hA k && fl.testBit 0), decide (3 < j) && (hP k && fl.testBit 3), decide (4 < j) && (hR k && fl.testBit 5), false, false, false, false, false, false, false]
theorem hpJ_5 (k fl : Nat) : hpJ k fl 5 = hpL k fl := by simp [hpJ, hpL]
theorem hpJ_0 (k fl : Nat) : bsum (hpJ k fl 0) = 0 := by simp [hpJ, bsum]
/-- the rows -/
def bitP (j : Nat) : Nat := if j = 0 then 1 else if j = 1 then 4 else if j = 2 then 2 else if j = 3 then 8 else 16
def bitB (j : Nat) : Nat := if j = 0 then 1 else if j = 1 then 1 else if j = 2 then 4 else if j = 3 then 8 else 32
def bitI (j : Nat) : Nat := if j = 0 then 0 else if j = 1 then 2 else if j = 2 then 1 else if j = 3 then 3 else 4
def bitF (j : Nat) : Nat := if j = 0 then 0 else if j = 1 then 0 else if j = 2 then 2 else if j = 3 then 3 else 5
theorem and_pow (a i : Nat) (ha : a < 9223372036854775808) (hi : i < 12) : (bits .and .i64 (a : Int) ((2 ^ i : Nat) : Int) != 0) = a.testBit i := by
  have h2 : 2 ^ i < 4096 := Nat.pow_lt_pow_right (by omega) (show i < 12 from hi)
  rw [i64_and _ _ ha (by omega)]
  have e : (a &&& 2 ^ i = 0) ↔ a.testBit i = false := by
    constructor
    · intro h
      have := congrArg (fun n => Nat.testBit n i) h
      simpa [Nat.testBit_and, Nat.testBit_two_pow_self] using this
    · intro h
      apply Nat.eq_of_testBit_eq
      intro j
      rw [Nat.testBit_and]
      by_cases hj : j = i
      · subst hj; simp [h]
      · simp [Nat.testBit_two_pow_of_ne (Ne.symm hj)]
  by_cases h : a.testBit i = true
  · have : ¬ a &&& 2 ^ i = 0 := fun hh => by rw [e.1 hh] at h; cases h
    rw [h, Bool.eq_iff_iff]
    simp only [bne_iff_ne, ne_eq, Int.natCast_eq_zero]
    simpa using this
  · have h' : a.testBit i = false := by simpa using h
    have := e.2 h'
    rw [h', this]
    rfl
/-- one row of the flags' table -/
theorem hp_yes (k fl j : Nat) (hj : j < 5) (hb : fl.testBit (bitF j) = true) : bits .or .i64 ((bsum (hpJ k fl j) : Nat) : Int) (bits .and .i64 ((bitP j : Nat) : Int) ((pN k : Nat) : Int)) = ((bsum (hpJ k fl (j + 1)) : Nat) : Int) := by
  have hp : bitP j < 4096 := by
    unfold bitP
    repeat' split
    all_goals omega
  have hk := pN_lt k
  have hl : bsum (hpJ k fl j) < 4096 := bsum_lt (hpJ k fl j)
  have ha : bitP j &&& pN k < 4096 := Nat.and_lt_two_pow (n := 12) _ hk
  rw [i64_and _ _ (by omega) (by omega), i64_or _ _ (by omega) (by omega)]
  congr 1
  have pe : pN k = bsum (partL k false) := by rw [← partN_eq, partN, show pif false 32 = 0 from rfl, Nat.or_zero]
  have key : j = 0 ∨ j = 1 ∨ j = 2 ∨ j = 3 ∨ j = 4 := by omega
  rw [pe]
  rcases key with rfl | rfl | rfl | rfl | rfl
  · rw [show bitP 0 = bsum [true, false, false, false, false, false, false, false, false, false, false, false] from rfl, bsum_and]
    simp only [hpJ, partL, List.zipWith, bor12]
    simp only [bitF, if_true] at hb
    simp [hb]
  · rw [show bitP 1 = bsum [false, false, true, false, false, false, false, false, false, false, false, false] from rfl, bsum_and]
    simp only [hpJ, partL, List.zipWith, bor12]
    simp only [bitF] at hb
    simp at hb
    simp [hb]
  · rw [show bitP 2 = bsum [false, true, false, false, false, false, false, false, false, false, false, false] from rfl, bsum_and]
    simp only [hpJ, partL, List.zipWith, bor12]
    simp only [bitF] at hb
    simp at hb
    simp [hb]
  · rw [show bitP 3 = bsum [false, false, false, true, false, false, false, false, false, false, false, false] from rfl, bsum_and]
    simp only [hpJ, partL, List.zipWith, bor12]
    simp only [bitF] at hb
    simp at hb
    simp [hb]
  · rw [show bitP 4 = bsum [false, false, false, false, true, false, false, false, false, false, false, false] from rfl, bsum_and]
    simp only [hpJ, partL, List.zipWith, bor12]
    simp only [bitF] at hb
    simp at hb
    simp [hb]
theorem hp_no (k fl j : Nat) (hj : j < 5) (hb : fl.testBit (bitF j) = false) : bsum (hpJ k fl j) = bsum (hpJ k fl (j + 1)) := by
  congr 1
  have key : j = 0 ∨ j = 1 ∨ j = 2 ∨ j = 3 ∨ j = 4 := by omega
  rcases key with rfl | rfl | rfl | rfl | rfl <;> (simp only [bitF] at hb; simp at hb; simp [hpJ, hb])
abbrev hdW (n k fl s p : Nat) : List Value := [.int .i64 (n : Int), .int .i64 (k : Int), .int .i64 (fl : Int), .int .i64 (s : Int), .int .i64 (p : Int)]
/-- the table of the flags' bits, loaded -/
def bitsA : Array Value := #[.agg #[.int .i64 1, .int .i64 1], .agg #[.int .i64 4, .int .i64 1], .agg #[.int .i64 2, .int .i64 4], .agg #[.int .i64 8, .int .i64 8], .agg #[.int .i64 16, .int .i64 32]]
end Go.Proofs.YtokbdkbljgdcpaaDoor
