/- Stage 7: a number under a mask. -/
import Derived.Test.YtjafoegpbhieoaaWiI
namespace Go.Proofs.Ytjafoegpbhieoaa
open Go.RowKit Go.Own Go.Win
set_option linter.unusedVariables false
theorem ofInt64w (n : Nat) (h : n < 18446744073709551616) : (BitVec.ofInt 64 (n : Int)).toNat = n := by
  rw [BitVec.toNat_ofInt]; omega
/-- what is left of a number under a mask -/
theorem and_bd (z : Int) (m : Nat) (hm : m < 9223372036854775808) (M : Int) (hM : M = (m : Int)) : 0 ≤ bits .and .i64 z M ∧ bits .and .i64 z M ≤ M := by
  subst hM
  have e : bits .and .i64 z (m : Int) = IntKind.i64.wrap ((BitVec.ofInt 64 z &&& BitVec.ofInt 64 (m : Int)).toNat : Int) := rfl
  have h := @Nat.and_le_right (BitVec.ofInt 64 z).toNat m
  rw [e, BitVec.toNat_and, ofInt64w m (by omega), IntKind.wrap_i64]
  omega
end Go.Proofs.Ytjafoegpbhieoaa
