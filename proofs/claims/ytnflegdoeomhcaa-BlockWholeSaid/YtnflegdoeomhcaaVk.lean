/- Stage 12: numbers that come in, by their type. -/
import Derived.Test.YtnflegdoeomhcaaVi
namespace Go.Proofs.Ytnflegdoeomhcaa
theorem i64_of {n : Int} (h : (Lit.int .i64 n).wf = true) : -9223372036854775808 ≤ n ∧ n ≤ 9223372036854775807 := by
  simpa [Lit.wf, IntKind.min, IntKind.max, IntKind.signed, IntKind.bits] using h
end Go.Proofs.Ytnflegdoeomhcaa
