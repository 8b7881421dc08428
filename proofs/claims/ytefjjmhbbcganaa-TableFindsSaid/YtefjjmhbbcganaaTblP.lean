/- The laws' own small. -/
import Derived.Test.YtefjjmhbbcganaaTblD
namespace Go.Proofs.Ytefjjmhbbcganaa
open Go.RowKit Go.Own Go.Tbl
set_option linter.unusedVariables false
/-- two thousand octets of each text at most -/
def smallF (f : Fld) : Fld := ⟨f.n.extract 0 (min f.n.size 2000), f.v.extract 0 (min f.v.size 2000), f.nv⟩
set_option maxRecDepth 100000 in
set_option maxHeartbeats 1000000 in
theorem small_any (f : Fld) (hf : fok f) (w : World) : Calls Try.prog 17 #[fv f] w fun e w' => e = .returned (fv (smallF f)) ∧ Below w.heap.size w w' := by
  obtain ⟨h1, h2⟩ := hf
  unfold fv
  obtain ⟨a, ha⟩ : ∃ a, f.n.size = a := ⟨_, rfl⟩
  obtain ⟨b, hb⟩ : ∃ b, f.v.size = b := ⟨_, rfl⟩
  rw [ha] at h1
  rw [hb] at h2
  unfold smallF
  rw [ha, hb]
  obtain ⟨x, hx⟩ : ∃ x, f.n.extract 0 (min a 2000) = x := ⟨_, rfl⟩
  obtain ⟨y, hy⟩ : ∃ y, f.v.extract 0 (min b 2000) = y := ⟨_, rfl⟩
  rw [hx, hy]
  go_enter Try.func17, Try.ntmps17
  go_wp2
  all_goals
    refine bodyPost_ret (v := .agg #[.string x, .string y, .bool f.nv]) ?_ rfl ⟨rfl, ((Below.refl _ _).alloc (Nat.le_refl _) _).alloc (by simp [go_sem]) _⟩
    simp [results, Try.results17, go_sem]
    rw [← hx, ← hy]
    constructor
    · congr 1; omega
    · congr 1; omega
theorem smallF_ok (f : Fld) : fok (smallF f) := by
  constructor
  · show (f.n.extract 0 (min f.n.size 2000)).size ≤ _
    rw [ByteArray.size_extract]
    omega
  · show (f.v.extract 0 (min f.v.size 2000)).size ≤ _
    rw [ByteArray.size_extract]
    omega
theorem smallF_sz (f : Fld) : sz (smallF f) ≤ 4032 := by
  show (f.n.extract 0 (min f.n.size 2000)).size + (f.v.extract 0 (min f.v.size 2000)).size + 32 ≤ _
  rw [ByteArray.size_extract, ByteArray.size_extract]
  omega
end Go.Proofs.Ytefjjmhbbcganaa
