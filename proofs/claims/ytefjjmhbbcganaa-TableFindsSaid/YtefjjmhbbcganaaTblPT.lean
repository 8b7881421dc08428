/- The program's table, as the laws' walks take it: the interface over the texts PTs to PTz. -/
import Derived.Test.YtefjjmhbbcganaaTblI
import Derived.Test.YtefjjmhbbcganaaPTz
namespace Go.Proofs.Ytefjjmhbbcganaa
open Go.RowKit Go.Own Go.Tbl
set_option linter.unusedVariables false

/-- the program's table at block p: F its blocks, h its Max, l its entries, the newest first -/
def PT (w : World) (p : Nat) (F : Nat → Prop) (h : Nat) (l : List Fld) : Prop := szs l ≤ h ∧ ∃ A n c, PTx w p A n c h l ∧ ∀ i, F i ↔ tblS p A i
variable {w w' : World} {p h : Nat} {F S : Nat → Prop} {l : List Fld}
theorem PT.le (t : PT w p F h l) : szs l ≤ h := t.1
theorem PT.top (t : PT w p F h l) : h ≤ 65536 := by obtain ⟨_, A, n, c, t, _⟩ := t; exact t.top
theorem PT.ok (t : PT w p F h l) : ∀ f ∈ l, fok f ∧ f.nv = false := by obtain ⟨_, A, n, c, t, _⟩ := t; exact t.ok
theorem PT.lt (t : PT w p F h l) (i : Nat) (hi : F i) : i < w.heap.size := by
  obtain ⟨_, A, n, c, t, hF⟩ := t
  rcases (hF i).1 hi with rfl | ⟨a, ha, rfl⟩
  · exact Blk.lt t.at_
  · exact t.lt a ha
theorem PT.fr (t : PT w p F h l) (hf : Fr S w w') (hs : ∀ i, F i → ¬ S i) : PT w' p F h l := by
  obtain ⟨hle, A, n, c, t, hF⟩ := t
  exact ⟨hle, A, n, c, t.fr hf (hs p ((hF p).2 (.inl rfl))) (fun a ha => hs _ ((hF _).2 (.inr ⟨a, ha, rfl⟩))), hF⟩
theorem pNew_c (m : Int) (hm : i64 m) (w : World) : Calls Try.prog 15 #[.int .i64 m] w fun e w' => ∃ p F, e = .returned (.pointer (some ⟨p, 0, none⟩)) ∧ PT w' p F (clampI m) [] ∧ (∀ i, F i → w.heap.size ≤ i) ∧ Below w.heap.size w w' := by
  refine (xNew_c m hm w).mono ?_
  rintro e w' ⟨p, rfl, hp, t, hb⟩
  refine ⟨p, tblS p none, rfl, ⟨by simp [szs], none, 0, 0, t, fun i => Iff.rfl⟩, fun i hi => ?_, hb⟩
  rcases hi with rfl | ⟨a, ha, _⟩
  · exact hp
  · cases ha
theorem pAdd_c (t : PT w p F h l) (f : Fld) (hf : fok f) : Calls Try.prog 18 #[.pointer (some ⟨p, 0, none⟩), .agg #[.string f.n, .string f.v, .bool f.nv]] w fun e w' => ∃ F', e = .returned (.tuple #[]) ∧ PT w' p F' h (addF h f l) ∧ (∀ i, F' i → F i ∨ w.heap.size ≤ i) ∧ Fr F w w' := by
  obtain ⟨hle, A, n, c, t, hF⟩ := t
  refine (xAdd_c t f hf).mono ?_
  rintro e w' ⟨A', k, c', rfl, t', hfr, hn⟩
  refine ⟨tblS p A', rfl, ⟨addF_le _ _ _, A', k, c', t', fun i => Iff.rfl⟩, fun i hi => ?_, hfr.mono (fun i _ hi => (hF i).2 hi)⟩
  rcases hi with rfl | ⟨a, ha, rfl⟩
  · exact .inl ((hF _).2 (.inl rfl))
  · exact (hn a ha).imp (fun h => (hF _).2 h) id
theorem pSetMax_c (t : PT w p F h l) (m : Int) (hm : i64 m) : Calls Try.prog 20 #[.pointer (some ⟨p, 0, none⟩), .int .i64 m] w fun e w' => ∃ F', e = .returned (.tuple #[]) ∧ PT w' p F' (clampI m) (pre (clampI m) l) ∧ (∀ i, F' i → F i ∨ w.heap.size ≤ i) ∧ Fr F w w' := by
  obtain ⟨hle, A, n, c, t, hF⟩ := t
  refine (xSetMax_c t m hm).mono ?_
  rintro e w' ⟨k, rfl, t', hfr⟩
  exact ⟨F, rfl, ⟨pre_le _ _, A, k, c, t', hF⟩, fun i hi => .inl hi, hfr.mono (fun i _ hi => (hF i).2 hi)⟩
theorem pAt_c (t : PT w p F h l) (i : Int) (hi : i64 i) : Calls Try.prog 22 #[.pointer (some ⟨p, 0, none⟩), .int .i64 i] w fun e w' => e = .returned (atV (atL (statL ++ l) i)) ∧ Below w.heap.size w w' := by
  obtain ⟨hle, A, n, c, t, hF⟩ := t
  exact xAt_c t i hi
theorem pFind_c (t : PT w p F h l) (f : Fld) (hf : fok f) : Calls Try.prog 24 #[.pointer (some ⟨p, 0, none⟩), .agg #[.string f.n, .string f.v, .bool f.nv]] w fun e w' => e = .returned (.tuple #[.int .i64 ((findF (statL ++ l) f).1 : Int), .bool (findF (statL ++ l) f).2]) ∧ Below w.heap.size w w' := by
  obtain ⟨hle, A, n, c, t, hF⟩ := t
  exact xFind_c t f
theorem pLen_c (t : PT w p F h l) : Calls Try.prog 29 #[.pointer (some ⟨p, 0, none⟩)] w fun e w' => e = .returned (.int .i64 (l.length : Int)) ∧ Below w.heap.size w w' := by
  obtain ⟨hle, A, n, c, t, hF⟩ := t
  exact (xLen_c t).mono fun e w' ⟨he, hw⟩ => ⟨he, hw ▸ Below.refl _ _⟩
theorem pTSize_c (t : PT w p F h l) : Calls Try.prog 30 #[.pointer (some ⟨p, 0, none⟩)] w fun e w' => e = .returned (.int .i64 ((szs l : Nat) : Int)) ∧ Below w.heap.size w w' := by
  obtain ⟨hle, A, n, c, t, hF⟩ := t
  exact (xTSize_c t).mono fun e w' ⟨he, hw⟩ => ⟨he, hw ▸ Below.refl _ _⟩
theorem pMax_c (t : PT w p F h l) : Calls Try.prog 31 #[.pointer (some ⟨p, 0, none⟩)] w fun e w' => e = .returned (.int .i64 (h : Int)) ∧ Below w.heap.size w w' := by
  obtain ⟨hle, A, n, c, t, hF⟩ := t
  exact (xMax_c t).mono fun e w' ⟨he, hw⟩ => ⟨he, hw ▸ Below.refl _ _⟩
theorem pClone_c (t : PT w p F h l) : Calls Try.prog 27 #[.pointer (some ⟨p, 0, none⟩)] w fun e w' => ∃ p' F', e = .returned (.pointer (some ⟨p', 0, none⟩)) ∧ PT w' p' F' h l ∧ (∀ i, F' i → w.heap.size ≤ i) ∧ Below w.heap.size w w' := by
  obtain ⟨hle, A, n, c, t, hF⟩ := t
  refine (xClone_c t).mono ?_
  rintro e w' ⟨p', A', n', c', rfl, t', hp, hA, hb⟩
  refine ⟨p', tblS p' A', rfl, ⟨hle, A', n', c', t', fun i => Iff.rfl⟩, fun i hi => ?_, hb⟩
  rcases hi with rfl | ⟨a, ha, rfl⟩
  · exact hp
  · exact hA a ha
end Go.Proofs.Ytefjjmhbbcganaa
