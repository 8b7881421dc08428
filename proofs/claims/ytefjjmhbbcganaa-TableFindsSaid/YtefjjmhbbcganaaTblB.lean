/- One table over a world: what the laws' walks keep of it (over the interface TblPT). -/
import Derived.Test.YtefjjmhbbcganaaTblPT
namespace Go.Proofs.Ytefjjmhbbcganaa
open Go.RowKit Go.Own Go.Tbl
set_option linter.unusedVariables false

/-- a table made behind the block B, nothing before B is touched -/
def PB (B : Nat) (w0 w : World) (p h : Nat) (l : List Fld) : Prop := ∃ F, PT w p F h l ∧ (∀ i, F i → B ≤ i) ∧ Below B w0 w ∧ B ≤ w.heap.size
variable {B : Nat} {w0 w w' : World} {p h : Nat} {l : List Fld}
theorem PB.below (t : PB B w0 w p h l) : Below B w0 w := t.choose_spec.2.2.1
theorem PB.size (t : PB B w0 w p h l) : B ≤ w.heap.size := t.choose_spec.2.2.2
theorem PB.next (t : PB B w0 w p h l) (hb : Below w.heap.size w w') : PB B w0 w' p h l := by
  obtain ⟨F, ht, hF, hb0, hs⟩ := t
  refine ⟨F, ht.fr (Fr.of_below (S := fun i => w.heap.size ≤ i) hb (fun _ _ h => h)) (fun i hi => by have := ht.lt i hi; omega), hF, hb0.trans (hb.mono hs), Nat.le_trans hs hb.size⟩
theorem PB.alloc (t : PB B w0 w p h l) (o : Obj) : PB B w0 (w.alloc o) p h l := t.next ((Below.refl _ _).alloc (Nat.le_refl _) _)
theorem PB.drewN (t : PB B w0 w p h l) (n : Nat) : PB B w0 (w.drewN n) p h l := t.next (below_drewN (Below.refl _ _) n)
theorem bNew (m : Int) (hm : i64 m) (hB : B ≤ w.heap.size) (hb : Below B w0 w) : Calls Try.prog 15 #[.int .i64 m] w fun e w' => ∃ p, e = .returned (.pointer (some ⟨p, 0, none⟩)) ∧ PB B w0 w' p (clampI m) [] := by
  refine (pNew_c m hm w).mono ?_
  rintro e w' ⟨p, F, rfl, ht, hF, hb1⟩
  exact ⟨p, rfl, F, ht, fun i hi => Nat.le_trans hB (hF i hi), hb.trans (hb1.mono hB), Nat.le_trans hB hb1.size⟩
theorem bMut {F F' : Nat → Prop} {l' : List Fld} {h' : Nat} (t : PT w p F h l) (hF : ∀ i, F i → B ≤ i) (hb : Below B w0 w) (hs : B ≤ w.heap.size) (ht : PT w' p F' h' l') (hF' : ∀ i, F' i → F i ∨ w.heap.size ≤ i) (hf : Fr F w w') : PB B w0 w' p h' l' :=
  ⟨F', ht, fun i hi => (hF' i hi).elim (hF i) (fun h => Nat.le_trans hs h), hb.trans (hf.below hs (fun i _ hi => hF i hi)), Nat.le_trans hs hf.size⟩
theorem bAdd (t : PB B w0 w p h l) (f : Fld) (hf : fok f) (L : List Fld) (hL : addF h f l = L) : Calls Try.prog 18 #[.pointer (some ⟨p, 0, none⟩), .agg #[.string f.n, .string f.v, .bool f.nv]] w fun e w' => e = .returned (.tuple #[]) ∧ PB B w0 w' p h L := by
  obtain ⟨F, ht, hF, hb0, hs⟩ := t
  refine (pAdd_c ht f hf).mono ?_
  rintro e w' ⟨F', rfl, ht', hF', hf'⟩
  exact ⟨rfl, hL ▸ bMut ht hF hb0 hs ht' hF' hf'⟩
theorem bSetMax (t : PB B w0 w p h l) (m : Int) (hm : i64 m) (H : Nat) (L : List Fld) (hH : clampI m = H) (hL : pre H l = L) : Calls Try.prog 20 #[.pointer (some ⟨p, 0, none⟩), .int .i64 m] w fun e w' => e = .returned (.tuple #[]) ∧ PB B w0 w' p H L := by
  obtain ⟨F, ht, hF, hb0, hs⟩ := t
  subst hH
  refine (pSetMax_c ht m hm).mono ?_
  rintro e w' ⟨F', rfl, ht', hF', hf'⟩
  exact ⟨rfl, hL ▸ bMut ht hF hb0 hs ht' hF' hf'⟩
theorem bAt (t : PB B w0 w p h l) (i : Int) (hi : i64 i) (R : Option Fld) (hR : atL (statL ++ l) i = R) : Calls Try.prog 22 #[.pointer (some ⟨p, 0, none⟩), .int .i64 i] w fun e w' => e = .returned (atV R) ∧ PB B w0 w' p h l ∧ Below w.heap.size w w' := by
  subst hR
  obtain ⟨F, ht, _⟩ := id t
  refine (pAt_c ht i hi).mono ?_
  rintro e w' ⟨rfl, hb⟩
  exact ⟨rfl, t.next hb, hb⟩
theorem bFind (t : PB B w0 w p h l) (f : Fld) (hf : fok f) (R1 : Nat) (R2 : Bool) (hR : findF (statL ++ l) f = (R1, R2)) : Calls Try.prog 24 #[.pointer (some ⟨p, 0, none⟩), .agg #[.string f.n, .string f.v, .bool f.nv]] w fun e w' => e = .returned (.tuple #[.int .i64 (R1 : Int), .bool R2]) ∧ PB B w0 w' p h l ∧ Below w.heap.size w w' := by
  obtain ⟨F, ht, _⟩ := id t
  refine (pFind_c ht f hf).mono ?_
  rintro e w' ⟨rfl, hb⟩
  rw [hR]
  exact ⟨rfl, t.next hb, hb⟩
theorem bLen (t : PB B w0 w p h l) (n : Nat) (hn : l.length = n) : Calls Try.prog 29 #[.pointer (some ⟨p, 0, none⟩)] w fun e w' => e = .returned (.int .i64 (n : Int)) ∧ PB B w0 w' p h l ∧ Below w.heap.size w w' := by
  subst hn
  obtain ⟨F, ht, _⟩ := id t
  refine (pLen_c ht).mono ?_
  rintro e w' ⟨rfl, hb⟩
  exact ⟨rfl, t.next hb, hb⟩
theorem bTSize (t : PB B w0 w p h l) (n : Nat) (hn : szs l = n) : Calls Try.prog 30 #[.pointer (some ⟨p, 0, none⟩)] w fun e w' => e = .returned (.int .i64 (n : Int)) ∧ PB B w0 w' p h l ∧ Below w.heap.size w w' := by
  subst hn
  obtain ⟨F, ht, _⟩ := id t
  refine (pTSize_c ht).mono ?_
  rintro e w' ⟨rfl, hb⟩
  exact ⟨rfl, t.next hb, hb⟩
theorem bMax (t : PB B w0 w p h l) : Calls Try.prog 31 #[.pointer (some ⟨p, 0, none⟩)] w fun e w' => e = .returned (.int .i64 (h : Int)) ∧ PB B w0 w' p h l ∧ Below w.heap.size w w' := by
  obtain ⟨F, ht, _⟩ := id t
  refine (pMax_c ht).mono ?_
  rintro e w' ⟨rfl, hb⟩
  exact ⟨rfl, t.next hb, hb⟩
end Go.Proofs.Ytefjjmhbbcganaa
