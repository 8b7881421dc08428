/- TablePlays: what the walk keeps: the program's table and the document's, and the pair that doesn't go on; whose a block is, told by a colour. -/
import Derived.Test.YtefjjmhbbcganaaTblO
namespace Go.Proofs.Ytefjjmhbbcganaa
open Go.RowKit Go.Own Go.Tbl
set_option linter.unusedVariables false

/-- the document's table, G its blocks -/
def RX (w : World) (r : Nat) (G : Nat → Prop) (h : Nat) (l : List Fld) : Prop := szs l ≤ h ∧ h ≤ 65536 ∧ ∃ A n c, RT w r A n c h l ∧ (∀ a, A = some a → a.block ≠ r ∧ a.block < w.heap.size) ∧ ∀ i, G i ↔ tblS r A i
section
variable {w w' : World} {p r h : Nat} {F G S : Nat → Prop} {l : List Fld}
theorem RX.lt (t : RX w r G h l) (i : Nat) (hi : G i) : i < w.heap.size := by
  obtain ⟨_, _, A, n, c, t, hA, hG⟩ := t
  rcases (hG i).1 hi with rfl | ⟨a, ha, rfl⟩
  · exact Blk.lt t.at_
  · exact (hA a ha).2
theorem RX.fr (t : RX w r G h l) (hf : Fr S w w') (hs : ∀ i, G i → ¬ S i) : RX w' r G h l := by
  obtain ⟨h1, h2, A, n, c, t, hA, hG⟩ := t
  exact ⟨h1, h2, A, n, c, t.fr hf (hs r ((hG r).2 (.inl rfl))) (fun a ha => hs _ ((hG _).2 (.inr ⟨a, ha, rfl⟩))), fun a ha => ⟨(hA a ha).1, Nat.lt_of_lt_of_le (hA a ha).2 hf.size⟩, hG⟩
theorem xrNew (x : Int) (w : World) : Calls Try.prog 16 #[.int .i64 x] w fun e w' => ∃ r G, e = .returned (.pointer (some ⟨r, 0, none⟩)) ∧ RX w' r G (clampI x) [] ∧ (∀ i, G i → w.heap.size ≤ i) ∧ Below w.heap.size w w' := by
  refine (rNew_any w x _ rfl).mono ?_
  rintro e w' ⟨rfl, t, hb⟩
  refine ⟨_, tblS w.heap.size none, rfl, ⟨by simp [szs], clampI_le x, none, 0, 0, t, by simp, fun i => Iff.rfl⟩, fun i hi => ?_, hb⟩
  rcases hi with rfl | ⟨a, ha, _⟩
  · exact Nat.le_refl _
  · cases ha
theorem xrAdd (t : RX w r G h l) (f : Fld) (hf : fok f) : Calls Try.prog 19 #[.pointer (some ⟨r, 0, none⟩), .agg #[.string f.n, .string f.v, .bool f.nv]] w fun e w' => ∃ G', e = .returned (.tuple #[]) ∧ RX w' r G' h (addF h f l) ∧ (∀ i, G' i → G i ∨ w.heap.size ≤ i) ∧ Fr G w w' := by
  obtain ⟨h1, h2, A, n, c, t, hA, hG⟩ := t
  refine (rAdd2 t (fun a ha => (hA a ha).1) (by omega) h2 f hf _ rfl).mono ?_
  rintro e w' ⟨A', k, c', rfl, t', hn, hfr⟩
  refine ⟨tblS r A', rfl, ⟨addF_le _ _ _, h2, A', k, c', t', fun a ha => ⟨(hn a ha).1, ?_⟩, fun i => Iff.rfl⟩, fun i hi => ?_, hfr.mono (fun i _ hi => (hG i).2 (.inl hi))⟩
  · rcases (hn a ha).2 with ho | ⟨_, ho⟩
    · exact Nat.lt_of_lt_of_le (hA a ho).2 hfr.size
    · exact ho
  · rcases hi with rfl | ⟨a, ha, rfl⟩
    · exact .inl ((hG _).2 (.inl rfl))
    · rcases (hn a ha).2 with ho | ⟨ho, _⟩
      · exact .inl ((hG _).2 (.inr ⟨a, ho, rfl⟩))
      · exact .inr ho
theorem xrSetMax (t : RX w r G h l) (x : Int) : Calls Try.prog 21 #[.pointer (some ⟨r, 0, none⟩), .int .i64 x] w fun e w' => ∃ G', e = .returned (.tuple #[]) ∧ RX w' r G' (clampI x) (pre (clampI x) l) ∧ (∀ i, G' i → G i ∨ w.heap.size ≤ i) ∧ Fr G w w' := by
  obtain ⟨h1, h2, A, n, c, t, hA, hG⟩ := t
  refine (rSetMax_any t (fun a ha => (hA a ha).1) (by omega) x _ rfl).mono ?_
  rintro e w' ⟨k, rfl, t', hfr⟩
  exact ⟨G, rfl, ⟨pre_le _ _, clampI_le x, A, k, c, t', fun a ha => ⟨(hA a ha).1, Nat.lt_of_lt_of_le (hA a ha).2 hfr.size⟩, hG⟩, fun i hi => .inl hi, hfr.mono (fun i _ hi => (hG i).2 (.inl hi))⟩
theorem xrAt (t : RX w r G h l) (i : Int) (hi : i64 i) : Calls Try.prog 23 #[.pointer (some ⟨r, 0, none⟩), .int .i64 i] w fun e w' => e = .returned (atV (atL (statL ++ l) i)) ∧ Below w.heap.size w w' := by
  obtain ⟨h1, h2, A, n, c, t, hA, hG⟩ := t
  exact rAt_any t (by omega) i hi _ rfl
theorem xrFind (t : RX w r G h l) (f : Fld) : Calls Try.prog 25 #[.pointer (some ⟨r, 0, none⟩), .agg #[.string f.n, .string f.v, .bool f.nv]] w fun e w' => e = .returned (.tuple #[.int .i64 ((findF (statL ++ l) f).1 : Int), .bool (findF (statL ++ l) f).2]) ∧ Below w.heap.size w w' := by
  obtain ⟨h1, h2, A, n, c, t, hA, hG⟩ := t
  exact rFind_any t (by omega) f _ _ rfl
theorem xrClone (t : RX w r G h l) : Calls Try.prog 26 #[.pointer (some ⟨r, 0, none⟩)] w fun e w' => ∃ r' G', e = .returned (.pointer (some ⟨r', 0, none⟩)) ∧ RX w' r' G' h l ∧ (∀ i, G' i → w.heap.size ≤ i) ∧ Below w.heap.size w w' := by
  obtain ⟨h1, h2, A, n, c, t, hA, hG⟩ := t
  refine (rClone2 t (by omega)).mono ?_
  rintro e w' ⟨r', A', c', rfl, t', hA', hr', hb⟩
  refine ⟨r', tblS r' A', rfl, ⟨h1, h2, A', n, c', t', fun a ha => ⟨(hA' a ha).1, (hA' a ha).2.2⟩, fun i => Iff.rfl⟩, fun i hi => ?_, hb⟩
  rcases hi with rfl | ⟨a, ha, rfl⟩
  · exact hr'
  · exact (hA' a ha).2.1
theorem xSame (t : PT w p F h l) (u : RX w r G h l) : Calls Try.prog 28 #[.pointer (some ⟨p, 0, none⟩), .pointer (some ⟨r, 0, none⟩)] w fun e w' => e = .returned (.bool true) ∧ Below w.heap.size w w' := by
  obtain ⟨h1, h2, A, n, c, u, hA, hG⟩ := u
  exact same_any ⟨⟨F, t⟩, u⟩
end
/-! whose a block is: own -/
/-- new blocks are k's -/
def upd (own : Nat → Nat) (w : World) (k : Nat) (i : Nat) : Nat := if i < w.heap.size then own i else k
def Tb (B : Nat) (own : Nat → Nat) (k : Nat) (w : World) (p h : Nat) (l : List Fld) : Prop := ∃ F, PT w p F h l ∧ ∀ i, F i → B ≤ i ∧ own i = k
def Rb (B : Nat) (own : Nat → Nat) (k : Nat) (w : World) (r h : Nat) (l : List Fld) : Prop := ∃ G, RX w r G h l ∧ ∀ i, G i → B ≤ i ∧ own i = k
section
variable {B : Nat} {own : Nat → Nat} {j k : Nat} {w w' : World} {p r h h' : Nat} {F F' : Nat → Prop} {l l' : List Fld}
theorem Tb.keep (t : Tb B own j w p h l) (hf : Fr F w w') (hF : ∀ i, F i → own i = k) (hne : j ≠ k) : Tb B (upd own w k) j w' p h l := by
  obtain ⟨F1, ht, h1⟩ := t
  refine ⟨F1, ht.fr hf (fun i hi e => hne ((h1 i hi).2.symm.trans (hF i e))), fun i hi => ⟨(h1 i hi).1, ?_⟩⟩
  unfold upd
  rw [if_pos (ht.lt i hi)]
  exact (h1 i hi).2
theorem Rb.keep (t : Rb B own j w r h l) (hf : Fr F w w') (hF : ∀ i, F i → own i = k) (hne : j ≠ k) : Rb B (upd own w k) j w' r h l := by
  obtain ⟨F1, ht, h1⟩ := t
  refine ⟨F1, ht.fr hf (fun i hi e => hne ((h1 i hi).2.symm.trans (hF i e))), fun i hi => ⟨(h1 i hi).1, ?_⟩⟩
  unfold upd
  rw [if_pos (ht.lt i hi)]
  exact (h1 i hi).2
theorem Tb.mut (ht : PT w' p F' h' l') (hF' : ∀ i, F' i → F i ∨ w.heap.size ≤ i) (hF : ∀ i, F i → B ≤ i ∧ own i = k) (hlt : ∀ i, F i → i < w.heap.size) (hs : B ≤ w.heap.size) : Tb B (upd own w k) k w' p h' l' := by
  refine ⟨F', ht, fun i hi => ?_⟩
  unfold upd
  rcases hF' i hi with h1 | h1
  · rw [if_pos (hlt i h1)]; exact hF i h1
  · rw [if_neg (by omega)]; exact ⟨by omega, rfl⟩
theorem Rb.mut (ht : RX w' r F' h' l') (hF' : ∀ i, F' i → F i ∨ w.heap.size ≤ i) (hF : ∀ i, F i → B ≤ i ∧ own i = k) (hlt : ∀ i, F i → i < w.heap.size) (hs : B ≤ w.heap.size) : Rb B (upd own w k) k w' r h' l' := by
  refine ⟨F', ht, fun i hi => ?_⟩
  unfold upd
  rcases hF' i hi with h1 | h1
  · rw [if_pos (hlt i h1)]; exact hF i h1
  · rw [if_neg (by omega)]; exact ⟨by omega, rfl⟩
theorem Tb.next (t : Tb B own j w p h l) (hb : Below w.heap.size w w') : Tb B own j w' p h l := by
  obtain ⟨F1, ht, h1⟩ := t
  exact ⟨F1, ht.fr (Fr.of_below (S := fun i => w.heap.size ≤ i) hb (fun _ _ h => h)) (fun i hi => by have := ht.lt i hi; omega), h1⟩
theorem Rb.next (t : Rb B own j w r h l) (hb : Below w.heap.size w w') : Rb B own j w' r h l := by
  obtain ⟨F1, ht, h1⟩ := t
  exact ⟨F1, ht.fr (Fr.of_below (S := fun i => w.heap.size ≤ i) hb (fun _ _ h => h)) (fun i hi => by have := ht.lt i hi; omega), h1⟩
end
/-- the pair that doesn't go on, or none -/
def Old (B : Nat) (own : Nat → Nat) (kT kR : Nat) (w : World) (vo vw : Value) : Prop := (vo = .pointer none ∧ vw = .pointer none) ∨
  ∃ p2 r2 h2 L2 kO kW, vo = .pointer (some ⟨p2, 0, none⟩) ∧ vw = .pointer (some ⟨r2, 0, none⟩) ∧ Tb B own kO w p2 h2 L2 ∧ Rb B own kW w r2 h2 L2 ∧ kO ≠ kW ∧ kO ≠ kT ∧ kO ≠ kR ∧ kW ≠ kT ∧ kW ≠ kR
/-- all that the walk keeps -/
structure St (B : Nat) (w0 w : World) (p r hT : Nat) (LT : List Fld) (hR : Nat) (LR : List Fld) (vo vw : Value) : Prop where
  all : ∃ own kT kR, kT ≠ kR ∧ Tb B own kT w p hT LT ∧ Rb B own kR w r hR LR ∧ Old B own kT kR w vo vw
  below : Below B w0 w
  size : B ≤ w.heap.size
section
variable {B : Nat} {own : Nat → Nat} {kT kR k : Nat} {w0 w w' : World} {p r hT hR : Nat} {F : Nat → Prop} {LT LR : List Fld} {vo vw : Value}
theorem Old.keep (o : Old B own kT kR w vo vw) (hf : Fr F w w') (hF : ∀ i, F i → own i = k) (hk : k = kT ∨ k = kR) : Old B (upd own w k) kT kR w' vo vw := by
  rcases o with o | ⟨p2, r2, h2, L2, kO, kW, e1, e2, t, u, n1, n2, n3, n4, n5⟩
  · exact .inl o
  · exact .inr ⟨p2, r2, h2, L2, kO, kW, e1, e2, t.keep hf hF (by omega), u.keep hf hF (by omega), n1, n2, n3, n4, n5⟩
theorem Old.next (o : Old B own kT kR w vo vw) (hb : Below w.heap.size w w') : Old B own kT kR w' vo vw := by
  rcases o with o | ⟨p2, r2, h2, L2, kO, kW, e1, e2, t, u, n1, n2, n3, n4, n5⟩
  · exact .inl o
  · exact .inr ⟨p2, r2, h2, L2, kO, kW, e1, e2, t.next hb, u.next hb, n1, n2, n3, n4, n5⟩
theorem St.next (s : St B w0 w p r hT LT hR LR vo vw) (hb : Below w.heap.size w w') : St B w0 w' p r hT LT hR LR vo vw := by
  obtain ⟨own, kT, kR, hne, t, u, o⟩ := s.all
  exact ⟨⟨own, kT, kR, hne, t.next hb, u.next hb, o.next hb⟩, s.below.trans (hb.mono s.size), Nat.le_trans s.size hb.size⟩
theorem St.alloc (s : St B w0 w p r hT LT hR LR vo vw) (o : Obj) : St B w0 (w.alloc o) p r hT LT hR LR vo vw := s.next ((Below.refl _ _).alloc (Nat.le_refl _) _)
theorem stAddT (s : St B w0 w p r hT LT hR LR vo vw) (f : Fld) (hf : fok f) : Calls Try.prog 18 #[.pointer (some ⟨p, 0, none⟩), .agg #[.string f.n, .string f.v, .bool f.nv]] w fun e w' => e = .returned (.tuple #[]) ∧ St B w0 w' p r hT (addF hT f LT) hR LR vo vw := by
  obtain ⟨own, kT, kR, hne, ⟨F, t, hF⟩, u, o⟩ := s.all
  refine (pAdd_c t f hf).mono ?_
  rintro e w' ⟨F', rfl, t', hF', hfr⟩
  exact ⟨rfl, ⟨_, kT, kR, hne, Tb.mut t' hF' hF t.lt s.size, u.keep hfr (fun i hi => (hF i hi).2) (by omega), o.keep hfr (fun i hi => (hF i hi).2) (.inl rfl)⟩, s.below.trans (hfr.below s.size (fun i _ hi => (hF i hi).1)), Nat.le_trans s.size hfr.size⟩
theorem stAddR (s : St B w0 w p r hT LT hR LR vo vw) (f : Fld) (hf : fok f) : Calls Try.prog 19 #[.pointer (some ⟨r, 0, none⟩), .agg #[.string f.n, .string f.v, .bool f.nv]] w fun e w' => e = .returned (.tuple #[]) ∧ St B w0 w' p r hT LT hR (addF hR f LR) vo vw := by
  obtain ⟨own, kT, kR, hne, t, ⟨F, u, hF⟩, o⟩ := s.all
  refine (xrAdd u f hf).mono ?_
  rintro e w' ⟨F', rfl, t', hF', hfr⟩
  exact ⟨rfl, ⟨_, kT, kR, hne, t.keep hfr (fun i hi => (hF i hi).2) hne, Rb.mut t' hF' hF u.lt s.size, o.keep hfr (fun i hi => (hF i hi).2) (.inr rfl)⟩, s.below.trans (hfr.below s.size (fun i _ hi => (hF i hi).1)), Nat.le_trans s.size hfr.size⟩
theorem stSetT (s : St B w0 w p r hT LT hR LR vo vw) (x : Int) (hx : i64 x) : Calls Try.prog 20 #[.pointer (some ⟨p, 0, none⟩), .int .i64 x] w fun e w' => e = .returned (.tuple #[]) ∧ St B w0 w' p r (clampI x) (pre (clampI x) LT) hR LR vo vw := by
  obtain ⟨own, kT, kR, hne, ⟨F, t, hF⟩, u, o⟩ := s.all
  refine (pSetMax_c t x hx).mono ?_
  rintro e w' ⟨F', rfl, t', hF', hfr⟩
  exact ⟨rfl, ⟨_, kT, kR, hne, Tb.mut t' hF' hF t.lt s.size, u.keep hfr (fun i hi => (hF i hi).2) (by omega), o.keep hfr (fun i hi => (hF i hi).2) (.inl rfl)⟩, s.below.trans (hfr.below s.size (fun i _ hi => (hF i hi).1)), Nat.le_trans s.size hfr.size⟩
theorem stSetR (s : St B w0 w p r hT LT hR LR vo vw) (x : Int) : Calls Try.prog 21 #[.pointer (some ⟨r, 0, none⟩), .int .i64 x] w fun e w' => e = .returned (.tuple #[]) ∧ St B w0 w' p r hT LT (clampI x) (pre (clampI x) LR) vo vw := by
  obtain ⟨own, kT, kR, hne, t, ⟨F, u, hF⟩, o⟩ := s.all
  refine (xrSetMax u x).mono ?_
  rintro e w' ⟨F', rfl, t', hF', hfr⟩
  exact ⟨rfl, ⟨_, kT, kR, hne, t.keep hfr (fun i hi => (hF i hi).2) hne, Rb.mut t' hF' hF u.lt s.size, o.keep hfr (fun i hi => (hF i hi).2) (.inr rfl)⟩, s.below.trans (hfr.below s.size (fun i _ hi => (hF i hi).1)), Nat.le_trans s.size hfr.size⟩
theorem stAtT (s : St B w0 w p r hT LT hR LR vo vw) (i : Int) (hi : i64 i) (R : Value) (hRv : atV (atL (statL ++ LT) i) = R) : Calls Try.prog 22 #[.pointer (some ⟨p, 0, none⟩), .int .i64 i] w fun e w' => e = .returned R ∧ St B w0 w' p r hT LT hR LR vo vw ∧ Below w.heap.size w w' := by
  subst hRv
  obtain ⟨own, kT, kR, hne, ⟨F, t, hF⟩, u, o⟩ := s.all
  exact (pAt_c t i hi).mono fun e w' ⟨he, hb⟩ => ⟨he, s.next hb, hb⟩
theorem stAtR (s : St B w0 w p r hT LT hR LR vo vw) (i : Int) (hi : i64 i) (R : Value) (hRv : atV (atL (statL ++ LR) i) = R) : Calls Try.prog 23 #[.pointer (some ⟨r, 0, none⟩), .int .i64 i] w fun e w' => e = .returned R ∧ St B w0 w' p r hT LT hR LR vo vw ∧ Below w.heap.size w w' := by
  subst hRv
  obtain ⟨own, kT, kR, hne, t, ⟨F, u, hF⟩, o⟩ := s.all
  exact (xrAt u i hi).mono fun e w' ⟨he, hb⟩ => ⟨he, s.next hb, hb⟩
theorem stFindT (s : St B w0 w p r hT LT hR LR vo vw) (f : Fld) (hf : fok f) (R1 : Nat) (R2 : Bool) (hRv : findF (statL ++ LT) f = (R1, R2)) : Calls Try.prog 24 #[.pointer (some ⟨p, 0, none⟩), .agg #[.string f.n, .string f.v, .bool f.nv]] w fun e w' => e = .returned (.tuple #[.int .i64 (R1 : Int), .bool R2]) ∧ St B w0 w' p r hT LT hR LR vo vw ∧ Below w.heap.size w w' := by
  obtain ⟨own, kT, kR, hne, ⟨F, t, hF⟩, u, o⟩ := s.all
  refine (pFind_c t f hf).mono fun e w' ⟨he, hb⟩ => ⟨?_, s.next hb, hb⟩
  rw [he, hRv]
theorem stFindR (s : St B w0 w p r hT LT hR LR vo vw) (f : Fld) (R1 : Nat) (R2 : Bool) (hRv : findF (statL ++ LR) f = (R1, R2)) : Calls Try.prog 25 #[.pointer (some ⟨r, 0, none⟩), .agg #[.string f.n, .string f.v, .bool f.nv]] w fun e w' => e = .returned (.tuple #[.int .i64 (R1 : Int), .bool R2]) ∧ St B w0 w' p r hT LT hR LR vo vw ∧ Below w.heap.size w w' := by
  obtain ⟨own, kT, kR, hne, t, ⟨F, u, hF⟩, o⟩ := s.all
  refine (xrFind u f).mono fun e w' ⟨he, hb⟩ => ⟨?_, s.next hb, hb⟩
  rw [he, hRv]
theorem stSame (s : St B w0 w p r hT LT hT LT vo vw) : Calls Try.prog 28 #[.pointer (some ⟨p, 0, none⟩), .pointer (some ⟨r, 0, none⟩)] w fun e w' => e = .returned (.bool true) ∧ St B w0 w' p r hT LT hT LT vo vw ∧ Below w.heap.size w w' := by
  obtain ⟨own, kT, kR, hne, ⟨F, t, hF⟩, ⟨G, u, hG⟩, o⟩ := s.all
  exact (xSame t u).mono fun e w' ⟨he, hb⟩ => ⟨he, s.next hb, hb⟩
theorem stSameOld {p2 r2 : Nat} (s : St B w0 w p r hT LT hR LR (.pointer (some ⟨p2, 0, none⟩)) (.pointer (some ⟨r2, 0, none⟩))) : Calls Try.prog 28 #[.pointer (some ⟨p2, 0, none⟩), .pointer (some ⟨r2, 0, none⟩)] w fun e w' => e = .returned (.bool true) ∧ St B w0 w' p r hT LT hR LR (.pointer (some ⟨p2, 0, none⟩)) (.pointer (some ⟨r2, 0, none⟩)) ∧ Below w.heap.size w w' := by
  obtain ⟨own, kT, kR, hne, t, u, o⟩ := s.all
  rcases o with ⟨e1, _⟩ | ⟨p3, r3, h2, L2, kO, kW, e1, e2, ⟨F, t2, hF⟩, ⟨G, u2, hG⟩, _⟩
  · cases e1
  · cases e1
    cases e2
    exact (xSame t2 u2).mono fun e w' ⟨he, hb⟩ => ⟨he, s.next hb, hb⟩
theorem fresh_ne (a b : Nat) : a + b + 1 ≠ a ∧ a + b + 1 ≠ b := by omega
/-- 'was' first, then the table that goes on: a clone goes on -/
theorem St.clones5 {p' r' : Nat} {w1 w2 : World} {F' G' : Nat → Prop} (s : St B w0 w p r hT LT hT LT vo vw) (u1 : RX w1 r' G' hT LT) (hG : ∀ i, G' i → w.heap.size ≤ i) (hb1 : Below w.heap.size w w1) (t2 : PT w2 p' F' hT LT) (hF : ∀ i, F' i → w1.heap.size ≤ i) (hb2 : Below w1.heap.size w1 w2) :
    St B w0 w2 p' r hT LT hT LT (.pointer (some ⟨p, 0, none⟩)) (.pointer (some ⟨r', 0, none⟩)) := by
  obtain ⟨own, kT, kR, hne, t, u, _⟩ := s.all
  have hz1 := hb1.size
  have f1 := Fr.of_below (S := fun _ => False) (hb1) (fun i hi h => by omega)
  have f2 := Fr.of_below (S := fun _ => False) (hb2) (fun i hi h => by omega)
  have t1 := t.keep (k := kT + kR + 1) f1 (fun i h => h.elim) (by omega)
  have v1 := u.keep (k := kT + kR + 1) f1 (fun i h => h.elim) (by omega)
  have r1 : Rb B (upd own w (kT + kR + 1)) (kT + kR + 1) w1 r' hT LT := Rb.mut (F := fun _ => False) u1 (fun i hi => .inr (hG i hi)) (fun i h => h.elim) (fun i h => h.elim) s.size
  have s1 : B ≤ w1.heap.size := Nat.le_trans s.size hz1
  have t3 := t1.keep (k := kT + kR + 2) f2 (fun i h => h.elim) (by omega)
  have v3 := v1.keep (k := kT + kR + 2) f2 (fun i h => h.elim) (by omega)
  have r3 := r1.keep (k := kT + kR + 2) f2 (fun i h => h.elim) (by omega)
  have n3 : Tb B (upd (upd own w (kT + kR + 1)) w1 (kT + kR + 2)) (kT + kR + 2) w2 p' hT LT := Tb.mut (F := fun _ => False) t2 (fun i hi => .inr (hF i hi)) (fun i h => h.elim) (fun i h => h.elim) s1
  exact ⟨⟨_, kT + kR + 2, kR, by omega, n3, v3, .inr ⟨p, r', hT, LT, kT, kT + kR + 1, rfl, rfl, t3, r3, by omega, by omega, by omega, by omega, by omega⟩⟩, s.below.trans ((hb1.mono s.size).trans (hb2.mono s1)), Nat.le_trans s1 hb2.size⟩
/-- 'old' first, then 'was': the first ones go on -/
theorem St.clones6 {p' r' : Nat} {w1 w2 : World} {F' G' : Nat → Prop} (s : St B w0 w p r hT LT hT LT vo vw) (t1' : PT w1 p' F' hT LT) (hF : ∀ i, F' i → w.heap.size ≤ i) (hb1 : Below w.heap.size w w1) (u2 : RX w2 r' G' hT LT) (hG : ∀ i, G' i → w1.heap.size ≤ i) (hb2 : Below w1.heap.size w1 w2) :
    St B w0 w2 p r hT LT hT LT (.pointer (some ⟨p', 0, none⟩)) (.pointer (some ⟨r', 0, none⟩)) := by
  obtain ⟨own, kT, kR, hne, t, u, _⟩ := s.all
  have hz1 := hb1.size
  have f1 := Fr.of_below (S := fun _ => False) (hb1) (fun i hi h => by omega)
  have f2 := Fr.of_below (S := fun _ => False) (hb2) (fun i hi h => by omega)
  have t1 := t.keep (k := kT + kR + 1) f1 (fun i h => h.elim) (by omega)
  have v1 := u.keep (k := kT + kR + 1) f1 (fun i h => h.elim) (by omega)
  have r1 : Tb B (upd own w (kT + kR + 1)) (kT + kR + 1) w1 p' hT LT := Tb.mut (F := fun _ => False) t1' (fun i hi => .inr (hF i hi)) (fun i h => h.elim) (fun i h => h.elim) s.size
  have s1 : B ≤ w1.heap.size := Nat.le_trans s.size hz1
  have t3 := t1.keep (k := kT + kR + 2) f2 (fun i h => h.elim) (by omega)
  have v3 := v1.keep (k := kT + kR + 2) f2 (fun i h => h.elim) (by omega)
  have r3 := r1.keep (k := kT + kR + 2) f2 (fun i h => h.elim) (by omega)
  have n3 : Rb B (upd (upd own w (kT + kR + 1)) w1 (kT + kR + 2)) (kT + kR + 2) w2 r' hT LT := Rb.mut (F := fun _ => False) u2 (fun i hi => .inr (hG i hi)) (fun i h => h.elim) (fun i h => h.elim) s1
  exact ⟨⟨_, kT, kR, hne, t3, v3, .inr ⟨p', r', hT, LT, kT + kR + 1, kT + kR + 2, rfl, rfl, r3, n3, by omega, by omega, by omega, by omega, by omega⟩⟩, s.below.trans ((hb1.mono s.size).trans (hb2.mono s1)), Nat.le_trans s1 hb2.size⟩
theorem stCloneT (s : St B w0 w p r hT LT hR LR vo vw) : Calls Try.prog 27 #[.pointer (some ⟨p, 0, none⟩)] w fun e w' => ∃ p' F', e = .returned (.pointer (some ⟨p', 0, none⟩)) ∧ PT w' p' F' hT LT ∧ (∀ i, F' i → w.heap.size ≤ i) ∧ Below w.heap.size w w' := by
  obtain ⟨own, kT, kR, hne, ⟨F, t, hF⟩, u, o⟩ := s.all
  exact pClone_c t
theorem stCloneR (s : St B w0 w p r hT LT hR LR vo vw) : Calls Try.prog 26 #[.pointer (some ⟨r, 0, none⟩)] w fun e w' => ∃ r' G', e = .returned (.pointer (some ⟨r', 0, none⟩)) ∧ RX w' r' G' hR LR ∧ (∀ i, G' i → w.heap.size ≤ i) ∧ Below w.heap.size w w' := by
  obtain ⟨own, kT, kR, hne, t, ⟨F, u, hF⟩, o⟩ := s.all
  exact xrClone u
theorem St.start {w1 w2 : World} {F' G' : Nat → Prop} (t : PT w1 p F' hT []) (hF : ∀ i, F' i → w.heap.size ≤ i) (hb1 : Below w.heap.size w w1) (u : RX w2 r G' hT []) (hG : ∀ i, G' i → w1.heap.size ≤ i) (hb2 : Below w1.heap.size w1 w2) : St w.heap.size w w2 p r hT [] hT [] (.pointer none) (.pointer none) := by
  have hz1 := hb1.size
  have f2 := Fr.of_below (S := fun _ => False) (hb2) (fun i hi h => by omega)
  have t1 : Tb w.heap.size (fun _ => 1) 1 w1 p hT [] := ⟨F', t, fun i hi => ⟨hF i hi, rfl⟩⟩
  have t2 := t1.keep (k := 2) f2 (fun i h => h.elim) (by omega)
  have u2 : Rb w.heap.size (upd (fun _ => 1) w1 2) 2 w2 r hT [] := Rb.mut (F := fun _ => False) u (fun i hi => .inr (hG i hi)) (fun i h => h.elim) (fun i h => h.elim) hz1
  exact ⟨⟨_, 1, 2, by omega, t2, u2, .inl ⟨rfl, rfl⟩⟩, hb1.trans (hb2.mono hz1), Nat.le_trans hz1 hb2.size⟩
end
end Go.Proofs.Ytefjjmhbbcganaa
