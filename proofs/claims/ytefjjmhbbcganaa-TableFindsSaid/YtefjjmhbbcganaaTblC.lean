/- A table beside a slice of fields that the law makes: what the laws' walks keep of both; quiet readings; adds. -/
import Derived.Test.YtefjjmhbbcganaaTblW
namespace Go.Proofs.Ytefjjmhbbcganaa
open Go.RowKit Go.Own Go.Tbl
set_option linter.unusedVariables false

theorem pLen_q {w : World} {p h : Nat} {F : Nat → Prop} {l : List Fld} (t : PT w p F h l) (n : Nat) (hn : l.length = n) : Calls Try.prog 29 #[.pointer (some ⟨p, 0, none⟩)] w fun e w' => e = .returned (.int .i64 (n : Int)) ∧ w = w' := by
  subst hn
  obtain ⟨hle, A, n, c, t, hF⟩ := t
  exact (xLen_c t).mono fun e w' ⟨he, hw⟩ => ⟨he, hw.symm⟩
theorem pTSize_q {w : World} {p h : Nat} {F : Nat → Prop} {l : List Fld} (t : PT w p F h l) (s : Nat) (hs : szs l = s) : Calls Try.prog 30 #[.pointer (some ⟨p, 0, none⟩)] w fun e w' => e = .returned (.int .i64 (s : Int)) ∧ w = w' := by
  subst hs
  obtain ⟨hle, A, n, c, t, hF⟩ := t
  exact (xTSize_c t).mono fun e w' ⟨he, hw⟩ => ⟨he, hw.symm⟩
theorem pMax_q {w : World} {p h : Nat} {F : Nat → Prop} {l : List Fld} (t : PT w p F h l) : Calls Try.prog 31 #[.pointer (some ⟨p, 0, none⟩)] w fun e w' => e = .returned (.int .i64 (h : Int)) ∧ w = w' := by
  obtain ⟨hle, A, n, c, t, hF⟩ := t
  exact (xMax_c t).mono fun e w' ⟨he, hw⟩ => ⟨he, hw.symm⟩

/-- a table and a slice of fields v, both made behind the block B, apart -/
structure TA (B : Nat) (w0 w : World) (p h : Nat) (l : List Fld) (v : Value) (al : List Fld) : Prop where
  tab : ∃ F, PT w p F h l ∧ ∀ i, F i → B ≤ i ∧ some i ≠ v.ownBlock
  own : w.ownsRow B 23 3 v al.length (fcellsL al)
  below : Below B w0 w
  size : B ≤ w.heap.size
section
variable {B : Nat} {w0 w w' : World} {p h : Nat} {l al : List Fld} {v : Value}
theorem own_below {e : TypeId} {s n : Nat} {xs : List Value} (ho : w.ownsRow B e s v n xs) (hb : Below w.heap.size w w') : w'.ownsRow B e s v n xs :=
  own_fr ho (Fr.of_below (S := fun i => w.heap.size ≤ i) hb (fun _ _ h => h)) (fun g hg hge => by have := (ho.lt g hg).2; omega)
theorem TA.next (t : TA B w0 w p h l v al) (hb : Below w.heap.size w w') : TA B w0 w' p h l v al := by
  obtain ⟨F, ht, hF⟩ := t.tab
  exact ⟨⟨F, ht.fr (Fr.of_below (S := fun i => w.heap.size ≤ i) hb (fun _ _ h => h)) (fun i hi => by have := ht.lt i hi; omega), hF⟩, own_below t.own hb, t.below.trans (hb.mono t.size), Nat.le_trans t.size hb.size⟩
theorem TA.alloc (t : TA B w0 w p h l v al) (o : Obj) : TA B w0 (w.alloc o) p h l v al := t.next ((Below.refl _ _).alloc (Nat.le_refl _) _)
theorem TA.drewN (t : TA B w0 w p h l v al) (n : Nat) : TA B w0 (w.drewN n) p h l v al := t.next (below_drewN (Below.refl _ _) n)
theorem TA.le (t : TA B w0 w p h l v al) : szs l ≤ h := by obtain ⟨F, ht, _⟩ := t.tab; exact ht.le
theorem TA.top (t : TA B w0 w p h l v al) : h ≤ 65536 := by obtain ⟨F, ht, _⟩ := t.tab; exact ht.top
theorem TA.ok (t : TA B w0 w p h l v al) : ∀ f ∈ l, fok f ∧ f.nv = false := by obtain ⟨F, ht, _⟩ := t.tab; exact ht.ok
theorem TA.of (t : PB B w0 w p h l) : TA B w0 w p h l (.slice none 0 0) [] := by
  obtain ⟨F, ht, hF, hb, hs⟩ := t
  exact ⟨⟨F, ht, fun i hi => ⟨hF i hi, by simp [Value.ownBlock]⟩⟩, World.ownsRow_nil _ _ _ _, hb, hs⟩
theorem TA.mut (t : TA B w0 w p h l v al) {F F' : Nat → Prop} {h' : Nat} {l' : List Fld} (ht : PT w p F h l) (hF : ∀ i, F i → B ≤ i ∧ some i ≠ v.ownBlock) (ht' : PT w' p F' h' l') (hF' : ∀ i, F' i → F i ∨ w.heap.size ≤ i) (hf : Fr F w w') : TA B w0 w' p h' l' v al := by
  refine ⟨⟨F', ht', fun i hi => ?_⟩, own_fr t.own hf (fun g hg hgF => (hF g hgF).2 hg.symm), t.below.trans (hf.below t.size (fun i _ hi => (hF i hi).1)), Nat.le_trans t.size hf.size⟩
  rcases hF' i hi with h1 | h1
  · exact hF i h1
  · refine ⟨Nat.le_trans t.size h1, fun e => ?_⟩
    have := (t.own.lt i e.symm).2
    omega
/-- what was made or set aside is as it was -/
theorem TA.kept (t : TA B w0 w p h l v al) {F : Nat → Prop} (hF : ∀ i, F i → B ≤ i ∧ some i ≠ v.ownBlock) (hf : Fr F w w') : Fr (fun i => B ≤ i) w w' := hf.mono (fun i _ hi => (hF i hi).1)
theorem tAdd (t : TA B w0 w p h l v al) (f : Fld) (hf : fok f) (L : List Fld) (hL : addF h f l = L) : Calls Try.prog 18 #[.pointer (some ⟨p, 0, none⟩), .agg #[.string f.n, .string f.v, .bool f.nv]] w fun e w' => e = .returned (.tuple #[]) ∧ TA B w0 w' p h L v al := by
  subst hL
  obtain ⟨F, ht, hF⟩ := t.tab
  refine (pAdd_c ht f hf).mono ?_
  rintro e w' ⟨F', rfl, ht', hF', hf'⟩
  exact ⟨rfl, t.mut ht hF ht' hF' hf'⟩
theorem tSetMax (t : TA B w0 w p h l v al) (m : Int) (hm : i64 m) (H : Nat) (L : List Fld) (hH : clampI m = H) (hL : pre H l = L) : Calls Try.prog 20 #[.pointer (some ⟨p, 0, none⟩), .int .i64 m] w fun e w' => e = .returned (.tuple #[]) ∧ TA B w0 w' p H L v al := by
  subst hH
  subst hL
  obtain ⟨F, ht, hF⟩ := t.tab
  refine (pSetMax_c ht m hm).mono ?_
  rintro e w' ⟨F', rfl, ht', hF', hf'⟩
  exact ⟨rfl, t.mut ht hF ht' hF' hf'⟩
theorem tAt (t : TA B w0 w p h l v al) (i : Int) (hi : i64 i) (n x : ByteArray) (hR : atL (statL ++ l) i = some ⟨n, x, false⟩) : Calls Try.prog 22 #[.pointer (some ⟨p, 0, none⟩), .int .i64 i] w fun e w' => e = .returned (.tuple #[.agg #[.string n, .string x, .bool false], .bool true]) ∧ TA B w0 w' p h l v al ∧ Below w.heap.size w w' := by
  obtain ⟨F, ht, _⟩ := t.tab
  refine (pAt_c ht i hi).mono ?_
  rintro e w' ⟨rfl, hb⟩
  rw [hR]
  exact ⟨rfl, t.next hb, hb⟩
theorem tLen (t : TA B w0 w p h l v al) (n : Nat) (hn : l.length = n) : Calls Try.prog 29 #[.pointer (some ⟨p, 0, none⟩)] w fun e w' => e = .returned (.int .i64 (n : Int)) ∧ w = w' := by
  obtain ⟨F, ht, _⟩ := t.tab
  exact pLen_q ht n hn
theorem tSize (t : TA B w0 w p h l v al) (s : Nat) (hs : szs l = s) : Calls Try.prog 30 #[.pointer (some ⟨p, 0, none⟩)] w fun e w' => e = .returned (.int .i64 (s : Int)) ∧ w = w' := by
  obtain ⟨F, ht, _⟩ := t.tab
  exact pTSize_q ht s hs
theorem tMax (t : TA B w0 w p h l v al) : Calls Try.prog 31 #[.pointer (some ⟨p, 0, none⟩)] w fun e w' => e = .returned (.int .i64 (h : Int)) ∧ w = w' := by
  obtain ⟨F, ht, _⟩ := t.tab
  exact pMax_q ht
theorem tMax_s (t : TA B w0 w p h l v al) : Calls Try.prog 31 #[.pointer (some ⟨p, 0, none⟩)] w fun e w' => e = .returned (.int .i64 (h : Int)) ∧ w' = w := (tMax t).mono fun _ _ ⟨a, b⟩ => ⟨a, b.symm⟩
theorem tSize_s (t : TA B w0 w p h l v al) (s : Nat) (hs : szs l = s) : Calls Try.prog 30 #[.pointer (some ⟨p, 0, none⟩)] w fun e w' => e = .returned (.int .i64 (s : Int)) ∧ w' = w := (tSize t s hs).mono fun _ _ ⟨a, b⟩ => ⟨a, b.symm⟩
/-- append of one field to the slice -/
theorem TA.push {A A' : Option Addr} {n c c' : Nat} {f : Fld} (t : TA B w0 w p h l (.slice A n c) al) (ho : w'.ownsRow B 23 3 (.slice A' (n + 1) c') (n + 1) (fcellsL al ++ fcellsL [f])) (hf : Fr (fun i => some i = (Value.slice A n c).ownBlock) w w')
    (hat : (Value.slice A' (n + 1) c').ownBlock = (Value.slice A n c).ownBlock ∨ (Value.slice A' (n + 1) c').ownBlock = some w.heap.size) : TA B w0 w' p h l (.slice A' (n + 1) c') (al ++ [f]) := by
  obtain ⟨F, ht, hF⟩ := t.tab
  refine ⟨⟨F, ht.fr hf (fun i hi e => (hF i hi).2 e), fun i hi => ⟨(hF i hi).1, fun e => ?_⟩⟩, ?_, t.below.trans (hf.below t.size (fun i _ e => (t.own.lt i e.symm).1)), Nat.le_trans t.size hf.size⟩
  · rcases hat with hat | hat
    · exact (hF i hi).2 (by rw [e, hat])
    · rw [hat] at e
      have := ht.lt i hi
      cases e
      omega
  · have hn : (al ++ [f]).length = n + 1 := by
      have h1 := ho.1
      rw [List.length_append, fcellsL_length, fcellsL_length] at h1
      simp at h1 ⊢
      omega
    rw [hn, fcellsL_append]
    exact ho
theorem TA.len {A : Option Addr} {n c : Nat} (t : TA B w0 w p h l (.slice A n c) al) : al.length = n := by
  have h1 := t.own
  rcases h1.2 with ⟨e, h0⟩ | ⟨g, cap, cur, e, _, _, h2, h3, h4, h5⟩
  · simp only [Value.slice.injEq] at e; omega
  · simp only [Value.slice.injEq] at e; omega
/-- the slice is given up -/
theorem TA.drop (t : TA B w0 w p h l v al) : TA B w0 w p h l (.slice none 0 0) [] := by
  obtain ⟨F, ht, hF⟩ := t.tab
  exact ⟨⟨F, ht, fun i hi => ⟨(hF i hi).1, by simp [Value.ownBlock]⟩⟩, World.ownsRow_nil _ _ _ _, t.below, t.size⟩
theorem TA.rd {A : Option Addr} {n c : Nat} (t : TA B w0 w p h l (.slice A n c) al) : Rd w 3 A n (fcellsL al) := by
  have h1 := t.own
  rw [t.len] at h1
  exact Rd.of_own h1
end
end Go.Proofs.Ytefjjmhbbcganaa
