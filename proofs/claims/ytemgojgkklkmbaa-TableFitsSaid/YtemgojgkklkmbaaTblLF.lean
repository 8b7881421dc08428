/- TableFinds, the walk. -/
import Derived.Test.YtemgojgkklkmbaaTblC
import Derived.Deep.DeepCutAuto
namespace Go.Proofs.Ytemgojgkklkmbaa
open Go.RowKit Go.Own Go.Tbl
set_option linter.unusedVariables false
attribute [local go_sem ↓] Go.wp_at_zero Go.wp_at_succ

theorem findF_cases {all : List Fld} {f : Fld} {R1 : Nat} {R2 : Bool} (h : findF all f = (R1, R2)) :
    (R2 = true ∧ ∃ k x, R1 = k + 1 ∧ all[k]? = some x ∧ sameB f x = true ∧ Miss (sameB f) all k) ∨
    (R2 = false ∧ (∀ g ∈ all, sameB f g = false) ∧ ((R1 = 0 ∧ ∀ g ∈ all, nameB f g = false) ∨ ∃ k x, R1 = k + 1 ∧ all[k]? = some x ∧ nameB f x = true ∧ Miss (nameB f) all k)) := by
  unfold findF at h
  cases h1 : place (sameB f) all with
  | some k =>
    rw [h1] at h
    injection h with h2 h3
    obtain ⟨x, hx, hs, hm⟩ := place_some h1
    exact .inl ⟨h3.symm, k, x, h2.symm, hx, hs, fun j g hj hg => hm j g hj hg⟩
  | none =>
    rw [h1] at h
    cases h4 : place (nameB f) all with
    | some k =>
      rw [h4] at h
      injection h with h2 h3
      obtain ⟨x, hx, hs, hm⟩ := place_some h4
      exact .inr ⟨h3.symm, place_none h1, .inr ⟨k, x, h2.symm, hx, hs, fun j g hj hg => hm j g hj hg⟩⟩
    | none =>
      rw [h4] at h
      injection h with h2 h3
      exact .inr ⟨h3.symm, place_none h1, .inl ⟨h2.symm, place_none h4⟩⟩
/-- what the law asks of each index -/
def FOk (j R1 : Nat) (R2 b1 b2 : Bool) : Prop := (j < R1 → (b1 && b2) = false ∧ (R2 = false → b1 = false)) ∧ (j = R1 → (b1 && b2) = R2 ∧ b1 = true) ∧ (R1 < j → (R2 = false → (b1 && b2) = false) ∧ (R1 = 0 → b1 = false))
theorem find_ok {all : List Fld} {f x : Fld} {R1 j : Nat} {R2 : Bool} (h : findF all f = (R1, R2)) (hj : 1 ≤ j) (hx : all[j - 1]? = some x) {b1 b2 : Bool} (h1 : (x.n.toList == f.n.toList) = b1) (h2 : (x.v.toList == f.v.toList) = b2) : FOk j R1 R2 b1 b2 := by
  have hs : sameB f x = (b1 && b2) := by rw [sameB, h1, h2]
  have hn : nameB f x = b1 := by rw [nameB, h1]
  have hxm := List.mem_of_getElem? hx
  rcases findF_cases h with ⟨rfl, k, y, rfl, hy, hsy, hm⟩ | ⟨rfl, hno, hc⟩
  · refine ⟨fun hlt => ⟨?_, fun e => (by cases e)⟩, fun e => ?_, fun hlt => ⟨fun e => (by cases e), fun e => (by omega)⟩⟩
    · rw [← hs]; exact hm (j - 1) x (by omega) hx
    · have : j - 1 = k := by omega
      rw [this, hy] at hx
      obtain rfl := Option.some.inj hx
      rw [hs] at hsy
      refine ⟨hsy, ?_⟩
      cases b1
      · simp at hsy
      · rfl
  · have h3 : (b1 && b2) = false := by rw [← hs]; exact hno x hxm
    refine ⟨fun hlt => ⟨h3, fun _ => ?_⟩, fun e => ⟨h3, ?_⟩, fun hlt => ⟨fun _ => h3, fun e => ?_⟩⟩
    · rcases hc with ⟨rfl, _⟩ | ⟨k, y, rfl, hy, hny, hm⟩
      · omega
      · rw [← hn]; exact hm (j - 1) x (by omega) hx
    · rcases hc with ⟨rfl, _⟩ | ⟨k, y, rfl, hy, hny, hm⟩
      · omega
      · have : j - 1 = k := by omega
        rw [this, hy] at hx
        obtain rfl := Option.some.inj hx
        rw [hn] at hny
        exact hny
    · rcases hc with ⟨rfl, h4⟩ | ⟨k, y, rfl, hy, hny, hm⟩
      · rw [← hn]; exact h4 x hxm
      · omega
theorem find_le {all : List Fld} {f : Fld} {R1 : Nat} {R2 : Bool} (h : findF all f = (R1, R2)) : R1 ≤ all.length ∧ (R1 = 0 → R2 = false) := by
  rcases findF_cases h with ⟨rfl, k, y, rfl, hy, _⟩ | ⟨rfl, _, ⟨rfl, _⟩ | ⟨k, y, rfl, hy, _⟩⟩
  · have := (List.getElem?_eq_some_iff.1 hy).1
    exact ⟨by omega, fun e => by omega⟩
  · exact ⟨by omega, fun _ => rfl⟩
  · have := (List.getElem?_eq_some_iff.1 hy).1
    exact ⟨by omega, fun _ => rfl⟩
theorem PB.ok {B : Nat} {w0 w : World} {p h : Nat} {l : List Fld} (t : PB B w0 w p h l) : ∀ f ∈ l, fok f ∧ f.nv = false := by obtain ⟨F, ht, _⟩ := t; exact ht.ok
theorem PB.small {B : Nat} {w0 w : World} {p h : Nat} {l : List Fld} (t : PB B w0 w p h l) : l.length ≤ 2048 := by
  obtain ⟨F, ht, _⟩ := t
  have h1 := ht.le
  have h2 := ht.top
  have h3 := len_szs l
  omega
theorem bLen_q {B : Nat} {w0 w : World} {p h : Nat} {l : List Fld} (t : PB B w0 w p h l) (n : Nat) (hn : l.length = n) : Calls Try.prog 28 #[.pointer (some ⟨p, 0, none⟩)] w fun e w' => e = .returned (.int .i64 (n : Int)) ∧ w = w' := by
  obtain ⟨F, ht, _⟩ := t
  exact pLen_q ht n hn
theorem bAt_f {B : Nat} {w0 w : World} {p h : Nat} {l : List Fld} (t : PB B w0 w p h l) (i : Int) (hi : i64 i) (n v : ByteArray) (hR : atL (statL ++ l) i = some ⟨n, v, false⟩) : Calls Try.prog 21 #[.pointer (some ⟨p, 0, none⟩), .int .i64 i] w fun e w' => e = .returned (.tuple #[.agg #[.string n, .string v, .bool false], .bool true]) ∧ PB B w0 w' p h l ∧ Below w.heap.size w w' := bAt t i hi _ hR
theorem bAt_no {B : Nat} {w0 w : World} {p h : Nat} {l : List Fld} (t : PB B w0 w p h l) (i : Int) (hi : i64 i) (hR : atL (statL ++ l) i = none) : Calls Try.prog 21 #[.pointer (some ⟨p, 0, none⟩), .int .i64 i] w fun e w' => e = .returned (.tuple #[.agg #[.string ⟨#[]⟩, .string ⟨#[]⟩, .bool false], .bool false]) ∧ PB B w0 w' p h l ∧ Below w.heap.size w w' := bAt t i hi _ hR
theorem all_never {l : List Fld} (hl : ∀ f ∈ l, fok f ∧ f.nv = false) : ∀ g ∈ statL ++ l, g.nv = false := by
  intro g hg
  rcases List.mem_append.1 hg with hg | hg
  · exact statL_never g hg
  · exact (hl g hg).2
end Go.Proofs.Ytemgojgkklkmbaa
