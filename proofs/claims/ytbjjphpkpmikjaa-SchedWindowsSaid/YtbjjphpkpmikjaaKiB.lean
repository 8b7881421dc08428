/- Stage 11: streams and what the law remembers of them; windows; who is gone: plain mathematics. -/
import Derived.Test.YtbjjphpkpmikjaaKiA
namespace Go.Sch
set_option linter.unusedVariables false
set_option linter.unusedSimpArgs false
/-- what the law remembers: a window, octets that wait, an end -/
structure Fw where
  win : Int
  oct : Nat
  en : Bool
/-- each stream of the queue is as remembered, at its place; none is there twice -/
structure Ties (q : List Fl) (l : List Fw) : Prop where
  at_ : ∀ f ∈ q, ∃ k, f.id = 2 * k + 1 ∧ l[k]? = some ⟨f.win, f.wait, f.en⟩
  nd : (q.map Fl.id).Nodup
theorem Ties.id_lt {q : List Fl} {l : List Fw} (h : Ties q l) {f : Fl} (hf : f ∈ q) : ∃ k, f.id = 2 * k + 1 ∧ k < l.length ∧ l[k]? = some ⟨f.win, f.wait, f.en⟩ := by
  obtain ⟨k, h1, h2⟩ := h.at_ f hf
  exact ⟨k, h1, (List.getElem?_eq_some_iff.1 h2).1, h2⟩
theorem Ties.one {q a b : List Fl} {l : List Fw} {f : Fl} (h : Ties q l) (hq : q = a ++ f :: b) : (∀ g ∈ a ++ b, g.id ≠ f.id) ∧ ((a ++ b).map Fl.id).Nodup := by
  subst hq
  have hp : ((a ++ f :: b).map Fl.id).Perm ((f :: (a ++ b)).map Fl.id) := (List.perm_middle).map _
  have hn := hp.nodup_iff.1 h.nd
  rw [List.map_cons, List.nodup_cons] at hn
  exact ⟨fun g hg e => hn.1 (List.mem_map.2 ⟨g, hg, e⟩), hn.2⟩
/-- who is taken out, another value standing at its place -/
theorem Ties.out {q a b : List Fl} {l : List Fw} {f : Fl} (h : Ties q l) (hq : q = a ++ f :: b) {k : Nat} (hk : f.id = 2 * k + 1) (x : Fw) : Ties (a ++ b) (l.set k x) := by
  obtain ⟨h1, h2⟩ := h.one hq
  refine ⟨fun g hg => ?_, h2⟩
  obtain ⟨j, hj, hl⟩ := h.at_ g (by rw [hq]; simp at hg ⊢; rcases hg with hg | hg; exact .inl hg; exact .inr (.inr hg))
  refine ⟨j, hj, ?_⟩
  have hne : k ≠ j := fun e => h1 g hg (by rw [hj, hk, e])
  rw [List.getElem?_set_ne hne]
  exact hl
theorem Ties.back {q : List Fl} {l : List Fw} (h : Ties q l) {f : Fl} {k : Nat} (hk : f.id = 2 * k + 1) (hl : l[k]? = some ⟨f.win, f.wait, f.en⟩) (hn : ∀ g ∈ q, g.id ≠ f.id) : Ties (q ++ [f]) l := by
  refine ⟨fun g hg => ?_, ?_⟩
  · rcases List.mem_append.1 hg with hg | hg
    · exact h.at_ g hg
    · rw [List.mem_singleton.1 hg]; exact ⟨k, hk, hl⟩
  · rw [List.map_append, List.nodup_append]
    refine ⟨h.nd, by simp, ?_⟩
    intro x hx y hy e
    obtain ⟨g, hg, rfl⟩ := List.mem_map.1 hx
    rw [List.map_singleton, List.mem_singleton] at hy
    exact hn g hg (e.trans hy)
/-- what the law finds of a piece -/
theorem Ties.next {W : Int} {F cap : Nat} {q q' : List Fl} {l : List Fw} {id n : Nat} {e : Bool} (hF : 0 < F) (h : Ties q l) (hn : nextQ W F cap q = some (id, n, e, q')) :
    ∃ k x, id = 2 * k + 1 ∧ l[k]? = some x ∧ n ≤ x.oct ∧ n ≤ F ∧ n + 9 ≤ cap ∧ (n = 0 → e = true) ∧ (0 < n → (n : Int) ≤ x.win ∧ (n : Int) ≤ W) ∧ (e = true → x.en = true ∧ n = x.oct) ∧
      (e = true → ∀ y, Ties q' (l.set k y)) ∧ (e = false → Ties q' (l.set k ⟨x.win - (n : Nat), x.oct - n, x.en⟩)) := by
  obtain ⟨a, f, b, h1, h2, h3, h4, h5, h6, h7, h8, h9, h10⟩ := nextQ_some hF hn
  obtain ⟨k, hk, hlt, hl⟩ := h.id_lt (f := f) (by rw [h1]; simp)
  refine ⟨k, _, h4.trans hk, hl, h5, h6, h7, fun hz => (h8 hz).2, h9, ?_, ?_, ?_⟩
  · intro he
    rcases h10 with ⟨_, h11, h12, _⟩ | ⟨h11, _⟩
    · exact ⟨h11, h12⟩
    · rw [he] at h11; cases h11
  · intro he y
    rcases h10 with ⟨_, _, _, h12⟩ | ⟨h11, _⟩
    · rw [h12]; exact h.out h1 hk y
    · rw [he] at h11; cases h11
  · intro he
    rcases h10 with ⟨h11, _⟩ | ⟨_, _, h12⟩
    · rw [he] at h11; cases h11
    · rw [h12]
      refine (h.out h1 hk _).back (k := k) hk ?_ (h.one h1).1
      rw [List.getElem?_set_self hlt]
/-- a stream's place in the queue, by its number -/
def atQ (id : Nat) (q : List Fl) : Option Fl := q.find? fun f => decide (f.id = id)
theorem atQ_some {id : Nat} {q : List Fl} {f : Fl} (h : atQ id q = some f) : f ∈ q ∧ f.id = id := by
  refine ⟨List.mem_of_find?_eq_some h, ?_⟩
  have := List.find?_some h
  simpa using this
theorem atQ_none {id : Nat} {q : List Fl} (h : atQ id q = none) : ∀ f ∈ q, f.id ≠ id := by
  intro f hf e
  have := List.find?_eq_none.1 h f hf
  simp [e] at this
theorem ids_inj : ∀ {q : List Fl}, (q.map Fl.id).Nodup → ∀ {f g : Fl}, f ∈ q → g ∈ q → f.id = g.id → f = g
  | [], _, f, g, hf, _, _ => by cases hf
  | x :: r, hn, f, g, hf, hg, he => by
    rw [List.map_cons, List.nodup_cons] at hn
    rcases List.mem_cons.1 hf with hf | hf <;> rcases List.mem_cons.1 hg with hg | hg
    · rw [hf, hg]
    · exact absurd (List.mem_map.2 ⟨g, hg, by rw [← he, hf]⟩) hn.1
    · exact absurd (List.mem_map.2 ⟨f, hf, by rw [he, hg]⟩) hn.1
    · exact ids_inj hn.2 hf hg he
theorem atQ_mem {q : List Fl} (hn : (q.map Fl.id).Nodup) {f : Fl} (hf : f ∈ q) : atQ f.id q = some f := by
  cases h : atQ f.id q with
  | none => exact absurd rfl (atQ_none h f hf)
  | some g =>
    obtain ⟨hg, he⟩ := atQ_some h
    rw [ids_inj hn hg hf he]
/-- a window is granted more -/
def grantQ (id : Nat) (n : Int) (q : List Fl) : List Fl := q.map fun f => if f.id = id then ⟨f.id, f.win + n, f.wait, f.en⟩ else f
theorem grantQ_ids (id : Nat) (n : Int) (q : List Fl) : (grantQ id n q).map Fl.id = q.map Fl.id := by
  unfold grantQ
  rw [List.map_map]
  refine List.map_congr_left fun f _ => ?_
  show (if f.id = id then (⟨f.id, f.win + n, f.wait, f.en⟩ : Fl) else f).id = f.id
  split <;> rfl
theorem Ties.grant {q : List Fl} {l : List Fw} (h : Ties q l) {k : Nat} {x : Fw} (hx : l[k]? = some x) (n : Int) : Ties (grantQ (2 * k + 1) n q) (l.set k ⟨x.win + n, x.oct, x.en⟩) := by
  obtain ⟨hlt, hxe⟩ := List.getElem?_eq_some_iff.1 hx
  refine ⟨fun g hg => ?_, by rw [grantQ_ids]; exact h.nd⟩
  obtain ⟨f, hf, rfl⟩ := List.mem_map.1 hg
  obtain ⟨j, hj, hl⟩ := h.at_ f hf
  by_cases he : f.id = 2 * k + 1
  · rw [if_pos he]
    have hjk : j = k := by omega
    subst hjk
    rw [hl] at hx
    injection hx with hx
    subst hx
    exact ⟨j, he, by rw [List.getElem?_set_self hlt]⟩
  · rw [if_neg he]
    refine ⟨j, hj, ?_⟩
    rw [List.getElem?_set_ne (fun e => he (by rw [hj, e]))]
    exact hl
end Go.Sch
