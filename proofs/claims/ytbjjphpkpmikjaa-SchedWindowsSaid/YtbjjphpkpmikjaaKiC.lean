/- Stage 11: turns: plain mathematics. -/
import Derived.Test.YtbjjphpkpmikjaaKiB
namespace Go.Sch
set_option linter.unusedVariables false
set_option linter.unusedSimpArgs false
theorem sum_set : ∀ {l : List Nat} {k x y : Nat}, l[k]? = some x → (l.set k y).sum + x = l.sum + y
  | [], k, x, y, h => by simp at h
  | z :: r, 0, x, y, h => by
    simp at h
    subst h
    simp [List.sum_cons]
    omega
  | z :: r, k + 1, x, y, h => by
    rw [List.getElem?_cons_succ] at h
    have := sum_set (y := y) h
    rw [List.set_cons_succ, List.sum_cons, List.sum_cons]
    omega
theorem sum_mem : ∀ {l : List Nat} {k x : Nat}, l[k]? = some x → x ≤ l.sum
  | [], k, x, h => by simp at h
  | z :: r, 0, x, h => by simp at h; subst h; rw [List.sum_cons]; omega
  | z :: r, k + 1, x, h => by
    rw [List.getElem?_cons_succ] at h
    have := sum_mem h
    rw [List.sum_cons]
    omega
/-- all wait, have an end and windows wide enough; who had a turn more stands behind -/
structure Fair (q : List Fl) (left turn : List Nat) (W : Int) : Prop where
  ll : left.length = 30
  lt : turn.length = 30
  at_ : ∀ f ∈ q, ∃ k, f.id = 2 * k + 1 ∧ left[k]? = some f.wait ∧ 0 < f.wait ∧ f.en = true ∧ (1047552 : Int) + (f.wait : Int) ≤ f.win
  gone : ∀ (k x : Nat), left[k]? = some x → x ≠ 0 → ∃ f ∈ q, f.id = 2 * k + 1
  nd : (q.map Fl.id).Nodup
  turns : ∃ t a b, q = a ++ b ∧ (∀ f ∈ a, ∀ k, f.id = 2 * k + 1 → turn[k]? = some t) ∧ ∀ f ∈ b, ∀ k, f.id = 2 * k + 1 → turn[k]? = some (t + 1)
  sum : 1 + (left.sum : Int) ≤ W
theorem Fair.done {left turn : List Nat} {W : Int} (h : Fair [] left turn W) : ∀ (k x : Nat), left[k]? = some x → x = 0 := by
  intro k x hx
  rcases Nat.eq_zero_or_pos x with h0 | h0
  · exact h0
  · obtain ⟨f, hf, _⟩ := h.gone k x hx (by omega)
    cases hf
theorem Fair.empty {q : List Fl} {left turn : List Nat} {W : Int} (h : Fair q left turn W) (h0 : left.sum = 0) : q = [] := by
  cases q with
  | nil => rfl
  | cons f r =>
    obtain ⟨k, _, hl, hp, _⟩ := h.at_ f (List.mem_cons_self)
    have := sum_mem hl
    omega
theorem Fair.next {F cap : Nat} {f : Fl} {r : List Fl} {left turn : List Nat} {W : Int} (hF : 0 < F) (hc : 10 ≤ cap) (h : Fair (f :: r) left turn W) :
    ∃ k m t q', f.id = 2 * k + 1 ∧ k < 30 ∧ left[k]? = some f.wait ∧ turn[k]? = some t ∧ 1 ≤ m ∧ m ≤ f.wait ∧ nextQ W F cap (f :: r) = some (2 * k + 1, m, decide (f.wait - m = 0), q') ∧
      Fair q' (left.set k (f.wait - m)) (turn.set k (t + 1)) (W - (m : Nat)) ∧
      ∀ (i x y : Nat), (left.set k (f.wait - m))[i]? = some x → 0 < x → (turn.set k (t + 1))[i]? = some y → t + 1 ≤ y + 1 := by
  obtain ⟨k, hk, hl, hp, hen, hw⟩ := h.at_ f List.mem_cons_self
  have hk30 : k < 30 := by rw [← h.ll]; exact (List.getElem?_eq_some_iff.1 hl).1
  have hW : 0 < W := by have := h.sum; omega
  have hr : rdy W f = true := by
    unfold rdy
    rw [decide_eq_true hp, decide_eq_true (show 0 < f.win by omega), decide_eq_true hW]
    rfl
  obtain ⟨m, hm⟩ : ∃ m, octs W F cap f = m := ⟨_, rfl⟩
  have hm1 : 1 ≤ m := by rw [← hm]; exact octs_pos hr hp hF hc
  have hm2 : m ≤ f.wait := by rw [← hm]; exact octs_le
  -- the head has the least turns
  obtain ⟨t, a, b, hab, ha, hb⟩ : ∃ t a b, r = a ++ b ∧ (∀ g ∈ f :: a, ∀ k, g.id = 2 * k + 1 → turn[k]? = some t) ∧ ∀ g ∈ b, ∀ k, g.id = 2 * k + 1 → turn[k]? = some (t + 1) := by
    obtain ⟨t, a, b, hab, ha, hb⟩ := h.turns
    cases a with
    | nil => exact ⟨t + 1, r, [], by simp, by rw [List.nil_append] at hab; rw [hab]; exact hb, fun g hg => by cases hg⟩
    | cons g a =>
      rw [List.cons_append] at hab
      injection hab with h1 h2
      subst h1
      exact ⟨t, a, b, h2, ha, hb⟩
  have htk : turn[k]? = some t := ha f List.mem_cons_self k hk
  have hnd := h.nd
  rw [List.map_cons, List.nodup_cons] at hnd
  have hne : ∀ g ∈ r, g.id ≠ f.id := fun g hg e => hnd.1 (List.mem_map.2 ⟨g, hg, e⟩)
  have hs := sum_set (y := f.wait - m) hl
  have hsum := h.sum
  have hl' : (left.set k (f.wait - m))[k]? = some (f.wait - m) := List.getElem?_set_self (by rw [h.ll]; exact hk30)
  have ht' : (turn.set k (t + 1))[k]? = some (t + 1) := List.getElem?_set_self (by rw [h.lt]; exact hk30)
  have hlo : ∀ j, j ≠ k → (left.set k (f.wait - m))[j]? = left[j]? := fun j hj => List.getElem?_set_ne (fun e => hj e.symm)
  have hto : ∀ j, j ≠ k → (turn.set k (t + 1))[j]? = turn[j]? := fun j hj => List.getElem?_set_ne (fun e => hj e.symm)
  have hrest : ∀ g ∈ r, ∃ j, j ≠ k ∧ g.id = 2 * j + 1 ∧ left[j]? = some g.wait ∧ 0 < g.wait ∧ g.en = true ∧ (1047552 : Int) + (g.wait : Int) ≤ g.win := fun g hg => by
    obtain ⟨j, h1, h2⟩ := h.at_ g (List.mem_cons_of_mem _ hg)
    exact ⟨j, fun e => hne g hg (by rw [h1, hk, e]), h1, h2⟩
  have hone : ∀ g ∈ r, ∀ j, g.id = 2 * j + 1 → j ≠ k := fun g hg j hj e => hne g hg (by rw [hj, hk, e])
  have hcheck : ∀ (i x y : Nat), (left.set k (f.wait - m))[i]? = some x → 0 < x → (turn.set k (t + 1))[i]? = some y → t + 1 ≤ y + 1 := by
    intro i x y hx hx0 hy
    by_cases hik : i = k
    · subst hik
      rw [ht'] at hy
      injection hy with hy
      omega
    · rw [hlo i hik] at hx
      rw [hto i hik] at hy
      obtain ⟨g, hg, hgi⟩ := h.gone i x hx (by omega)
      rcases List.mem_cons.1 hg with rfl | hg2
      · exact absurd (by omega : i = k) hik
      · rw [hab] at hg2
        rcases List.mem_append.1 hg2 with hg3 | hg3
        · rw [ha g (List.mem_cons_of_mem _ hg3) i hgi] at hy
          injection hy with hy
          omega
        · rw [hb g hg3 i hgi] at hy
          injection hy with hy
          omega
  have hgone : ∀ (q' : List Fl), (∀ g ∈ r, g ∈ q') → (f.wait - m ≠ 0 → ∃ g ∈ q', g.id = f.id) → ∀ (j x : Nat), (left.set k (f.wait - m))[j]? = some x → x ≠ 0 → ∃ g ∈ q', g.id = 2 * j + 1 := by
    intro q' h1 h2 j x hx hx0
    by_cases hjk : j = k
    · subst hjk
      rw [hl'] at hx
      injection hx with hx
      obtain ⟨g, hg, he⟩ := h2 (by omega)
      exact ⟨g, hg, by rw [he, hk]⟩
    · rw [hlo j hjk] at hx
      obtain ⟨g, hg, he⟩ := h.gone j x hx hx0
      rcases List.mem_cons.1 hg with rfl | hg
      · exact absurd (by omega : j = k) hjk
      · exact ⟨g, h1 g hg, he⟩
  have hat : ∀ g ∈ r, ∃ j, g.id = 2 * j + 1 ∧ (left.set k (f.wait - m))[j]? = some g.wait ∧ 0 < g.wait ∧ g.en = true ∧ (1047552 : Int) + (g.wait : Int) ≤ g.win := fun g hg => by
    obtain ⟨j, hj, h1, h2, h3⟩ := hrest g hg
    exact ⟨j, h1, by rw [hlo j hj]; exact h2, h3⟩
  have hta : ∀ g ∈ a, ∀ j, g.id = 2 * j + 1 → (turn.set k (t + 1))[j]? = some t := fun g hg j hj => by
    rw [hto j (hone g (by rw [hab]; simp [hg]) j hj)]
    exact ha g (List.mem_cons_of_mem _ hg) j hj
  have htb : ∀ g ∈ b, ∀ j, g.id = 2 * j + 1 → (turn.set k (t + 1))[j]? = some (t + 1) := fun g hg j hj => by
    rw [hto j (hone g (by rw [hab]; simp [hg]) j hj)]
    exact hb g hg j hj
  have hfr := firstR_head (r := r) hr
  by_cases hend : f.wait - m = 0
  · refine ⟨k, m, t, r, hk, hk30, hl, htk, hm1, hm2, ?_, ⟨by rw [List.length_set]; exact h.ll, by rw [List.length_set]; exact h.lt, hat, hgone r (fun _ h => h) (fun h => absurd hend h), hnd.2, ⟨t, a, b, hab, hta, htb⟩, by omega⟩, hcheck⟩
    unfold nextQ
    rw [hfr]
    simp only
    rw [if_neg (by omega), hm, if_pos ⟨hen, hend⟩, hk, decide_eq_true hend]
    rfl
  · obtain ⟨f2, hf2⟩ : ∃ f2 : Fl, (⟨f.id, f.win - (m : Nat), f.wait - m, f.en⟩ : Fl) = f2 := ⟨_, rfl⟩
    have e1 : f2.id = f.id := by rw [← hf2]
    refine ⟨k, m, t, r ++ [f2], hk, hk30, hl, htk, hm1, hm2, ?_, ⟨by rw [List.length_set]; exact h.ll, by rw [List.length_set]; exact h.lt, ?_, hgone _ (fun g hg => by simp [hg]) (fun _ => ⟨f2, by simp, e1⟩), ?_, ⟨t, a, b ++ [f2], by rw [hab, List.append_assoc], hta, ?_⟩, by omega⟩, hcheck⟩
    · unfold nextQ
      rw [hfr]
      simp only
      rw [if_neg (by omega), hm, if_neg (fun h => hend h.2), hk, decide_eq_false hend, hf2.symm, hk]
      rfl
    · intro g hg
      rcases List.mem_append.1 hg with hg | hg
      · exact hat g hg
      · rw [List.mem_singleton.1 hg, ← hf2]
        exact ⟨k, hk, hl', by show 0 < f.wait - m; omega, hen, by show (1047552 : Int) + ((f.wait - m : Nat) : Int) ≤ f.win - (m : Nat); omega⟩
    · rw [List.map_append, List.nodup_append]
      refine ⟨hnd.2, by simp, ?_⟩
      intro x hx y hy e
      obtain ⟨g, hg, rfl⟩ := List.mem_map.1 hx
      rw [List.map_singleton, List.mem_singleton] at hy
      exact hne g hg (by rw [e, hy, e1])
    · intro g hg j hj
      rcases List.mem_append.1 hg with hg | hg
      · exact htb g hg j hj
      · rw [List.mem_singleton.1 hg] at hj
        have : j = k := by rw [e1, hk] at hj; omega
        rw [this]
        exact ht'
end Go.Sch
