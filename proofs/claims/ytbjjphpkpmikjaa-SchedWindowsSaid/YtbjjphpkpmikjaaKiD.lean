/- Stage 11: rounds of a queue: plain mathematics. -/
import Derived.Test.YtbjjphpkpmikjaaKiC
namespace Go.Sch
set_option linter.unusedVariables false
set_option linter.unusedSimpArgs false
def wd (f : Fl) : Bool := decide (0 < f.win)
/-- one octet of the first one that has a window -/
theorem nextQ_one {W : Int} {cap : Nat} {a b : List Fl} {f : Fl} (ha : ∀ g ∈ a, wd g = false ∧ 0 < g.wait) (hf : 0 < f.win) (hw : 0 < f.wait) (he : f.en = false) (hW : 0 < W) (hc : 10 ≤ cap) :
    nextQ W 1 cap (a ++ f :: b) = some (f.id, 1, false, a ++ b ++ [⟨f.id, f.win - 1, f.wait - 1, f.en⟩]) := by
  have hr : rdy W f = true := by
    unfold rdy
    rw [decide_eq_true hw, decide_eq_true hf, decide_eq_true hW]; rfl
  have hna : ∀ g ∈ a, rdy W g = false := fun g hg => by
    obtain ⟨h1, h2⟩ := ha g hg
    have h1 : decide (0 < g.win) = false := h1
    unfold rdy
    rw [h1, decide_eq_false (show ¬ g.wait = 0 by omega)]
    simp
  have hfr : firstR W (a ++ f :: b) = some (a, f, b) := by
    clear ha
    induction a with
    | nil => exact firstR_head hr
    | cons x r ih =>
      rw [List.cons_append, firstR, hna x List.mem_cons_self, ih (fun g hg => hna g (List.mem_cons_of_mem _ hg))]
      rfl
  have ho : octs W 1 cap f = 1 := by
    unfold octs
    rw [if_neg (by omega)]
    omega
  unfold nextQ
  rw [hfr]
  simp only
  rw [if_neg (by omega), ho, if_neg (by rw [he]; simp)]
  rfl
theorem filter_split {p : Fl → Bool} : ∀ {X : List Fl} {f : Fl} {r : List Fl}, X.filter p = f :: r → ∃ a b, X = a ++ f :: b ∧ (∀ g ∈ a, p g = false) ∧ p f = true ∧ b.filter p = r
  | [], f, r, h => by cases h
  | x :: X, f, r, h => by
    cases hx : p x
    · rw [List.filter_cons_of_neg (by simp [hx])] at h
      obtain ⟨a, b, h1, h2, h3, h4⟩ := filter_split h
      refine ⟨x :: a, b, by rw [h1]; rfl, ?_, h3, h4⟩
      intro g hg
      rcases List.mem_cons.1 hg with rfl | hg
      · exact hx
      · exact h2 g hg
    · rw [List.filter_cons_of_pos (by exact hx)] at h
      injection h with h1 h2
      subst h1
      exact ⟨[], X, rfl, fun g hg => (by cases hg), hx, h2⟩
/-- a round under way: who was served stands behind; windows and octets are left -/
structure Rnd (q : List Fl) (ready late : List Nat) (i : Nat) (lw : Int) (lo : Nat) : Prop where
  sp : ∃ X B, q = X ++ B ∧ (X.filter wd).map Fl.id = ready.drop i ∧ (X.filter fun f => !wd f).map Fl.id = late ∧ B.map Fl.id = ready.take i ∧
    (∀ f ∈ X, f.en = false ∧ lo + 1 ≤ f.wait ∧ (wd f = true → lw + 1 ≤ f.win) ∧ (wd f = false → f.win = 0)) ∧ ∀ f ∈ B, f.en = false ∧ lo ≤ f.wait ∧ lw ≤ f.win
theorem Rnd.next {q : List Fl} {ready late : List Nat} {i : Nat} {lw : Int} {lo cap id : Nat} {W : Int} (h : Rnd q ready late i lw lo) (hi : ready[i]? = some id) (hW : 0 < W) (hc : 10 ≤ cap) (hlw : 0 < lw) (hlo : 0 < lo) :
    ∃ q', nextQ W 1 cap q = some (id, 1, false, q') ∧ Rnd q' ready late (i + 1) lw lo := by
  obtain ⟨X, B, h1, h2, h3, h4, h5, h6⟩ := h.sp
  have hlt : i < ready.length := (List.getElem?_eq_some_iff.1 hi).1
  have hd : ready.drop i = id :: ready.drop (i + 1) := by
    rw [List.drop_eq_getElem_cons hlt]
    congr 1
    exact (List.getElem?_eq_some_iff.1 hi).2
  rw [hd] at h2
  obtain ⟨f, r, hf⟩ : ∃ f r, X.filter wd = f :: r := by
    cases hx : X.filter wd with
    | nil => rw [hx] at h2; cases h2
    | cons f r => exact ⟨f, r, rfl⟩
  rw [hf, List.map_cons] at h2
  injection h2 with hid hr
  subst hid
  obtain ⟨a, b, hX, ha, hwf, hb⟩ := filter_split hf
  have hfX : f ∈ X := by rw [hX]; simp
  obtain ⟨e1, e2, e3, e4⟩ := h5 f hfX
  have e5 := e3 hwf
  have hq : q = a ++ f :: (b ++ B) := by rw [h1, hX, List.append_assoc]; rfl
  refine ⟨_, by rw [hq, nextQ_one (fun g hg => ⟨ha g hg, by have := (h5 g (by rw [hX]; simp [hg])).2.1; omega⟩) (by omega) (by omega) e1 hW hc], ?_⟩
  refine ⟨⟨a ++ b, B ++ [⟨f.id, f.win - 1, f.wait - 1, f.en⟩], by simp [List.append_assoc], ?_, ?_, ?_, ?_, ?_⟩⟩
  · rw [List.filter_append, hb, List.filter_eq_nil_iff.2 (fun g hg => by simp [ha g hg]), List.nil_append]
    exact hr
  · rw [← h3, hX, List.filter_append, List.filter_append, List.filter_cons_of_neg (by simp [hwf])]
  · rw [List.map_append, h4, List.take_add_one, hi]
    simp
  · intro g hg
    exact h5 g (by rw [hX]; simp at hg ⊢; rcases hg with hg | hg; exact .inl hg; exact .inr (.inr hg))
  · intro g hg
    rcases List.mem_append.1 hg with hg | hg
    · exact h6 g hg
    · rw [List.mem_singleton.1 hg]
      exact ⟨e1, by show lo ≤ f.wait - 1; omega, by show lw ≤ f.win - 1; omega⟩
/-- a round is over: late ones ahead, served ones behind; the next one begins -/
theorem Rnd.turn {q : List Fl} {ready late : List Nat} {lw : Int} {lo : Nat} (h : Rnd q ready late ready.length (lw + 1) (lo + 1)) (hlw : 0 ≤ lw) : q.map Fl.id = late ++ ready ∧ Rnd q ready late 0 lw lo := by
  obtain ⟨X, B, h1, h2, h3, h4, h5, h6⟩ := h.sp
  rw [List.drop_length, List.map_eq_nil_iff] at h2
  rw [List.take_length] at h4
  have hX : ∀ f ∈ X, wd f = false := fun f hf => by
    have := List.filter_eq_nil_iff.1 h2 f hf
    simpa using this
  have hXf : (X.filter fun f => !wd f) = X := List.filter_eq_self.2 (fun f hf => by simp [hX f hf])
  rw [hXf] at h3
  have hB : ∀ f ∈ B, wd f = true := fun f hf => by
    have := (h6 f hf).2.2
    exact decide_eq_true (by omega)
  have hBf : B.filter wd = B := List.filter_eq_self.2 hB
  refine ⟨by rw [h1, List.map_append, h3, h4], ⟨⟨q, [], by simp, ?_, ?_, by simp, ?_, fun f hf => by cases hf⟩⟩⟩
  · rw [h1, List.filter_append, h2, hBf, List.nil_append, h4, List.drop_zero]
  · rw [h1, List.filter_append, hXf, List.filter_eq_nil_iff.2 (fun f hf => by simp [hB f hf]), List.append_nil, h3]
  · intro f hf
    rw [h1] at hf
    rcases List.mem_append.1 hf with hf | hf
    · obtain ⟨e1, e2, e3, e4⟩ := h5 f hf
      exact ⟨e1, by omega, fun h => (by rw [hX f hf] at h; cases h), e4⟩
    · obtain ⟨e1, e2, e3⟩ := h6 f hf
      exact ⟨e1, by omega, fun _ => by omega, fun h => by rw [hB f hf] at h; cases h⟩
/-- weaker numbers serve -/
theorem Rnd.weak {q : List Fl} {ready late : List Nat} {i : Nat} {lw lw' : Int} {lo lo' : Nat} (h : Rnd q ready late i lw lo) (h1 : lw' ≤ lw) (h2 : lo' ≤ lo) : Rnd q ready late i lw' lo' := by
  obtain ⟨X, B, e1, e2, e3, e4, e5, e6⟩ := h.sp
  exact ⟨⟨X, B, e1, e2, e3, e4, fun f hf => by
    obtain ⟨a, b, c, d⟩ := e5 f hf
    exact ⟨a, by omega, fun h => by have := c h; omega, d⟩, fun f hf => by
    obtain ⟨a, b, c⟩ := e6 f hf
    exact ⟨a, by omega, by omega⟩⟩⟩
/-- all have windows: the order is the queue's own -/
theorem Rnd.all {q : List Fl} {lw : Int} {lo : Nat} (h : ∀ f ∈ q, f.en = false ∧ lo + 1 ≤ f.wait ∧ lw + 1 ≤ f.win) (hlw : 0 ≤ lw) : Rnd q (q.map Fl.id) [] 0 lw lo := by
  have hw : ∀ f ∈ q, wd f = true := fun f hf => decide_eq_true (by have := (h f hf).2.2; omega)
  refine ⟨⟨q, [], by simp, by rw [List.filter_eq_self.2 hw, List.drop_zero], ?_, by simp, fun f hf => ?_, fun f hf => by cases hf⟩⟩
  · rw [List.filter_eq_nil_iff.2 (fun f hf => by simp [hw f hf])]
    rfl
  · obtain ⟨a, b, c⟩ := h f hf
    exact ⟨a, b, fun _ => c, fun h => by rw [hw f hf] at h; cases h⟩
end Go.Sch
