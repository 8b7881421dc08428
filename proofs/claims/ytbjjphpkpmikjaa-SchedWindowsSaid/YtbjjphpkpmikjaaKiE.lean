/- Stage 11: is anybody ready?: plain mathematics. -/
import Derived.Test.YtbjjphpkpmikjaaKiD
namespace Go.Sch
set_option linter.unusedVariables false
set_option linter.unusedSimpArgs false
/-- what the law remembers of who is gone -/
structure Gone (q : List Fl) (n : Nat) (gone ens : List Bool) : Prop where
  lg : n ≤ gone.length
  le : ens.length = n
  at_ : ∀ f ∈ q, ∃ k, k < n ∧ f.id = 2 * k + 1 ∧ gone[k]? = some false ∧ ens[k]? = some f.en
  off : ∀ k : Nat, k < n → gone[k]? = some false → ∃ f ∈ q, f.id = 2 * k + 1
  nd : (q.map Fl.id).Nodup
/-- a piece without an end: the same ones are there -/
theorem Gone.keep {W : Int} {F cap : Nat} {q q' : List Fl} {n m id : Nat} {gone ens : List Bool} (hF : 0 < F) (h : Gone q n gone ens) (hn : nextQ W F cap q = some (id, m, false, q')) : Gone q' n gone ens := by
  obtain ⟨a, f, b, h1, h2, h3, h4, h5, h6, h7, h8, h9, h10⟩ := nextQ_some hF hn
  rcases h10 with ⟨h11, _⟩ | ⟨_, _, hq'⟩
  · cases h11
  have hids : (q'.map Fl.id).Perm (q.map Fl.id) := by
    rw [hq', h1]
    have : ((a ++ b ++ [(⟨f.id, f.win - (m : Nat), f.wait - m, f.en⟩ : Fl)]).map Fl.id) = (a ++ b ++ [f]).map Fl.id := by simp
    rw [this]
    refine List.Perm.map _ ?_
    rw [List.append_assoc]
    exact List.Perm.append_left a (List.perm_append_singleton f b)
  refine ⟨h.lg, h.le, fun g hg => ?_, fun k hk hg => ?_, hids.nodup_iff.2 h.nd⟩
  · rw [hq'] at hg
    rcases List.mem_append.1 hg with hg | hg
    · exact h.at_ g (by rw [h1]; simp at hg ⊢; rcases hg with hg | hg; exact .inl hg; exact .inr (.inr hg))
    · rw [List.mem_singleton.1 hg]
      exact h.at_ f (by rw [h1]; simp)
  · obtain ⟨g, hg, he⟩ := h.off k hk hg
    have : 2 * k + 1 ∈ q'.map Fl.id := hids.mem_iff.2 (List.mem_map.2 ⟨g, hg, he⟩)
    obtain ⟨g', hg', he'⟩ := List.mem_map.1 this
    exact ⟨g', hg', he'⟩
/-- a piece with an end: that one is gone -/
theorem Gone.out {W : Int} {F cap : Nat} {q q' : List Fl} {n m id : Nat} {gone ens : List Bool} (hF : 0 < F) (h : Gone q n gone ens) (hn : nextQ W F cap q = some (id, m, true, q')) : ∃ k, k < n ∧ id = 2 * k + 1 ∧ Gone q' n (gone.set k true) ens := by
  obtain ⟨a, f, b, h1, h2, h3, h4, h5, h6, h7, h8, h9, h10⟩ := nextQ_some hF hn
  have hq' : q' = a ++ b := by
    rcases h10 with ⟨_, _, _, hq'⟩ | ⟨h11, _⟩
    · exact hq'
    · cases h11
  obtain ⟨k, hk, hid, hg, he⟩ := h.at_ f (by rw [h1]; simp)
  have hp : (q.map Fl.id).Perm ((f :: (a ++ b)).map Fl.id) := by rw [h1]; exact (List.perm_middle).map _
  have hnd := hp.nodup_iff.1 h.nd
  rw [List.map_cons, List.nodup_cons] at hnd
  have hne : ∀ g ∈ a ++ b, g.id ≠ f.id := fun g hg e => hnd.1 (List.mem_map.2 ⟨g, hg, e⟩)
  refine ⟨k, hk, h4.trans hid, by rw [List.length_set]; exact h.lg, h.le, fun g hg => ?_, fun j hj hgj => ?_, by rw [hq']; exact hnd.2⟩
  · rw [hq'] at hg
    obtain ⟨j, hj, hjid, hgj, hej⟩ := h.at_ g (by rw [h1]; simp at hg ⊢; rcases hg with hg | hg; exact .inl hg; exact .inr (.inr hg))
    refine ⟨j, hj, hjid, ?_, hej⟩
    rw [List.getElem?_set_ne (fun e => hne g hg (by rw [hjid, hid, e]))]
    exact hgj
  · by_cases hjk : k = j
    · subst hjk
      rw [List.getElem?_set_self (by have := h.lg; omega)] at hgj
      cases hgj
    · rw [List.getElem?_set_ne hjk] at hgj
      obtain ⟨g, hg, hgid⟩ := h.off j hj hgj
      refine ⟨g, ?_, hgid⟩
      rw [h1] at hg
      rw [hq']
      simp at hg ⊢
      rcases hg with hg | rfl | hg
      · exact .inl hg
      · exact absurd (by omega : k = j) hjk
      · exact .inr hg
/-- what is seen of number k -/
def seen (W : Int) (ens : List Bool) (q : List Fl) (k : Nat) : Bool := match atQ (2 * k + 1) q with
  | some f => (decide (0 < f.wait) && decide (0 < f.win) && decide (0 < W)) || (decide (f.wait = 0) && (ens[k]?).getD false)
  | none => false
theorem Gone.seen_at {q : List Fl} {n : Nat} {gone ens : List Bool} (h : Gone q n gone ens) (W : Int) {k : Nat} {f : Fl} (hf : atQ (2 * k + 1) q = some f) : seen W ens q k = rdy W f := by
  obtain ⟨h1, h2⟩ := atQ_some hf
  obtain ⟨j, _, hj, _, he⟩ := h.at_ f h1
  have : j = k := by omega
  subst this
  unfold seen rdy
  rw [hf]
  simp only [he, Option.getD_some]
/-- is it there? just if it is not gone -/
theorem Gone.there {q : List Fl} {n : Nat} {gone ens : List Bool} (h : Gone q n gone ens) {k : Nat} (hk : k < n) : gone[k]? = some (!(atQ (2 * k + 1) q).isSome) := by
  have hkg : k < gone.length := Nat.lt_of_lt_of_le hk h.lg
  cases ha : atQ (2 * k + 1) q with
  | some f =>
    obtain ⟨h1, h2⟩ := atQ_some ha
    obtain ⟨j, _, hj, hg, _⟩ := h.at_ f h1
    have : j = k := by omega
    subst this
    exact hg
  | none =>
    cases hg : gone[k]? with
    | none => rw [List.getElem?_eq_none_iff] at hg; omega
    | some b =>
      cases b with
      | true => rfl
      | false =>
        obtain ⟨f, hf, he⟩ := h.off k hk hg
        exact absurd he (atQ_none ha f hf)
/-- somebody is seen ready, just if somebody is -/
theorem Gone.any {q : List Fl} {n : Nat} {gone ens : List Bool} (h : Gone q n gone ens) (W : Int) : ((List.range n).any fun k => seen W ens q k) = q.any (rdy W) := by
  rw [Bool.eq_iff_iff, List.any_eq_true, List.any_eq_true]
  constructor
  · rintro ⟨k, _, hs⟩
    cases ha : atQ (2 * k + 1) q with
    | none => unfold seen at hs; rw [ha] at hs; cases hs
    | some f => exact ⟨f, (atQ_some ha).1, by rw [← h.seen_at W ha]; exact hs⟩
  · rintro ⟨f, hf, hr⟩
    obtain ⟨k, hk, hid, _, _⟩ := h.at_ f hf
    have ha : atQ (2 * k + 1) q = some f := by rw [← hid]; exact atQ_mem h.nd hf
    exact ⟨k, List.mem_range.2 hk, by rw [h.seen_at W ha]; exact hr⟩
theorem any_succ (n : Nat) (p : Nat → Bool) : (List.range (n + 1)).any p = ((List.range n).any p || p n) := by
  rw [List.range_succ, List.any_append]
  simp
/-- of ten octets something comes, just if somebody is ready -/
theorem nextQ_any {W : Int} {F cap : Nat} {q : List Fl} (hc : 10 ≤ cap) : (nextQ W F cap q).isSome = q.any (rdy W) := by
  cases h : nextQ W F cap q with
  | none =>
    have := (nextQ_none hc).1 h
    exact (List.any_eq_false.2 fun g hg => by simp [this g hg]).symm
  | some x =>
    cases ha : q.any (rdy W) with
    | true => rfl
    | false =>
      have := (nextQ_none (F := F) (W := W) hc).2 (fun g hg => by
        have := List.any_eq_false.1 ha g hg
        simpa using this)
      rw [this] at h
      cases h
end Go.Sch
