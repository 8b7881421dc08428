/- Stage 11: a scheduler: plain mathematics; nothing of the program. -/
import Derived.Test.YtbjjphpkpmikjaaBase
namespace Go.Sch
set_option linter.unusedVariables false
set_option linter.unusedSimpArgs false
/-- a stream: its number, its window, what waits, has it an end -/
structure Fl where
  id : Nat
  win : Int
  wait : Nat
  en : Bool
def rdy (W : Int) (f : Fl) : Bool := (decide (0 < f.wait) && decide (0 < f.win) && decide (0 < W)) || (decide (f.wait = 0) && f.en)
/-- the first one that is ready, with those ahead and behind -/
def firstR (W : Int) : List Fl → Option (List Fl × Fl × List Fl)
  | [] => none
  | f :: r => if rdy W f then some ([], f, r) else match firstR W r with | some (a, g, b) => some (f :: a, g, b) | none => none
/-- how many octets -/
def octs (W : Int) (F cap : Nat) (f : Fl) : Nat := if f.wait = 0 then 0 else min (min f.wait f.win.toNat) (min (min W.toNat F) (cap - 9))
/-- what comes of a queue: the stream, its octets, its end; the queue behind -/
def nextQ (W : Int) (F cap : Nat) (q : List Fl) : Option (Nat × Nat × Bool × List Fl) := match firstR W q with
  | none => none
  | some (a, f, b) => if cap < 9 ∨ (0 < f.wait ∧ cap < 10) then none else
    if f.en = true ∧ f.wait - octs W F cap f = 0 then some (f.id, octs W F cap f, true, a ++ b)
    else some (f.id, octs W F cap f, false, a ++ b ++ [⟨f.id, f.win - (octs W F cap f : Nat), f.wait - octs W F cap f, f.en⟩])
theorem firstR_some {W : Int} : ∀ {q a b : List Fl} {f : Fl}, firstR W q = some (a, f, b) → q = a ++ f :: b ∧ rdy W f = true ∧ ∀ g ∈ a, rdy W g = false
  | [], a, b, f, h => by cases h
  | g :: r, a, b, f, h => by
    rw [firstR] at h
    cases hg : rdy W g
    · rw [hg] at h
      simp only [Bool.false_eq_true, if_false] at h
      cases hr : firstR W r with
      | none => rw [hr] at h; cases h
      | some x =>
        obtain ⟨a', g', b'⟩ := x
        rw [hr] at h
        injection h with h
        injection h with h1 h2
        injection h2 with h2 h3
        subst h1 h2 h3
        obtain ⟨i1, i2, i3⟩ := firstR_some hr
        refine ⟨by rw [i1]; rfl, i2, ?_⟩
        intro x hx
        rcases List.mem_cons.1 hx with rfl | hx
        · exact hg
        · exact i3 x hx
    · rw [hg] at h
      simp only [if_true] at h
      injection h with h
      injection h with h1 h2
      injection h2 with h2 h3
      subst h1 h2 h3
      exact ⟨rfl, hg, fun x hx => by cases hx⟩
theorem firstR_none {W : Int} : ∀ {q : List Fl}, firstR W q = none → ∀ g ∈ q, rdy W g = false
  | [], _, g, hg => by cases hg
  | f :: r, h, g, hg => by
    rw [firstR] at h
    cases hf : rdy W f
    · rw [hf] at h
      simp only [Bool.false_eq_true, if_false] at h
      cases hr : firstR W r with
      | some x => rw [hr] at h; obtain ⟨_, _, _⟩ := x; cases h
      | none =>
        rcases List.mem_cons.1 hg with rfl | hg
        · exact hf
        · exact firstR_none hr g hg
    · rw [hf] at h; simp at h
theorem firstR_none_iff {W : Int} {q : List Fl} : firstR W q = none ↔ ∀ g ∈ q, rdy W g = false := by
  refine ⟨firstR_none, fun h => ?_⟩
  cases hf : firstR W q with
  | none => rfl
  | some x =>
    obtain ⟨a, f, b⟩ := x
    obtain ⟨e, h2, _⟩ := firstR_some hf
    have := h f (by rw [e]; simp)
    rw [this] at h2
    cases h2
theorem firstR_head {W : Int} {f : Fl} {r : List Fl} (h : rdy W f = true) : firstR W (f :: r) = some ([], f, r) := by
  rw [firstR, h]; rfl
theorem octs_le {W : Int} {F cap : Nat} {f : Fl} : octs W F cap f ≤ f.wait := by
  unfold octs
  split <;> omega
theorem octs_F {W : Int} {F cap : Nat} {f : Fl} : octs W F cap f ≤ F := by
  unfold octs
  split <;> omega
theorem octs_win {W : Int} {F cap : Nat} {f : Fl} (h : 0 < octs W F cap f) : (octs W F cap f : Int) ≤ f.win ∧ (octs W F cap f : Int) ≤ W ∧ octs W F cap f + 9 ≤ cap := by
  unfold octs at h ⊢
  by_cases h0 : f.wait = 0
  · rw [if_pos h0] at h; omega
  · rw [if_neg h0] at h ⊢; omega
/-- a ready one that has octets gets one at least -/
theorem octs_pos {W : Int} {F cap : Nat} {f : Fl} (hr : rdy W f = true) (h : 0 < f.wait) (hF : 0 < F) (hc : 10 ≤ cap) : 0 < octs W F cap f := by
  unfold rdy at hr
  rw [show decide (f.wait = 0) = false from decide_eq_false (by omega), Bool.false_and, Bool.or_false] at hr
  simp only [Bool.and_eq_true, decide_eq_true_eq] at hr
  unfold octs
  rw [if_neg (by omega)]
  omega
/-- what comes, told once -/
theorem nextQ_some {W : Int} {F cap : Nat} {q q' : List Fl} {id n : Nat} {e : Bool} (hF : 0 < F) (h : nextQ W F cap q = some (id, n, e, q')) :
    ∃ a f b, q = a ++ f :: b ∧ rdy W f = true ∧ (∀ g ∈ a, rdy W g = false) ∧ id = f.id ∧ n ≤ f.wait ∧ n ≤ F ∧ n + 9 ≤ cap ∧ (n = 0 → f.wait = 0 ∧ e = true) ∧ (0 < n → (n : Int) ≤ f.win ∧ (n : Int) ≤ W) ∧
      ((e = true ∧ f.en = true ∧ n = f.wait ∧ q' = a ++ b) ∨ (e = false ∧ ¬ (f.en = true ∧ f.wait - n = 0) ∧ q' = a ++ b ++ [⟨f.id, f.win - (n : Nat), f.wait - n, f.en⟩])) := by
  unfold nextQ at h
  cases hf : firstR W q with
  | none => rw [hf] at h; cases h
  | some x =>
    obtain ⟨a, f, b⟩ := x
    rw [hf] at h
    simp only at h
    obtain ⟨h1, h2, h3⟩ := firstR_some hf
    by_cases hc : cap < 9 ∨ (0 < f.wait ∧ cap < 10)
    · rw [if_pos hc] at h; cases h
    rw [if_neg hc] at h
    have hpos : 0 < f.wait → 0 < octs W F cap f := fun hw => octs_pos h2 hw hF (by omega)
    have hle : octs W F cap f ≤ f.wait := octs_le
    have hz : octs W F cap f = 0 → f.wait = 0 := fun hz => by
      rcases Nat.eq_zero_or_pos f.wait with h | h
      · exact h
      · have := hpos h; omega
    have hcap : octs W F cap f + 9 ≤ cap := by
      rcases Nat.eq_zero_or_pos (octs W F cap f) with h | h
      · omega
      · exact (octs_win h).2.2
    have hen : f.wait = 0 → f.en = true := fun hw => by
      unfold rdy at h2
      rw [hw] at h2
      simpa using h2
    by_cases he : f.en = true ∧ f.wait - octs W F cap f = 0
    · rw [if_pos he] at h
      simp only [Option.some.injEq, Prod.mk.injEq] at h
      obtain ⟨rfl, rfl, rfl, rfl⟩ := h
      exact ⟨a, f, b, h1, h2, h3, rfl, hle, octs_F, hcap, fun h0 => ⟨hz h0, rfl⟩, fun h0 => ⟨(octs_win h0).1, (octs_win h0).2.1⟩, .inl ⟨rfl, he.1, by omega, rfl⟩⟩
    · rw [if_neg he] at h
      simp only [Option.some.injEq, Prod.mk.injEq] at h
      obtain ⟨rfl, rfl, rfl, rfl⟩ := h
      refine ⟨a, f, b, h1, h2, h3, rfl, hle, octs_F, hcap, fun h0 => ?_, fun h0 => ⟨(octs_win h0).1, (octs_win h0).2.1⟩, .inr ⟨rfl, he, rfl⟩⟩
      have hw := hz h0
      exact absurd ⟨hen hw, by omega⟩ he
/-- of ten octets or more none comes just if none is ready; of less than nine never -/
theorem nextQ_none {W : Int} {F cap : Nat} {q : List Fl} (hc : 10 ≤ cap) : nextQ W F cap q = none ↔ ∀ g ∈ q, rdy W g = false := by
  rw [← firstR_none_iff]
  unfold nextQ
  cases hf : firstR W q with
  | none => exact ⟨fun _ => rfl, fun _ => rfl⟩
  | some x =>
    obtain ⟨a, f, b⟩ := x
    simp only
    rw [if_neg (by omega)]
    constructor
    · intro h; split at h <;> cases h
    · intro h; cases h
theorem nextQ_few {W : Int} {F cap : Nat} {q : List Fl} (hc : cap < 9) : nextQ W F cap q = none := by
  unfold nextQ
  cases hf : firstR W q with
  | none => rfl
  | some x =>
    obtain ⟨a, f, b⟩ := x
    simp only
    rw [if_pos (.inl hc)]
end Go.Sch
