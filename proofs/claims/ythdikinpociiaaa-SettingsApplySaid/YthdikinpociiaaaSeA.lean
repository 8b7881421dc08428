/- Stage 8: settings: the pure side. -/
namespace Go.Set8
structure Va where
  tab : Int
  push : Bool
  str : Int
  win : Int
  frm : Int
  lst : Int
deriving DecidableEq
structure Ga where
  is : Bool
  code : Int
deriving DecidableEq
def wrong (a : Int) (n : Nat) (srv : Bool) : Int :=
  if a = 2 then (if (if srv then 0 else 1) < n then 1 else 0)
  else if a = 4 then (if 2147483647 < n then 3 else 0)
  else if a = 5 then (if n < 16384 ∨ 16777215 < n then 1 else 0)
  else 0
def withV (v : Va) (a : Int) (n : Nat) : Va :=
  if a = 1 then { v with tab := n }
  else if a = 2 then { v with push := decide (n = 1) }
  else if a = 3 then { v with str := n }
  else if a = 4 then { v with win := n }
  else if a = 5 then { v with frm := n }
  else if a = 6 then { v with lst := n }
  else v
def applyV (v : Va) (s : Int × Nat) (srv : Bool) : Va × Ga :=
  if wrong s.1 s.2 srv = 0 then (withV v s.1 s.2, ⟨false, 0⟩) else (v, ⟨true, wrong s.1 s.2 srv⟩)
def allW (v : Va) (srv : Bool) : Va → List (Int × Nat) → Va × Ga
  | n, [] => (n, ⟨false, 0⟩)
  | n, s :: l => if (applyV n s srv).2.is then (v, (applyV n s srv).2) else allW v srv (applyV n s srv).1 l
def allV (v : Va) (l : List (Int × Nat)) (srv : Bool) : Va × Ga := allW v srv v l
def pushN (b : Bool) : Int := if b then 1 else 0
def num (v : Va) (k : Nat) : Int :=
  match k with
  | 1 => v.tab
  | 2 => pushN v.push
  | 3 => v.str
  | 4 => v.win
  | 5 => v.frm
  | 6 => v.lst
  | _ => 0
def can (n : Int) : Bool := decide (0 ≤ n ∧ n ≤ 4294967295)
def tell1 (k : Nat) (n o : Int) : List (Int × Nat) := if n ≠ o ∧ can n = true then [((k : Int), n.toNat)] else []
def tellK (was is : Va) : Nat → List (Int × Nat)
  | 0 => []
  | k + 1 => tellK was is k ++ tell1 k (num is k) (num was k)
def tellV (was is : Va) : List (Int × Nat) := tellK was is 7

theorem wrong_ways {a : Int} {n : Nat} {srv : Bool} {c : Int} (h : wrong a n srv = c) :
    (a = 2 ∧ 1 < n ∧ c = 1) ∨ (a = 2 ∧ n = 1 ∧ srv = true ∧ c = 1) ∨ (a = 2 ∧ n = 1 ∧ srv = false ∧ c = 0) ∨ (a = 2 ∧ n = 0 ∧ c = 0) ∨
    (a = 4 ∧ 2147483647 < n ∧ c = 3) ∨ (a = 4 ∧ n ≤ 2147483647 ∧ c = 0) ∨ (a = 5 ∧ n < 16384 ∧ c = 1) ∨ (a = 5 ∧ 16777215 < n ∧ c = 1) ∨ (a = 5 ∧ 16384 ≤ n ∧ n ≤ 16777215 ∧ c = 0) ∨
    (a ≠ 2 ∧ a ≠ 4 ∧ a ≠ 5 ∧ c = 0) := by
  unfold wrong at h
  cases srv <;> simp at h ⊢ <;> (repeat' split at h) <;> omega
theorem with_ways {v : Va} {a : Int} {n : Nat} {x : Va} (h : withV v a n = x) :
    (a = 1 ∧ x = { v with tab := n }) ∨ (a = 2 ∧ n = 1 ∧ x = { v with push := true }) ∨ (a = 2 ∧ n ≠ 1 ∧ x = { v with push := false }) ∨ (a = 3 ∧ x = { v with str := n }) ∨ (a = 4 ∧ x = { v with win := n }) ∨ (a = 5 ∧ x = { v with frm := n }) ∨ (a = 6 ∧ x = { v with lst := n }) ∨ (a ≠ 1 ∧ a ≠ 2 ∧ a ≠ 3 ∧ a ≠ 4 ∧ a ≠ 5 ∧ a ≠ 6 ∧ x = v) := by
  unfold withV at h
  by_cases h1 : a = 1
  · rw [if_pos h1] at h; exact .inl ⟨h1, h.symm⟩
  by_cases h2 : a = 2
  · rw [if_neg h1, if_pos h2] at h
    by_cases hn : n = 1
    · exact .inr (.inl ⟨h2, hn, by rw [← h]; simp [hn]⟩)
    · exact .inr (.inr (.inl ⟨h2, hn, by rw [← h]; simp [hn]⟩))
  by_cases h3 : a = 3
  · rw [if_neg h1, if_neg h2, if_pos h3] at h; exact .inr (.inr (.inr (.inl ⟨h3, h.symm⟩)))
  by_cases h4 : a = 4
  · rw [if_neg h1, if_neg h2, if_neg h3, if_pos h4] at h; exact .inr (.inr (.inr (.inr (.inl ⟨h4, h.symm⟩))))
  by_cases h5 : a = 5
  · rw [if_neg h1, if_neg h2, if_neg h3, if_neg h4, if_pos h5] at h; exact .inr (.inr (.inr (.inr (.inr (.inl ⟨h5, h.symm⟩)))))
  by_cases h6 : a = 6
  · rw [if_neg h1, if_neg h2, if_neg h3, if_neg h4, if_neg h5, if_pos h6] at h; exact .inr (.inr (.inr (.inr (.inr (.inr (.inl ⟨h6, h.symm⟩))))))
  · rw [if_neg h1, if_neg h2, if_neg h3, if_neg h4, if_neg h5, if_neg h6] at h; exact .inr (.inr (.inr (.inr (.inr (.inr (.inr ⟨h1, h2, h3, h4, h5, h6, h.symm⟩))))))
theorem wrong_code (a : Int) (n : Nat) (srv : Bool) : wrong a n srv = 0 ∨ wrong a n srv = 1 ∨ wrong a n srv = 3 := by
  rcases wrong_ways (a := a) (n := n) (srv := srv) rfl with h | h | h | h | h | h | h | h | h | h <;> omega
theorem apply_ways {v : Va} {s : Int × Nat} {srv : Bool} {x : Va} {g : Ga} (h : applyV v s srv = (x, g)) :
    (wrong s.1 s.2 srv = 0 ∧ withV v s.1 s.2 = x ∧ g = ⟨false, 0⟩) ∨ (wrong s.1 s.2 srv ≠ 0 ∧ x = v ∧ g = ⟨true, wrong s.1 s.2 srv⟩) := by
  unfold applyV at h
  by_cases hw : wrong s.1 s.2 srv = 0
  · rw [if_pos hw, Prod.mk.injEq] at h; exact .inl ⟨hw, h.1, h.2.symm⟩
  · rw [if_neg hw, Prod.mk.injEq] at h; exact .inr ⟨hw, h.1.symm, h.2.symm⟩
theorem apply_is {v : Va} {s : Int × Nat} {srv : Bool} {x : Va} {g : Ga} (h : applyV v s srv = (x, g)) : (g.is = false ∧ g = ⟨false, 0⟩) ∨ (g.is = true ∧ x = v ∧ g.code ≠ 0) := by
  rcases apply_ways h with ⟨_, _, rfl⟩ | ⟨h1, h2, rfl⟩
  · exact .inl ⟨rfl, rfl⟩
  · exact .inr ⟨rfl, h2, h1⟩
theorem allW_step {v : Va} {srv : Bool} {n x : Va} {s : Int × Nat} {g : Ga} {l : List (Int × Nat)} (h : applyV n s srv = (x, g)) : allW v srv n (s :: l) = if g.is then (v, g) else allW v srv x l := by
  rw [allW, h]
theorem tellK_len (was is : Va) : ∀ k, (tellK was is k).length ≤ k
  | 0 => Nat.le_refl _
  | k + 1 => by
    have := tellK_len was is k
    rw [tellK, List.length_append]
    have : (tell1 k (num is k) (num was k)).length ≤ 1 := by unfold tell1; split <;> simp
    omega
theorem tellK_one (was is : Va) : tellK was is 1 = [] := by
  show [] ++ tell1 0 0 0 = []
  unfold tell1
  rw [if_neg (by simp)]
  rfl
end Go.Set8
