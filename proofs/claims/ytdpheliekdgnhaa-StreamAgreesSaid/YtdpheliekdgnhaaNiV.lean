/- Stage 9, pure: two ends that send what they may are never at fault. -/
import Derived.Test.YtdpheliekdgnhaaNiA
namespace Go.Sm
set_option linter.unusedVariables false
set_option linter.unusedSimpArgs false
inductive S7 where
  | idle | op | hl | hr | cl | co | ct
deriving DecidableEq
inductive Cl where
  | h | he | d | de | r | wu | pp | nt
deriving DecidableEq
inductive Q5 where
  | n | o | e | r | x
deriving DecidableEq
def S7.num : S7 → Int
  | .idle => 0 | .op => 1 | .hl => 2 | .hr => 3 | .cl => 4 | .co => 5 | .ct => 6
def cls (k : Int) (e : Bool) : Cl := if k = 1 then (bif e then .he else .h) else if k = 0 then (bif e then .de else .d) else if k = 3 then .r else if k = 8 then .wu else if k = 5 then .pp else .nt
/-- the state behind, what is to do (0 takes, 1 ignores, 2 a fault or refused) -/
def stepA : S7 → Bool → Cl → S7 × Nat
  | s, _, .nt => (s, 0)
  | .idle, true, .h => (.op, 0) | .idle, true, .he => (.hl, 0)
  | .op, true, .h => (.op, 0) | .op, true, .d => (.op, 0) | .op, true, .he => (.hl, 0) | .op, true, .de => (.hl, 0) | .op, true, .r => (.co, 0) | .op, true, .wu => (.op, 0)
  | .hl, true, .r => (.co, 0) | .hl, true, .wu => (.hl, 0)
  | .hr, true, .h => (.hr, 0) | .hr, true, .d => (.hr, 0) | .hr, true, .he => (.cl, 0) | .hr, true, .de => (.cl, 0) | .hr, true, .r => (.co, 0) | .hr, true, .wu => (.hr, 0)
  | s, true, _ => (s, 2)
  | .idle, false, .h => (.op, 0) | .idle, false, .he => (.hr, 0)
  | .op, false, .h => (.op, 0) | .op, false, .d => (.op, 0) | .op, false, .he => (.hr, 0) | .op, false, .de => (.hr, 0) | .op, false, .r => (.ct, 0) | .op, false, .wu => (.op, 0)
  | .hl, false, .h => (.hl, 0) | .hl, false, .d => (.hl, 0) | .hl, false, .he => (.cl, 0) | .hl, false, .de => (.cl, 0) | .hl, false, .r => (.ct, 0) | .hl, false, .wu => (.hl, 0)
  | .hr, false, .r => (.ct, 0) | .hr, false, .wu => (.hr, 0)
  | .cl, false, .r => (.cl, 1) | .cl, false, .wu => (.cl, 1)
  | .co, false, .h => (.co, 1) | .co, false, .d => (.co, 1) | .co, false, .he => (.co, 1) | .co, false, .de => (.co, 1) | .co, false, .r => (.co, 1) | .co, false, .wu => (.co, 1)
  | .ct, false, .r => (.ct, 1)
  | s, false, _ => (s, 2)
theorem kinds_c (k : Int) : k = 1 ∨ k = 0 ∨ k = 3 ∨ k = 8 ∨ k = 5 ∨ (¬ k = 1 ∧ ¬ k = 0 ∧ ¬ k = 3 ∧ ¬ k = 8 ∧ ¬ k = 5) := by omega
theorem step_send (s : S7) (k : Int) (e : Bool) : ((stepA s true (cls k e)).2 = 0 ∧ stepV s.num true k e = ((stepA s true (cls k e)).1.num, 0, 0)) ∨ ((stepA s true (cls k e)).2 = 2 ∧ stepV s.num true k e = (s.num, 4, 2)) := by
  rcases kinds_c k with rfl | rfl | rfl | rfl | rfl | ⟨k1, k2, k3, k4, k5⟩
  case inr.inr.inr.inr.inr =>
    have e1 : cls k e = .nt := by unfold cls; rw [if_neg k1, if_neg k2, if_neg k3, if_neg k4, if_neg k5]
    have e2 : stepV s.num true k e = (s.num, 0, 0) := by
      unfold stepV sendV
      rw [if_neg k1, if_neg k2, if_neg k3, if_neg k4, if_neg k5]
      cases s <;> rfl
    rw [e1, e2]
    cases s <;> exact .inl ⟨rfl, rfl⟩
  all_goals cases e <;> cases s <;> first | exact .inl ⟨rfl, rfl⟩ | exact .inr ⟨rfl, rfl⟩
theorem step_get (s : S7) (k : Int) (e : Bool) (h : (stepA s false (cls k e)).2 ≠ 2) : ∃ d c, (d = 0 ∨ d = 1) ∧ stepV s.num false k e = ((stepA s false (cls k e)).1.num, d, c) := by
  rcases kinds_c k with rfl | rfl | rfl | rfl | rfl | ⟨k1, k2, k3, k4, k5⟩
  case inr.inr.inr.inr.inr =>
    have e1 : cls k e = .nt := by unfold cls; rw [if_neg k1, if_neg k2, if_neg k3, if_neg k4, if_neg k5]
    have e2 : stepV s.num false k e = (s.num, 0, 0) := by
      unfold stepV getV
      rw [if_neg k1, if_neg k2, if_neg k3, if_neg k4, if_neg k5]
      cases s <;> rfl
    rw [e1, e2]
    cases s <;> exact ⟨0, 0, .inl rfl, rfl⟩
  all_goals cases e <;> cases s <;> first | exact absurd rfl h | exact ⟨0, 0, .inl rfl, rfl⟩ | exact ⟨1, 0, .inr rfl, rfl⟩
def start : S7 → Q5
  | .idle => .n | .op => .o | .hl => .o | .hr => .e | .cl => .e | .co => .x | .ct => .r
def tr : Q5 → Cl → Option Q5
  | .n, .h => some .o | .n, .he => some .e | .n, .nt => some .n
  | .o, .h => some .o | .o, .d => some .o | .o, .wu => some .o | .o, .nt => some .o | .o, .he => some .e | .o, .de => some .e | .o, .r => some .r
  | .e, .wu => some .e | .e, .nt => some .e | .e, .r => some .r
  | .r, .nt => some .r
  | .x, .pp => none | .x, _ => some .x
  | _, _ => none
def run : Q5 → List Cl → Option Q5
  | s, [] => some s
  | s, c :: q => match tr s c with
    | some s' => run s' q
    | none => none
def isN (c : Cl) : Bool := c == .nt
def compat : S7 → Q5 → S7 → Bool → Bool
  | .idle, _, b, neu => neu && (b == .idle || b == .op || b == .hl || b == .co)
  | .op, f, _, _ => f == .o || f == .x
  | .hr, f, _, _ => f == .o || f == .x
  | .hl, f, _, _ => f == .e || f == .x
  | .cl, f, _, _ => f == .e || f == .x
  | .co, f, b, _ => f == .r || f == .x || (f == .e && b == .cl)
  | .ct, _, b, _ => b == .co
/-- what s has sent and r has not got yet is q -/
def D (s : S7) (q : List Cl) (r : S7) : Prop := ∃ f, run (start r) q = some f ∧ compat s f r (q.all isN) = true
def allS : List S7 := [.idle, .op, .hl, .hr, .cl, .co, .ct]
def allC : List Cl := [.h, .he, .d, .de, .r, .wu, .pp, .nt]
def allQ : List Q5 := [.n, .o, .e, .r, .x]
def allB : List Bool := [true, false]
theorem memS (a : S7) : a ∈ allS := by cases a <;> decide
theorem memC (a : Cl) : a ∈ allC := by cases a <;> decide
theorem memQ (a : Q5) : a ∈ allQ := by cases a <;> decide
theorem memB (a : Bool) : a ∈ allB := by cases a <;> decide
theorem run_app : ∀ (q : List Cl) (s : Q5) (c : Cl), run s (q ++ [c]) = (run s q).bind fun f => tr f c
  | [], s, c => by
    show (match tr s c with | some s' => run s' [] | none => none) = tr s c
    cases tr s c <;> rfl
  | c' :: q, s, c => by
    show (match tr s c' with | some s' => run s' (q ++ [c]) | none => none) = (match tr s c' with | some s' => run s' q | none => none).bind fun f => tr f c
    cases tr s c' with
    | none => rfl
    | some s' => exact run_app q s' c
theorem run_neu : ∀ (q : List Cl) (s : Q5), q.all isN = true → run s q = some s
  | [], s, _ => rfl
  | c :: q, s, h => by
    simp only [List.all_cons, Bool.and_eq_true] at h
    have hc : c = .nt := by simpa [isN] using h.1
    subst hc
    have e : tr s .nt = some s := by cases s <;> rfl
    show (match tr s .nt with | some s' => run s' q | none => none) = some s
    rw [e]
    exact run_neu q s h.2
theorem run_r : ∀ (q : List Cl) (f : Q5), run .r q = some f → f = .r ∧ q.all isN = true
  | [], f, h => by cases h; exact ⟨rfl, rfl⟩
  | c :: q, f, h => by
    have h' : (match tr .r c with | some s' => run s' q | none => none) = some f := h
    cases c <;> simp only [tr] at h' <;> try cases h'
    obtain ⟨h1, h2⟩ := run_r q f h'
    exact ⟨h1, by simp [isN, h2]⟩
theorem run_x : ∀ (q : List Cl) (s f : Q5), run s q = some f → run .x q = some .x
  | [], s, f, h => rfl
  | c :: q, s, f, h => by
    have h' : (match tr s c with | some s' => run s' q | none => none) = some f := h
    show (match tr .x c with | some s' => run s' q | none => none) = some .x
    cases hs : tr s c with
    | none => rw [hs] at h'; cases h'
    | some s' =>
      rw [hs] at h'
      have hx : tr .x c = some .x := by cases c <;> first | rfl | (cases s <;> cases hs)
      rw [hx]
      exact run_x q s' f h'
theorem run_on : ∀ (q : List Cl) (s : Q5), s ≠ .n → run s q ≠ some .n
  | [], s, h, e => by cases e; exact h rfl
  | c :: q, s, h, e => by
    have h' : (match tr s c with | some s' => run s' q | none => none) = some .n := e
    cases hs : tr s c with
    | none => rw [hs] at h'; cases h'
    | some s' =>
      rw [hs] at h'
      refine run_on q s' ?_ h'
      rintro rfl
      cases s <;> cases c <;> first | exact absurd rfl h | cases hs
theorem run_no : ∀ (q : List Cl) (f : Q5), run .n q = some f → run .o q = some (if f = .n then .o else f)
  | [], f, h => by cases h; rfl
  | c :: q, f, h => by
    have h' : (match tr .n c with | some s' => run s' q | none => none) = some f := h
    show (match tr .o c with | some s' => run s' q | none => none) = _
    cases c <;> simp only [tr] at h' ⊢ <;> try cases h'
    · rw [h', if_neg]
      rintro rfl
      exact absurd h' (run_on q .o (by decide))
    · rw [h', if_neg]
      rintro rfl
      exact absurd h' (run_on q .e (by decide))
    · exact run_no q f h'
end Go.Sm
