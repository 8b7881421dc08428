/- Stage 10: fields changed about: plain mathematics; nothing of the program. -/
import Derived.Test.YtilabahcngjflaaDoorJiX
namespace Go.Fie
open Go.Tbl
set_option linter.unusedVariables false
set_option linter.unusedSimpArgs false
def isC (f : Fld) : Bool := decide (f.n = nCL)
def good (f : Fld) : Bool := okV f.v && okN f.n && !conn f && (!isC f || okL f.v)
theorem step_seen (a : Bool) (g : Sn) (f : Fld) (h : has g nStatus = true) : step1 [nStatus] a g f = bif okV f.v then addO g f else none := by
  unfold step1
  cases okV f.v
  · rfl
  simp only [cond_true]
  cases hp : a && psd f
  · rfl
  simp only [cond_true]
  have hpf : psd f = true := by cases a <;> simp_all
  have hO : addO g f = none := by
    cases ho : addO g f with
    | none => rfl
    | some g' => rw [(addO_ok ho).2.2] at hpf; cases hpf
  rw [hO]
  unfold addP
  cases hm : mem [nStatus] f.n
  · rfl
  · have := mem_iff.1 hm
    rw [List.mem_singleton] at this
    rw [this, h]
    rfl
theorem step_good (a : Bool) (g : Sn) (f : Fld) (h : has g nStatus = true) (hc : isC f = false) : step1 [nStatus] a g f = bif good f then some g else none := by
  rw [step_seen a g f h]
  unfold good addO
  have hc2 : decide (f.n = nCL) = false := hc
  rw [hc, hc2]
  cases okV f.v <;> cases okN f.n <;> cases conn f <;> rfl
theorem step_C (a : Bool) (g : Sn) (f : Fld) (h : has g nStatus = true) (h0 : has g nCL = false) (hc : isC f = true) : step1 [nStatus] a g f = bif good f then some (upd g nCL f) else none := by
  rw [step_seen a g f h]
  unfold good addO addL
  have hc2 : decide (f.n = nCL) = true := hc
  rw [hc, hc2, h0]
  cases okV f.v <;> cases okN f.n <;> cases conn f <;> cases okL f.v <;> rfl
theorem look_noC : ∀ (l : List Fld) (a : Bool) (g : Sn), has g nStatus = true → l.filter isC = [] → lookF [nStatus] a g l = bif l.all good then some g else none
  | [], a, g, _, _ => rfl
  | f :: r, a, g, h, h0 => by
    have hf : isC f = false := by
      cases hc : isC f
      · rfl
      · rw [List.filter_cons_of_pos (by exact hc)] at h0; cases h0
    rw [List.filter_cons_of_neg (by simp [hf])] at h0
    rw [lookF, step_good a g f h hf, List.all_cons]
    cases good f
    · rfl
    · simp only [cond_true, Bool.true_and]
      exact look_noC r _ g h h0
def putC (g : Sn) : Option Fld → Sn
  | some f => upd g nCL f
  | none => g
theorem look_oneC : ∀ (l : List Fld) (a : Bool) (g : Sn), has g nStatus = true → has g nCL = false → (l.filter isC).length ≤ 1 → lookF [nStatus] a g l = bif l.all good then some (putC g (l.filter isC).head?) else none
  | [], a, g, _, _, _ => rfl
  | f :: r, a, g, h, h0, h1 => by
    cases hc : isC f
    · rw [List.filter_cons_of_neg (by simp [hc])] at h1 ⊢
      rw [lookF, step_good a g f h hc, List.all_cons]
      cases good f
      · rfl
      · simp only [cond_true, Bool.true_and]
        exact look_oneC r _ g h h0 h1
    · rw [List.filter_cons_of_pos (by exact hc)] at h1 ⊢
      have hr : r.filter isC = [] := List.eq_nil_of_length_eq_zero (by simp at h1 ⊢; exact h1)
      have hs : has (upd g nCL f) nStatus = true := by rw [has_upd, h, Bool.or_true]
      rw [lookF, step_C a g f h h0 hc, List.all_cons]
      cases good f
      · rfl
      · simp only [cond_true, Bool.true_and]
        rw [look_noC r _ _ hs hr]
        rfl
theorem resp_perm {l l' : List Fld} (h : l.Perm l') (hc : (l.filter isC).length ≤ 1) : response (top2 ++ l) = response (top2 ++ l') := by
  have hp := h.filter isC
  have hs : has gTop2 nStatus = true := by decide +kernel
  have e : lookF [nStatus] true none0 (top2 ++ l) = lookF [nStatus] true none0 (top2 ++ l') := by
    rw [look_app, look_app, look_top2]
    simp only [Option.bind_some]
    rw [look_oneC l _ gTop2 hs top2_cl hc, look_oneC l' _ gTop2 hs top2_cl (by rw [← hp.length_eq]; exact hc), h.all_eq]
    have : (l.filter isC).head? = (l'.filter isC).head? := by
      cases hl : l.filter isC with
      | nil => rw [hl] at hp; rw [List.perm_nil.1 hp.symm]
      | cons x r =>
        have hr : r = [] := by rw [hl] at hc; exact List.eq_nil_of_length_eq_zero (by simpa using hc)
        subst hr
        rw [hl] at hp
        rw [List.perm_singleton.1 hp.symm]
    rw [this]
  unfold response
  rw [e]
theorem cntC_snoc (l : List Fld) (f : Fld) : ((l ++ [f]).filter isC).length = (l.filter isC).length + (bif isC f then 1 else 0) := by
  rw [List.filter_append, List.length_append]
  cases h : isC f
  · rw [List.filter_cons_of_neg (by simp [h])]; rfl
  · rw [List.filter_cons_of_pos (by exact h)]; rfl
/-- two fields changed about -/
def turn (l : List Fld) (i k : Nat) (x y : Fld) : List Fld := (l.set i x).set k y
theorem turn_perm {l : List Fld} {i k : Nat} {x y : Fld} (hx : l[k]? = some x) (hy : l[i]? = some y) : (turn l i k x y).Perm l := by
  obtain ⟨hk, rfl⟩ := List.getElem?_eq_some_iff.1 hx
  obtain ⟨hi, rfl⟩ := List.getElem?_eq_some_iff.1 hy
  exact List.set_set_perm hi hk
theorem turn_top {l : List Fld} {i k : Nat} {x y : Fld} : turn (top2 ++ l) (1 + i) (1 + k) x y = top2 ++ turn l i k x y := by
  unfold turn top2
  rw [Nat.add_comm 1 i, Nat.add_comm 1 k]
  rfl
end Go.Fie
