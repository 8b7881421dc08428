/- Stage 10: lengths: plain mathematics; nothing of the program. -/
import Derived.Test.YtilabahcngjflaaDoorJiC
namespace Go.Fie
open Go.Tbl
set_option linter.unusedVariables false
set_option linter.unusedSimpArgs false

def dch (n : Nat) : UInt8 := UInt8.ofNat (48 + n % 10)
def digs10 (n : Nat) : List UInt8 := if h : n < 10 then [dch n] else digs10 (n / 10) ++ [dch n]
termination_by n
decreasing_by omega
def zd (n : Nat) : List UInt8 := if n = 0 then [] else digs10 n
theorem digs10_step (n : Nat) : digs10 n = zd (n / 10) ++ [dch n] := by
  rw [digs10]
  unfold zd
  by_cases h : n < 10
  · rw [dif_pos h, if_pos (by omega)]; rfl
  · rw [dif_neg h, if_neg (by omega)]
theorem zd_step {n : Nat} (h : n ≠ 0) : zd n = zd (n / 10) ++ [dch n] := by
  rw [show zd n = digs10 n by unfold zd; rw [if_neg h], digs10_step]
theorem digs10_pos (n : Nat) : 1 ≤ (digs10 n).length := by rw [digs10_step]; simp
theorem zd_zero {n : Nat} : (zd n).length = 0 ↔ n = 0 := by
  unfold zd
  by_cases h : n = 0
  · simp [h]
  · rw [if_neg h]
    have := digs10_pos n
    omega
theorem digs10_len : ∀ (k n : Nat), n < 10 ^ (k + 1) → (digs10 n).length ≤ k + 1
  | 0, n, h => by rw [digs10, dif_pos (by simpa using h)]; simp
  | k + 1, n, h => by
    rw [digs10]
    by_cases h10 : n < 10
    · rw [dif_pos h10]; simp
    · rw [dif_neg h10, List.length_append]
      have := digs10_len k (n / 10) (by rw [Nat.pow_succ] at h; omega)
      simp
      omega
theorem dch_toNat (n : Nat) : (dch n).toNat = 48 + n % 10 := by
  unfold dch
  simp
  omega
theorem dch_dg (n : Nat) : dg (dch n) = true := by
  unfold dg dgN
  rw [dch_toNat]
  simp
  omega
theorem digs10_dg (n : Nat) : (digs10 n).all dg = true := by
  induction n using Nat.strongRecOn with
  | _ n ih =>
    rw [digs10]
    by_cases h : n < 10
    · rw [dif_pos h]; simp [dch_dg]
    · rw [dif_neg h, List.all_append, ih (n / 10) (by omega)]
      simp [dch_dg]
theorem decFrom_app : ∀ (l r : List UInt8) (a : Nat), Lib.decFrom a (l ++ r) = (Lib.decFrom a l).bind fun b => Lib.decFrom b r
  | [], r, a => rfl
  | x :: l, r, a => by
    rw [List.cons_append, Lib.decFrom, Lib.decFrom]
    cases Lib.digitVal x with
    | none => rfl
    | some d => exact decFrom_app l r _
theorem digit_dch (n : Nat) : Lib.digitVal (dch n) = some (n % 10) := by
  unfold Lib.digitVal
  rw [dch_toNat, if_pos (by omega)]
  congr 1
  omega
theorem decFrom_digs10 (n : Nat) : Lib.decFrom 0 (digs10 n) = some n := by
  induction n using Nat.strongRecOn with
  | _ n ih =>
    rw [digs10]
    by_cases h : n < 10
    · rw [dif_pos h, Lib.decFrom, digit_dch]
      simp only [Lib.decFrom]
      congr 1
      omega
    · rw [dif_neg h, decFrom_app, ih (n / 10) (by omega)]
      simp only [Option.bind_some, Lib.decFrom, digit_dch]
      congr 1
      omega
theorem decFrom_noughts (z : Nat) (l : List UInt8) : Lib.decFrom 0 (List.replicate z 48 ++ l) = Lib.decFrom 0 l := by
  induction z with
  | zero => rfl
  | succ z ih =>
    rw [List.replicate_succ, List.cons_append, Lib.decFrom, show Lib.digitVal 48 = some 0 by decide]
    exact ih
/-- a number's digits, noughts ahead -/
def dgt (n z : Nat) : ByteArray := ⟨(List.replicate z 48 ++ digs10 n).toArray⟩
theorem dgt_list (n z : Nat) : (dgt n z).data.toList = List.replicate z 48 ++ digs10 n := by simp [dgt]
theorem dgt_size {n z : Nat} (hn : n < 1000000000) (hz : z ≤ 3) : 1 ≤ (dgt n z).size ∧ (dgt n z).size ≤ 12 := by
  have h1 := digs10_len 8 n hn
  have h2 := digs10_pos n
  rw [Lib.size_eq, dgt_list, List.length_append, List.length_replicate]
  omega
theorem dgt_digs (n z : Nat) : digs (dgt n z) = true := by
  unfold digs
  rw [dgt_list, List.all_append, digs10_dg, Bool.and_true]
  rw [List.all_eq_true]
  intro x hx
  rw [List.eq_of_mem_replicate hx]
  decide
theorem dgt_okL {n z : Nat} (hn : n < 1000000000) (hz : z ≤ 3) : okL (dgt n z) = true := by
  obtain ⟨h1, h2⟩ := dgt_size hn hz
  unfold okL
  rw [dgt_digs, decide_eq_true (show (dgt n z).size ≠ 0 by omega), decide_eq_true (show (dgt n z).size ≤ 15 by omega)]
  rfl
theorem dgt_num (n z : Nat) : numV (dgt n z) = n := by
  unfold numV
  rw [dgt_list, decFrom_noughts, decFrom_digs10]
  rfl
theorem digs_okV {s : ByteArray} (h : digs s = true) : okV s = true := by
  have hd : ∀ x ∈ s.data.toList, 48 ≤ x.toNat ∧ x.toNat ≤ 57 := by
    intro x hx
    have := List.all_eq_true.1 h x hx
    simpa [dg, dgN] using this
  have hv : s.data.toList.all vb = true := by
    rw [List.all_eq_true]
    intro x hx
    have := hd x hx
    simp [vb, vbN]
    omega
  unfold okV
  rw [hv, Bool.true_and]
  by_cases hz : s.size = 0
  · rw [decide_eq_true hz]; rfl
  · have hb : ∀ k, k < s.size → bl (s.data.toList.getD k 0) = false := by
      intro k hk
      have hk2 : k < s.data.toList.length := by rw [← Lib.size_eq]; exact hk
      have hm : s.data.toList.getD k 0 ∈ s.data.toList := by
        rw [List.getD_eq_getElem?_getD, List.getElem?_eq_getElem hk2]
        exact List.getElem_mem _
      have h9 := hd _ hm
      generalize s.data.toList.getD k 0 = x at h9 ⊢
      unfold bl blN
      rw [decide_eq_false (show ¬ x.toNat = 32 by omega), decide_eq_false (show ¬ x.toNat = 9 by omega)]
      rfl
    rw [hb 0 (by omega), hb (s.size - 1) (by omega)]
    simp

def top2 : List Fld := [⟨nStatus, n200, false⟩]
def gTop2 : Sn := upd none0 nStatus ⟨nStatus, n200, false⟩
theorem look_top2 : lookF [nStatus] true none0 top2 = some gTop2 := by
  have v1 : okV n200 = true := by decide +kernel
  have p1 : psd ⟨nStatus, n200, false⟩ = true := by decide +kernel
  have m1 : mem [nStatus] nStatus = true := by decide +kernel
  have h0 : ∀ k, has none0 k = false := fun _ => rfl
  simp only [top2, lookF, step1, v1, p1, addP, m1, h0, Bool.and_true, Bool.true_and, Bool.not_false, cond_true]
  rfl
theorem cl_step (a : Bool) (g : Sn) (t : ByteArray) (h : okL t = true) : step1 [nStatus] a g ⟨nCL, t, false⟩ = bif (!has g nCL || decide (val g nCL = t)) then some (upd g nCL ⟨nCL, t, false⟩) else none := by
  have hd : digs t = true := by unfold okL at h; simp only [Bool.and_eq_true] at h; exact h.2
  have v1 := digs_okV hd
  have p1 : psd ⟨nCL, t, false⟩ = false := by
    cases hp : psd ⟨nCL, t, false⟩ with
    | false => rfl
    | true =>
      obtain ⟨r, hr⟩ := (psd_iff _).1 hp
      have h2 : nCL.data.toList = 58 :: r := hr
      cases h2
  have n1 : okN nCL = true := by decide +kernel
  have c1 : conn ⟨nCL, t, false⟩ = false := by
    have f1 : mem five nCL = false := by decide +kernel
    have f2 : decide (nCL = nTe) = false := by decide +kernel
    show (mem five nCL || (decide (nCL = nTe) && decide (t ≠ nTrailers))) = false
    rw [f1, f2]; rfl
  have l1 : decide (nCL = nCL) = true := by simp
  simp only [step1, v1, p1, addO, n1, c1, decide_true, addL, h, Bool.and_false, Bool.not_false, Bool.and_self, Bool.true_and, cond_true, cond_false]
theorem must_2 {g : Sn} (h : g nStatus = some ⟨nStatus, n200, false⟩) : mustS g = true := by
  unfold mustS val
  rw [h]
  decide +kernel
theorem msg_2 {g : Sn} (h1 : g nStatus = some ⟨nStatus, n200, false⟩) (h2 : g nMethod = none) (h3 : g nScheme = none) (h4 : g nAuth = none) (h5 : g nPath = none) (t : ByteArray) (h6 : g nCL = some ⟨nCL, t, false⟩) : msg g = ⟨nNone, nNone, nNone, nNone, 200, (numV t : Int)⟩ := by
  have e : numV n200 = 200 := by decide +kernel
  simp only [msg, val, numb, h1, h2, h3, h4, h5, h6, e]
  rfl
def gLen (t : ByteArray) : Sn := upd gTop2 nCL ⟨nCL, t, false⟩
theorem gLen_at (t : ByteArray) : gLen t nStatus = some ⟨nStatus, n200, false⟩ ∧ gLen t nMethod = none ∧ gLen t nScheme = none ∧ gLen t nAuth = none ∧ gLen t nPath = none ∧ gLen t nCL = some ⟨nCL, t, false⟩ := by
  have e1 : nStatus ≠ nCL := by decide +kernel
  have e2 : nMethod ≠ nCL := by decide +kernel
  have e3 : nScheme ≠ nCL := by decide +kernel
  have e4 : nAuth ≠ nCL := by decide +kernel
  have e5 : nPath ≠ nCL := by decide +kernel
  have f2 : nMethod ≠ nStatus := by decide +kernel
  have f3 : nScheme ≠ nStatus := by decide +kernel
  have f4 : nAuth ≠ nStatus := by decide +kernel
  have f5 : nPath ≠ nStatus := by decide +kernel
  refine ⟨?_, ?_, ?_, ?_, ?_, ?_⟩ <;> simp [gLen, gTop2, upd, none0, e1, e2, e3, e4, e5, f2, f3, f4, f5]
theorem top2_cl : has gTop2 nCL = false := by decide +kernel
/-- one length -/
theorem resp_len (t : ByteArray) (h : okL t = true) : response (top2 ++ [⟨nCL, t, false⟩]) = some ⟨nNone, nNone, nNone, nNone, 200, (numV t : Int)⟩ := by
  obtain ⟨a1, a2, a3, a4, a5, a6⟩ := gLen_at t
  have hl : lookF [nStatus] true none0 (top2 ++ [⟨nCL, t, false⟩]) = some (gLen t) := by
    rw [look_app, look_top2]
    simp only [Option.bind_some]
    rw [lookF, cl_step _ _ _ h, top2_cl]
    rfl
  unfold response
  rw [hl]
  simp only [must_2 a1, cond_true, msg_2 a1 a2 a3 a4 a5 t a6]
/-- two lengths, side by side -/
theorem resp_two (t u : ByteArray) (h : okL t = true) (h' : okL u = true) : (response (top2 ++ [⟨nCL, t, false⟩, ⟨nCL, u, false⟩])).isSome = decide (t = u) := by
  have hv : val (gLen t) nCL = t := by unfold val; rw [(gLen_at t).2.2.2.2.2]
  have hh : has (gLen t) nCL = true := by unfold has; rw [(gLen_at t).2.2.2.2.2]; rfl
  have hl : lookF [nStatus] true none0 (top2 ++ [⟨nCL, t, false⟩, ⟨nCL, u, false⟩]) = bif decide (t = u) then some (upd (gLen t) nCL ⟨nCL, u, false⟩) else none := by
    rw [look_app, look_top2]
    simp only [Option.bind_some]
    rw [lookF, cl_step _ _ _ h, top2_cl]
    simp only [Bool.not_false, Bool.true_or, cond_true]
    rw [lookF, show upd gTop2 nCL ⟨nCL, t, false⟩ = gLen t from rfl, cl_step _ _ _ h', hh, hv]
    simp only [Bool.not_true, Bool.false_or]
    cases decide (t = u) <;> rfl
  unfold response
  rw [hl]
  by_cases e : t = u
  · have e1 : nStatus ≠ nCL := by decide +kernel
    have hs : (upd (gLen t) nCL ⟨nCL, u, false⟩) nStatus = some ⟨nStatus, n200, false⟩ := by simp [upd, e1, (gLen_at t).1]
    simp only [decide_eq_true e, cond_true, must_2 hs]
    rfl
  · simp only [decide_eq_false e, cond_false]
    rfl
/-- the same one twice, another field between -/
theorem resp_again (t : ByteArray) (h : okL t = true) : response (top2 ++ [⟨nCL, t, false⟩, ⟨nX, nY, false⟩, ⟨nCL, t, false⟩]) = some ⟨nNone, nNone, nNone, nNone, 200, (numV t : Int)⟩ := by
  obtain ⟨a1, a2, a3, a4, a5, a6⟩ := gLen_at t
  have hv : val (gLen t) nCL = t := by unfold val; rw [a6]
  have hh : has (gLen t) nCL = true := by unfold has; rw [a6]; rfl
  have px : psd ⟨nX, nY, false⟩ = false := by decide +kernel
  have hx : ∀ a, step1 [nStatus] a (gLen t) ⟨nX, nY, false⟩ = some (gLen t) := fun a => by
    rw [step_plain _ _ _ _ px (by decide +kernel), show okO ⟨nX, nY, false⟩ = true by decide +kernel]
    rfl
  have hl : lookF [nStatus] true none0 (top2 ++ [⟨nCL, t, false⟩, ⟨nX, nY, false⟩, ⟨nCL, t, false⟩]) = some (upd (gLen t) nCL ⟨nCL, t, false⟩) := by
    rw [look_app, look_top2]
    simp only [Option.bind_some]
    rw [lookF, cl_step _ _ _ h, top2_cl]
    simp only [Bool.not_false, Bool.true_or, cond_true]
    rw [lookF, show upd gTop2 nCL ⟨nCL, t, false⟩ = gLen t from rfl, hx]
    simp only
    rw [lookF, cl_step _ _ _ h, hh, hv]
    simp only [Bool.not_true, Bool.false_or, decide_true, cond_true]
    rfl
  have e1 : nStatus ≠ nCL := by decide +kernel
  have e2 : nMethod ≠ nCL := by decide +kernel
  have e3 : nScheme ≠ nCL := by decide +kernel
  have e4 : nAuth ≠ nCL := by decide +kernel
  have e5 : nPath ≠ nCL := by decide +kernel
  have b1 : (upd (gLen t) nCL ⟨nCL, t, false⟩) nStatus = some ⟨nStatus, n200, false⟩ := by simp [upd, e1, a1]
  unfold response
  rw [hl]
  simp only [must_2 b1, cond_true]
  rw [msg_2 b1 (by simp [upd, e2, a2]) (by simp [upd, e3, a3]) (by simp [upd, e4, a4]) (by simp [upd, e5, a5]) t (by simp [upd])]
end Go.Fie
