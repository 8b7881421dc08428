/- Stage 9, pure: what a frame does to a stream, from the chapter's tables. -/
import Derived.Test.YtdpheliekdgnhaaBase
namespace Go.Sm
set_option linter.unusedVariables false
set_option linter.unusedSimpArgs false
def i64i (z : Int) : Prop := -9223372036854775808 ≤ z ∧ z ≤ 9223372036854775807
abbrev Ans := Int × Int × Int
def takesV (s : Int) : Ans := (s, 0, 0)
def ignoresV (s : Int) : Ans := (s, 1, 0)
def resetsV : Ans := (5, 2, 5)
def breaksV (s c : Int) : Ans := (s, 3, c)
def refusesV (s : Int) : Ans := (s, 4, 2)
def getMsgV (s : Int) (fin : Bool) : Ans :=
  if s = 0 ∨ s = 1 then takesV (bif fin then 3 else 1) else if s = 2 then takesV (bif fin then 4 else 2) else if s = 4 then breaksV s 5 else if s = 5 then ignoresV s else resetsV
def getResetV (s : Int) : Ans := if s = 0 then breaksV s 1 else if s = 1 ∨ s = 2 ∨ s = 3 then takesV 6 else ignoresV s
def getUpdV (s : Int) : Ans := if s = 0 then breaksV s 1 else if s = 1 ∨ s = 2 ∨ s = 3 then takesV s else if s = 6 then resetsV else ignoresV s
def getV (s k : Int) (fin : Bool) : Ans :=
  if k = 1 then getMsgV s fin else if k = 0 then (if s = 0 then breaksV s 1 else getMsgV s fin) else if k = 3 then getResetV s else if k = 8 then getUpdV s else if k = 5 then breaksV s 1 else takesV s
def sendMsgV (s : Int) (fin : Bool) : Ans :=
  if s = 0 ∨ s = 1 then takesV (bif fin then 2 else 1) else if s = 3 then takesV (bif fin then 4 else 3) else refusesV s
def sendLivV (s n : Int) : Ans := if s = 1 ∨ s = 2 ∨ s = 3 then takesV n else refusesV s
def sendV (s k : Int) (fin : Bool) : Ans :=
  if k = 1 then sendMsgV s fin else if k = 0 then (if s = 0 then refusesV s else sendMsgV s fin) else if k = 3 then sendLivV s 5 else if k = 8 then sendLivV s s else if k = 5 then refusesV s else takesV s
def isStV (s : Int) : Bool := decide (0 ≤ s ∧ s ≤ 6)
def stepV (s : Int) (b : Bool) (k : Int) (fin : Bool) : Ans := if isStV s = false then refusesV s else bif b then sendV s k fin else getV s k fin
theorem seven {s : Int} (h : 0 ≤ s ∧ s ≤ 6) : s = 0 ∨ s = 1 ∨ s = 2 ∨ s = 3 ∨ s = 4 ∨ s = 5 ∨ s = 6 := by omega
theorem isSt_iff {s : Int} {b : Bool} (h : isStV s = b) : (b = true ∧ 0 ≤ s ∧ s ≤ 6) ∨ (b = false ∧ s < 0) ∨ (b = false ∧ ¬ s < 0 ∧ 6 < s) := by
  subst h
  unfold isStV
  by_cases h1 : s < 0
  · right; left; exact ⟨by rw [decide_eq_false_iff_not]; omega, h1⟩
  · by_cases h2 : 6 < s
    · right; right; exact ⟨by rw [decide_eq_false_iff_not]; omega, h1, h2⟩
    · left; exact ⟨by rw [decide_eq_true_iff]; omega, by omega, by omega⟩
end Go.Sm
