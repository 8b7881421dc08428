/- Windows and credits (stage 7): numbers alone. No condition. -/
import Derived.Test.YtjafoegpbhieoaaBase
namespace Go.Win
set_option linter.unusedVariables false
structure Cr where
  left : Int
  held : Int
  freed : Int
def Cr.ok (c : Cr) : Prop := 0 ≤ c.left ∧ 0 ≤ c.held ∧ 0 ≤ c.freed ∧ 1 ≤ c.left + c.held + c.freed ∧ c.left + c.held + c.freed ≤ 2147483647
def isW (w : Int) : Bool := decide (-2147483647 ≤ w ∧ w ≤ 2147483647)
def giveV (w a : Int) : Int × Int := if isW w = false ∨ a < 1 ∨ 2147483647 < a then (0, 1) else if 2147483647 < w + a then (0, 8) else (w + a, 0)
def takeV (w n : Int) : Int × Int := if isW w = false ∨ n < 0 then (0, 1) else if 0 < n ∧ w < n then (0, 8) else (w - n, 0)
def shiftV (w was is : Int) : Int × Int := if isW w = false ∨ was < 0 ∨ 2147483647 < was ∨ is < 0 ∨ 2147483647 < is then (0, 1) else if isW (w - was + is) = false then (0, 8) else (w - was + is, 0)
def mostV (a b c d : Int) : Int := max 0 (min (min a b) (min c d))
def newC (z : Int) : Cr := ⟨max 1 (min z 2147483647), 0, 0⟩
def gotE (c : Cr) (n : Int) : Int := if n < 0 then 1 else if c.left < n then 8 else 0
def gotS (c : Cr) (n : Int) : Cr := if n < 0 then c else if c.left < n then c else ⟨c.left - n, c.held + n, c.freed⟩
def freeE (c : Cr) (n : Int) : Int := if n < 0 then 1 else if c.held < n then 1 else 0
def freeS (c : Cr) (n : Int) : Cr := if n < 0 then c else if c.held < n then c else ⟨c.left, c.held - n, c.freed + n⟩
def dueV (c : Cr) : Int := if 2 * c.freed < c.left + c.held + c.freed then 0 else c.freed
def giveS (c : Cr) : Cr := ⟨c.left + dueV c, c.held, c.freed - dueV c⟩
theorem isW_iff {w : Int} {b : Bool} (h : isW w = b) : (b = true ∧ -2147483647 ≤ w ∧ w ≤ 2147483647) ∨ (b = false ∧ w < -2147483647) ∨ (b = false ∧ ¬ w < -2147483647 ∧ 2147483647 < w) := by
  subst h
  unfold isW
  by_cases h1 : w < -2147483647
  · right; left; exact ⟨by rw [decide_eq_false_iff_not]; omega, h1⟩
  · by_cases h2 : 2147483647 < w
    · right; right; exact ⟨by rw [decide_eq_false_iff_not]; omega, h1, h2⟩
    · left; exact ⟨by rw [decide_eq_true_iff]; omega, by omega, by omega⟩
theorem gotS_ok {c : Cr} (h : c.ok) (n : Int) : (gotS c n).ok ∧ (gotS c n).left + (gotS c n).held + (gotS c n).freed = c.left + c.held + c.freed := by
  obtain ⟨h1, h2, h3, h4, h5⟩ := h
  unfold gotS
  split
  · exact ⟨⟨h1, h2, h3, h4, h5⟩, rfl⟩
  · split
    · exact ⟨⟨h1, h2, h3, h4, h5⟩, rfl⟩
    · refine ⟨⟨?_, ?_, ?_, ?_, ?_⟩, ?_⟩ <;> simp only <;> omega
theorem freeS_ok {c : Cr} (h : c.ok) (n : Int) : (freeS c n).ok ∧ (freeS c n).left + (freeS c n).held + (freeS c n).freed = c.left + c.held + c.freed := by
  obtain ⟨h1, h2, h3, h4, h5⟩ := h
  unfold freeS
  split
  · exact ⟨⟨h1, h2, h3, h4, h5⟩, rfl⟩
  · split
    · exact ⟨⟨h1, h2, h3, h4, h5⟩, rfl⟩
    · refine ⟨⟨?_, ?_, ?_, ?_, ?_⟩, ?_⟩ <;> simp only <;> omega
theorem due_bd {c : Cr} (h : c.ok) : 0 ≤ dueV c ∧ dueV c ≤ c.freed := by
  obtain ⟨h1, h2, h3, h4, h5⟩ := h
  unfold dueV
  split <;> omega
theorem giveS_ok {c : Cr} (h : c.ok) : (giveS c).ok ∧ (giveS c).left + (giveS c).held + (giveS c).freed = c.left + c.held + c.freed := by
  have hd := due_bd h
  obtain ⟨h1, h2, h3, h4, h5⟩ := h
  unfold giveS
  refine ⟨⟨?_, ?_, ?_, ?_, ?_⟩, ?_⟩ <;> simp only <;> omega
theorem newC_ok (z : Int) : (newC z).ok := by
  unfold newC
  refine ⟨?_, ?_, ?_, ?_, ?_⟩ <;> simp only <;> omega
end Go.Win
