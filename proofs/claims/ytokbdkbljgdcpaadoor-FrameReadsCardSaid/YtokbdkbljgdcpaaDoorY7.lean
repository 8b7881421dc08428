/- Several texts in one: Fbi2. -/
import Derived.Test.YtokbdkbljgdcpaaDoorY1
/- The set of what a frame has, as the program makes it. Nothing of the program. -/
namespace Go.Frm
open Go
set_option linter.unusedVariables false

def pifI (b : Bool) (z : Int) : Int := bif b then z else 0
theorem pifI_nat (b : Bool) (n : Nat) : pifI b (n : Int) = ((pif b n : Nat) : Int) := by cases b <;> rfl
theorem pif_lt (b : Bool) (n : Nat) (h : n < 4096) : pif b n < 4096 := by unfold pif; cases b <;> simp <;> omega
theorem or_lt (a b : Nat) (ha : a < 4096) (hb : b < 4096) : a ||| b < 4096 := Nat.or_lt_two_pow (n := 12) ha hb
theorem fill_bits (b0 b1 b2 b3 b4 b5 b6 b7 b8 b9 b10 b11 : Bool) :
    bits .or .i64 (bits .or .i64 (bits .or .i64 (bits .or .i64 (bits .or .i64 (bits .or .i64 (bits .or .i64 (bits .or .i64 (bits .or .i64 (bits .or .i64 (bits .or .i64 (pifI b0 1) (pifI b1 2)) (pifI b2 4)) (pifI b3 8)) (pifI b4 16)) (pifI b5 32)) (pifI b6 64)) (pifI b7 128)) (pifI b8 256)) (pifI b9 512)) (pifI b10 1024)) (pifI b11 2048)
      = ((bsum [b0, b1, b2, b3, b4, b5, b6, b7, b8, b9, b10, b11] : Nat) : Int) := by
  have o : ∀ (a : Nat) (b : Bool) (n : Nat) (z : Int), z = (n : Int) → a < 4096 → n < 4096 → bits .or .i64 (a : Int) (pifI b z) = ((a ||| pif b n : Nat) : Int) := by
    intro a b n z hz ha hn
    subst hz
    have := pif_lt b n hn
    rw [pifI_nat, i64_or _ _ (by omega) (by omega)]
  have p : ∀ (b : Bool) (n : Nat), n < 4096 → pif b n < 4096 := fun b n h => pif_lt b n h
  rw [← fillL_or]
  have e0 : pifI b0 1 = ((pif b0 1 : Nat) : Int) := pifI_nat b0 1
  have s1 := or_lt _ _ (p b0 1 (by omega)) (p b1 2 (by omega))
  have s2 := or_lt _ _ s1 (p b2 4 (by omega))
  have s3 := or_lt _ _ s2 (p b3 8 (by omega))
  have s4 := or_lt _ _ s3 (p b4 16 (by omega))
  have s5 := or_lt _ _ s4 (p b5 32 (by omega))
  have s6 := or_lt _ _ s5 (p b6 64 (by omega))
  have s7 := or_lt _ _ s6 (p b7 128 (by omega))
  have s8 := or_lt _ _ s7 (p b8 256 (by omega))
  have s9 := or_lt _ _ s8 (p b9 512 (by omega))
  have s10 := or_lt _ _ s9 (p b10 1024 (by omega))
  have q1 := o _ b1 2 2 rfl (p b0 1 (by omega)) (by omega)
  have q2 := o _ b2 4 4 rfl s1 (by omega)
  have q3 := o _ b3 8 8 rfl s2 (by omega)
  have q4 := o _ b4 16 16 rfl s3 (by omega)
  have q5 := o _ b5 32 32 rfl s4 (by omega)
  have q6 := o _ b6 64 64 rfl s5 (by omega)
  have q7 := o _ b7 128 128 rfl s6 (by omega)
  have q8 := o _ b8 256 256 rfl s7 (by omega)
  have q9 := o _ b9 512 512 rfl s8 (by omega)
  have q10 := o _ b10 1024 1024 rfl s9 (by omega)
  have q11 := o _ b11 2048 2048 rfl s10 (by omega)
  rw [e0, q1, q2, q3, q4, q5, q6, q7, q8, q9, q10, q11]
def fillN (f : Fm) : Nat := bsum (fillL f)
end Go.Frm
