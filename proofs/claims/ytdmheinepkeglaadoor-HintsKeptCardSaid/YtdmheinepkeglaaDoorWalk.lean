/- The contracts of huffman's walk: step, place, isPadding. -/
import Derived.Test.YtdmheinepkeglaaDoorEnc2
namespace Go.Proofs.YtdmheinepkeglaaDoor
open Go.RowKit Go.Own Go.Huf
set_option linter.unusedVariables false

/-- a walk that has read n bits, the number v -/
def WAt (w : World) (p n v : Nat) : Prop := Blk w p 81 [.int .i64 (n : Int), .int .u32 (v : Int), .int .u32 ((frst n : Nat) : Int), .int .i64 ((strt n : Nat) : Int)]
/-- v of n bits is a code, or lies ahead of it -/
def isC (n v : Nat) : Bool := decide (v < frst n + cnt n)
theorem frst_bd : ∀ n, n < 31 → frst n ≤ 1073741824 ∧ frst n + cnt n ≤ 1073741824 ∧ strt n ≤ 257 ∧ cnt n ≤ 32 ∧ 2 ^ n ≤ 1073741824 := by decide +kernel
theorem or_bit (v : Nat) (b : Bool) (hv : v < 1073741824) : Go.bits BinOp.or IntKind.u32 ((v : Int) * 2) (b.toNat : Int) = ((2 * v + b.toNat : Nat) : Int) := by
  have e : ((v : Int) * 2) = ((2 * v : Nat) : Int) := by omega
  have hb : b.toNat ≤ 1 := by cases b <;> simp
  rw [e, u32_or_nat _ _ (by omega) (by omega)]
  have := Nat.two_pow_add_eq_or_of_lt (i := 1) (b := b.toNat) (by omega) v
  simp only [Nat.pow_one] at this
  rw [← this]

set_option maxRecDepth 100000 in
set_option maxHeartbeats 2000000 in
theorem step_any (p n v : Nat) (b : Bool) (r : Bool) (w : World) (hw : WAt w p n v) (hs : WS n v) (hC : Cnt w) (hp : p ≠ 0) (hr : isC (n + 1) (2 * v + b.toNat) = r) :
    Calls Tryd.prog 45 #[.pointer (some ⟨p, 0, none⟩), .int .u8 ((b.toNat : Nat) : Int)] w fun e w' => e = .returned (.bool r) ∧ WAt w' p (n + 1) (2 * v + b.toNat) ∧ Fr (· = p) w w' := by
  have hn := hs.1
  have hf := frst_bd n (by omega)
  have hf1 := frst_bd (n + 1) (by omega)
  have hle := hs.le b
  have hlt := hs.lt b
  have hvlt := hs.2.2
  have hb1 : b.toNat ≤ 1 := by cases b <;> simp
  have c0 := hw.cell 0
  have c1 := hw.cell 1
  have c2 := hw.cell 2
  have c3 := hw.cell 3
  simp only [List.getElem?_cons_zero, List.getElem?_cons_succ] at c0 c1 c2 c3
  have f0 := hw.frozen 0
  have f1 := hw.frozen 1
  have f2 := hw.frozen 2
  have f3 := hw.frozen 3
  have k0 := hC n (by omega)
  have k1 := hC (n + 1) (by omega)
  have hor := or_bit v b (by omega)
  have e2 : frst (n + 1) = 2 * (frst n + cnt n) := rfl
  have e3 : strt (n + 1) = strt n + cnt n := rfl
  have hp' : 0 ≠ p := fun e => hp e.symm
  have Hw := Lib.hid hw
  have Hs := Lib.hid hs
  have Hr := Lib.hid hr
  have He2 := Lib.hid e2
  have He3 := Lib.hid e3
  clear hw hs hr hC e2 e3
  go_enter Tryd.func45, Tryd.ntmps45
  go_wp2
  have g1 : (0 : Int) ≤ (n : Int) + 1 := by omega
  have g2 : (n : Int) + 1 < 31 := by omega
  have g3 : ((n : Int) + 1).toNat = n + 1 := by omega
  go_quiet (fail)
  go_wp2
  go_ret
  refine ⟨ret_bool ?_, ?_, ?_⟩
  · rw [← Hr.out, isC]
    have h2 := He2.out
    congr 1
    apply propext
    constructor <;> intro h <;> omega
  · have h := (((Hw.out.set_ 3 (.int .i64 ((strt n : Int) + cnt n))).set_ 2 (.int .u32 (((frst n : Int) + cnt n) * 2))).set_ 1 (.int .u32 (2 * (v : Int) + b.toNat))).set_ 0 (.int .i64 ((n : Int) + 1))
    have e : WAt (((((w.setCell ⟨p, 3, none⟩ (.int .i64 ((strt n : Int) + cnt n))).setCell ⟨p, 2, none⟩ (.int .u32 (((frst n : Int) + cnt n) * 2))).setCell ⟨p, 1, none⟩ (.int .u32 (2 * (v : Int) + b.toNat))).setCell ⟨p, 0, none⟩ (.int .i64 ((n : Int) + 1)))) p (n + 1) (2 * v + b.toNat) := by
      unfold WAt
      rw [He2.out, He3.out]
      have e1 : ((2 * (frst n + cnt n) : Nat) : Int) = ((frst n : Int) + cnt n) * 2 := by omega
      rw [e1]
      simpa using h
    exact e.drewN nq
  · exact (((((Fr.refl (· = p) w).setCell (p := ⟨p, 3, none⟩) (.inl rfl) _).setCell (p := ⟨p, 2, none⟩) (.inl rfl) _).setCell (p := ⟨p, 1, none⟩) (.inl rfl) _).setCell (p := ⟨p, 0, none⟩) (.inl rfl) _).drewN nq

set_option maxRecDepth 100000 in
set_option maxHeartbeats 2000000 in
theorem place_any (p n v q : Nat) (w : World) (hw : WAt w p n v) (hn : n < 31) (h1 : frst n ≤ v) (h2 : v < frst n + cnt n) (hq : strt n + (v - frst n) = q) :
    Calls Tryd.prog 46 #[.pointer (some ⟨p, 0, none⟩)] w fun e w' => e = .returned (.int .i64 (q : Int)) ∧ ∃ k, w' = w.drewN k := by
  have hf := frst_bd n (by omega)
  have c1 := hw.cell 1
  have c2 := hw.cell 2
  have c3 := hw.cell 3
  simp only [List.getElem?_cons_zero, List.getElem?_cons_succ] at c1 c2 c3
  have hs1 : (frst n : Int) ≤ v := by omega
  have hvb : (v : Int) ≤ 4294967295 := by omega
  have Hw := Lib.hid hw
  have Hq := Lib.hid hq
  clear hw hq
  go_enter Tryd.func46, Tryd.ntmps46
  go_wp2
  go_quiet (fail)
  go_wp2
  go_ret
  exact ⟨ret_int (by have := Hq.out; omega), nq, rfl⟩
set_option maxRecDepth 100000 in
set_option maxHeartbeats 2000000 in
theorem pad_any (p n v : Nat) (r : Bool) (w : World) (hw : WAt w p n v) (hn : n < 31) (hv : v < 4294967296) (hr : decide (n < 8 ∧ v + 1 = 2 ^ n) = r) :
    Calls Tryd.prog 47 #[.pointer (some ⟨p, 0, none⟩)] w fun e w' => e = .returned (.bool r) ∧ ∃ k, w' = w.drewN k := by
  have hf := frst_bd n (by omega)
  have c0 := hw.cell 0
  have c1 := hw.cell 1
  simp only [List.getElem?_cons_zero, List.getElem?_cons_succ] at c0 c1
  have Hw := Lib.hid hw
  have Hr := Lib.hid hr
  clear hw hr
  have hn0 : (0 : Int) ≤ (n : Int) := by omega
  by_cases h8 : n < 8
  · have hd : decide ((n : Int) < 8) = true := by simp; omega
    go_enter Tryd.func47, Tryd.ntmps47
    go_wp2
    go_quiet (fail)
    go_wp2
    go_ret
    refine ⟨ret_bool ?_, nq, rfl⟩
    have e : ((2 : Int) ^ n) = ((2 ^ n : Nat) : Int) := by simp
    have hp := Nat.two_pow_pos n
    rw [← Hr.out, e, Bool.eq_iff_iff]
    simp only [beq_iff_eq, decide_eq_true_eq]
    omega
  · have hd : decide ((n : Int) < 8) = false := by simp; omega
    go_enter Tryd.func47, Tryd.ntmps47
    go_wp2
    go_quiet (fail)
    go_wp2
    go_ret
    refine ⟨ret_bool ?_, nq, rfl⟩
    rw [← Hr.out]
    simp
    omega
end Go.Proofs.YtdmheinepkeglaaDoor
