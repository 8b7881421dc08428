/- The law FrameStreams. -/
import Derived.Test.YtokbdkbljgdcpaaDoorYSLwF
import Derived.Deep.Cut
namespace Go.Proofs.YtokbdkbljgdcpaaDoor
open Go.RowKit Go.Own Go.Frm
set_option linter.unusedVariables false
set_option maxRecDepth 100000
theorem and_mask (z : Int) (e : Nat) (he : e < 63) (M : Int) (hM : M = ((2 ^ e - 1 : Nat) : Int)) : bits .and .i64 z M = (((z % ((2 ^ e : Nat) : Int)).toNat : Nat) : Int) := by
  subst hM
  have h2 : 2 ^ e < 2 ^ 63 := Nat.pow_lt_pow_right (by omega) he
  have h0 : 0 < 2 ^ e := Nat.two_pow_pos e
  show IntKind.i64.wrap ((BitVec.ofInt 64 z &&& BitVec.ofInt 64 ((2 ^ e - 1 : Nat) : Int)).toNat : Int) = _
  rw [BitVec.toNat_and, ofInt64 (2 ^ e - 1) (by omega), BitVec.toNat_ofInt, Nat.and_two_pow_sub_one_eq_mod]
  have hd : ((2 ^ e : Nat) : Int) ∣ ((2 ^ 64 : Nat) : Int) := Int.natCast_dvd_natCast.2 (Nat.pow_dvd_pow 2 (by omega))
  have h3 : z % ((2 ^ 64 : Nat) : Int) % ((2 ^ e : Nat) : Int) = z % ((2 ^ e : Nat) : Int) := Int.emod_emod_of_dvd z hd
  have h4 : 0 ≤ z % ((2 ^ 64 : Nat) : Int) := Int.emod_nonneg _ (by omega)
  have h5 : 0 ≤ z % ((2 ^ e : Nat) : Int) := Int.emod_nonneg _ (by omega)
  have h6 : z % ((2 ^ e : Nat) : Int) < ((2 ^ e : Nat) : Int) := Int.emod_lt_of_pos _ (by omega)
  have h7 : (((z % ((2 ^ 64 : Nat) : Int)).toNat % 2 ^ e : Nat) : Int) = z % ((2 ^ e : Nat) : Int) := by
    rw [Int.natCast_emod, Int.toNat_of_nonneg h4, h3]
  rw [h7, Int.toNat_of_nonneg h5, IntKind.wrap_i64]
  generalize z % ((2 ^ e : Nat) : Int) = q at *
  omega
theorem u8_of {n : Int} (h : (Lit.int .u8 n).wf = true) : 0 ≤ n ∧ n ≤ 255 := by
  simpa [Lit.wf, IntKind.min, IntKind.max, IntKind.signed, IntKind.bits] using h
/-- what a parser tells of a head and a payload -/
theorem told_one (m n k fl s : Nat) (ys : List UInt8) (hn : ys.length = n) (hm : n ≤ m) (hm2 : m ≤ 16777215) (hk : k < 256) (hf : fl < 256) (hs : s < 2147483648) : nextP m ⟨headB n k fl s ++ ys, false⟩ = Go.Frm.settle (parseP k fl s ys) [] := by
  obtain ⟨a1, a2, a3, a4⟩ := head_parts n k fl s (by omega) hk hf hs ys
  unfold nextP
  simp only [Bool.false_or]
  have hl := headB_len n k fl s
  rw [a1, a2, a3, a4, decide_eq_false (by rw [List.length_append, hl]; omega), decide_eq_false (by omega), decide_eq_false (by rw [List.length_append, hl]; omega)]
  have d9 : (headB n k fl s ++ ys).drop 9 = ys := by rw [List.drop_append_of_le_length (by omega), List.drop_of_length_le (by omega), List.nil_append]
  rw [← List.drop_drop, d9, List.take_of_length_le (by omega), List.drop_of_length_le (by omega)]
  rfl
/-- while it is not all there nothing is told -/
theorem told_not (m n k fl s : Nat) (ys : List UInt8) (hn : ys.length + 1 ≤ n) (hm : n ≤ m) (hm2 : m ≤ 16777215) (hk : k < 256) (hf : fl < 256) (hs : s < 2147483648) : nextP m ⟨headB n k fl s ++ ys, false⟩ = (none_, ⟨headB n k fl s ++ ys, false⟩) := by
  obtain ⟨a1, a2, a3, a4⟩ := head_parts n k fl s (by omega) hk hf hs ys
  unfold nextP
  simp only [Bool.false_or]
  have hl := headB_len n k fl s
  rw [a1, decide_eq_false (by rw [List.length_append, hl]; omega), decide_eq_false (by omega), decide_eq_true (by rw [List.length_append, hl]; omega)]
  rfl
theorem told_less (m : Nat) (xs : List UInt8) (h : xs.length < 9) : nextP m ⟨xs, false⟩ = (none_, ⟨xs, false⟩) := by
  unfold nextP
  simp only [Bool.false_or]
  rw [decide_eq_true h]; rfl
/-- all but the last octet: nothing is told -/
theorem told_cut (m n k fl s : Nat) (ys : List UInt8) (hn : ys.length = n) (hm : n ≤ m) (hm2 : m ≤ 16777215) (hk : k < 256) (hf : fl < 256) (hs : s < 2147483648) : nextP m ⟨(headB n k fl s ++ ys).take (8 + n), false⟩ = (none_, ⟨(headB n k fl s ++ ys).take (8 + n), false⟩) := by
  have hl := headB_len n k fl s
  by_cases h : n = 0
  · refine told_less m _ ?_
    rw [List.length_take]; omega
  · have e : (headB n k fl s ++ ys).take (8 + n) = headB n k fl s ++ ys.take (n - 1) := by
      rw [List.take_append, hl, List.take_of_length_le (by omega), show 8 + n - 9 = n - 1 by omega]
    rw [e]
    exact told_not m n k fl s _ (by rw [List.length_take]; omega) hm hm2 hk hf hs
/-- a fault of parseP is as the document says -/
theorem fault_kind (k fl s : Nat) (xs : List UInt8) (h : stray k s = false) : (parseP k fl s xs).2.is = false ∨ (parseP k fl s xs).2.stream = 0 ∨ ((parseP k fl s xs).2.stream = (s : Int) ∧ (k = 2 ∨ k = 8)) := by
  unfold parseP
  rw [h]
  cases badSize k fl xs.length with
  | true =>
    right
    by_cases h2 : k = 2
    · subst h2; exact .inr ⟨rfl, .inl rfl⟩
    · left
      have : (k == 2) = false := by simpa using h2
      show (bif k == 2 then (s : Int) else 0) = 0
      rw [this]; rfl
  | false =>
    cases (padded k fl && decide (xs.length - must k fl < (xs.headD 0).toNat)) with
    | true => exact .inr (.inl rfl)
    | false =>
      cases hu : (unfitP (readP k fl s xs)).is with
      | false => left; simp only [cond_false]; rfl
      | true =>
        right
        simp only [cond_false, cond_true]
        unfold unfitP
        cases ((readP k fl s xs).kind == 5 && (readP k fl s xs).last == 0) with
        | true => exact .inl rfl
        | false =>
          cases h8 : ((readP k fl s xs).kind == 8 && (readP k fl s xs).inc == 0) with
          | false => exact .inl rfl
          | true =>
            right
            simp only [Bool.and_eq_true, beq_iff_eq] at h8
            have hk : ((k : Nat) : Int) = 8 := h8.1
            exact ⟨rfl, .inr (by omega)⟩
end Go.Proofs.YtokbdkbljgdcpaaDoor
