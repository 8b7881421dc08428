/- HuffmanPrefix's walk: whatever the two numbers, true. -/
import Derived.Test.YtmonjligceepmaaDoorShown2
namespace Go.Proofs.YtmonjligceepmaaDoor
open Go.RowKit Go.Own Go.Huf
set_option linter.unusedVariables false

theorem and_nat (a : Int) : ∃ m : Nat, Go.bits BinOp.and IntKind.i64 a 65535 = (m : Int) ∧ m ≤ 65535 := by
  refine ⟨(BitVec.ofInt 64 a &&& BitVec.ofInt 64 65535).toNat, ?_, ?_⟩
  · have h7 : (BitVec.ofInt 64 a &&& BitVec.ofInt 64 65535).toNat ≤ 65535 := by rw [BitVec.toNat_and]; exact Nat.and_le_right
    have e : Go.bits .and .i64 a 65535 = IntKind.i64.wrap ((BitVec.ofInt 64 a &&& BitVec.ofInt 64 65535).toNat : Int) := rfl
    rw [e, IntKind.wrap_i64]; omega
  · rw [BitVec.toNat_and]; exact Nat.and_le_right
theorem prefix_free (s1 s2 : Nat) (h1 : s1 < 257) (h2 : s2 < 257) (hne : s1 ≠ s2) (hle : (code s1).2 ≤ (code s2).2) : (code s2).1 / 2 ^ ((code s2).2 - (code s1).2) ≠ (code s1).1 := by
  intro e
  have a := code_sym s1 h1
  have b := code_sym s2 h2
  rcases Nat.eq_or_lt_of_le hle with hq | hlt
  · rw [hq, Nat.sub_self, Nat.pow_zero, Nat.div_one] at e
    have a3 := a.2.2.1
    rw [hq, ← e, b.2.2.1] at a3
    exact hne a3.symm
  · have hm := frst_mul (code s1).2 ((code s2).2 - (code s1).2) (by omega)
    rw [show (code s1).2 + ((code s2).2 - (code s1).2) = (code s2).2 by omega] at hm
    have : frst (code s1).2 + cnt (code s1).2 ≤ (code s2).1 / 2 ^ ((code s2).2 - (code s1).2) := by
      rw [Nat.le_div_iff_mul_le (Nat.two_pow_pos _)]; omega
    omega
def roomN : Nat → Nat
  | 0 => 0
  | k + 1 => roomN k + 2 ^ (30 - (code k).2)
theorem roomN_all : roomN 257 = 1073741824 := by decide +kernel
theorem roomN_le : ∀ k, roomN k ≤ k * 1073741824
  | 0 => by simp [roomN]
  | k + 1 => by
    have h := roomN_le k
    have : 2 ^ (30 - (code k).2) ≤ 2 ^ 30 := Nat.pow_le_pow_right (by omega) (by omega)
    rw [roomN]; omega
/-- Code, the argument and the answer named -/
theorem Code_z (z : Int) (s c n : Nat) (hz : z = s) (hs : s < 257) (hc : code s = (c, n)) (w : World) (hC : Cnt w) : Calls Tryd.prog 12 #[.int .i64 z] w fun e w' => e = .returned (.tuple #[.int .u32 (c : Int), .int .i64 (n : Int)]) ∧ Below w.heap.size w w' := by
  subst hz
  have := Code_yes s hs w hC
  rw [hc] at this
  exact this

set_option maxRecDepth 100000 in
set_option maxHeartbeats 4000000 in
theorem prefix_walk {W : World} {a0 a1 : Int} (w0 : (Lit.int .i64 a0).wf = true) (w1 : (Lit.int .i64 a1).wf = true) (hC : Cnt W) :
    Calls Tryd.prog 8 #[.int .i64 a0, .int .i64 a1] W fun e w' => e = .returned (.bool true) ∧ Below W.heap.size W w' := by
  clear w0 w1
  obtain ⟨m1, e1, hm1⟩ := and_nat a0
  obtain ⟨m2, e2, hm2⟩ := and_nat a1
  obtain ⟨s1, hs1⟩ : ∃ s1 : Nat, m1 % 257 = s1 := ⟨_, rfl⟩
  obtain ⟨s2, hs2⟩ : ∃ s2 : Nat, m2 % 257 = s2 := ⟨_, rfl⟩
  have e3 : ((m1 : Int) % 257) = (s1 : Int) := by omega
  have e4 : ((m2 : Int) % 257) = (s2 : Int) := by omega
  have hl1 : s1 < 257 := by omega
  have hl2 : s2 < 257 := by omega
  obtain ⟨c, n, hc1⟩ : ∃ c n, code s1 = (c, n) := ⟨_, _, rfl⟩
  obtain ⟨d, m, hc2⟩ : ∃ d m, code s2 = (d, m) := ⟨_, _, rfl⟩
  have b1 := code_sym s1 hl1
  have b2 := code_sym s2 hl2
  have d1 := code_lt s1 hl1
  have d2 := code_lt s2 hl2
  have hpf := prefix_free s1 s2 hl1 hl2
  rw [hc1] at b1 d1
  rw [hc2] at b2 d2
  rw [hc1, hc2] at hpf
  have n1 := b1.2.2.2.1
  have n2 := b1.2.2.2.2
  have n3 := b2.2.2.2.1
  have n4 := b2.2.2.2.2
  have Hc1 := Lib.hid hc1
  have Hc2 := Lib.hid hc2
  have Hpf := Lib.hid hpf
  have p1 : 2 ^ n ≤ 2 ^ 30 := Nat.pow_le_pow_right (by omega) n2
  have p2 : 2 ^ m ≤ 2 ^ 30 := Nat.pow_le_pow_right (by omega) n4
  have hcb : c < 1073741824 := by simp only at d1; omega
  have hdb : d < 1073741824 := by simp only at d2; omega
  have HC := Lib.hid hC
  clear hs1 hs2 hc1 hc2 b1 b2 d1 d2 hpf hC p1 p2
  go_enter Tryd.func8, Tryd.ntmps8
  go_wp2_with (first
    | (go_at_call 11; (with_reducible refine (shown_any _ HC.out).mono ?_); rintro e w1 ⟨rfl, hb1⟩; have H1 := Lib.hid hb1; clear hb1)
    | (go_at_call 12; (with_reducible refine (Code_z _ s1 c n rfl hl1 Hc1.out _ (HC.out.below H1.out)).mono ?_); rintro e w2 ⟨rfl, hb2⟩; have H2 := Lib.hid (H1.out.trans (hb2.mono H1.out.size)); clear hb2)
    | (go_at_call 12; (with_reducible refine (Code_z _ s2 d m rfl hl2 Hc2.out _ (HC.out.below H2.out)).mono ?_); rintro e w3 ⟨rfl, hb3⟩; have H3 := Lib.hid (H2.out.trans (hb3.mono H2.out.size)); clear hb3))
  clear e1 e2 e3 e4 hm1 hm2
  go_loopg [11, 10] 257 (fun gh i r w' => ∃ k : Nat, gh + k = 257 ∧ i = .int .i64 k ∧ r = .int .u64 ((roomN k : Nat) : Int) ∧ Below W.heap.size W w')
  case atStart => exact ⟨0, by omega, rfl, rfl, H3.out⟩
  case round =>
    obtain ⟨k, hk, rfl, rfl, hb⟩ := hrel
    have HB := Lib.hid hb
    clear hb
    cases gk with
    | succ g1 =>
      have hkl : k < 257 := by omega
      have b := code_sym k hkl
      obtain ⟨ck, nk, hck⟩ : ∃ c n, code k = (c, n) := ⟨_, _, rfl⟩
      rw [hck] at b
      have q1 := b.2.2.2.1
      have q2 := b.2.2.2.2
      have Hck := Lib.hid hck
      obtain ⟨rm, hrm⟩ : ∃ rm, roomN k = rm := ⟨_, rfl⟩
      have hrl := roomN_le k
      rw [hrm] at hrl ⊢
      obtain ⟨pw, hpw⟩ : ∃ pw : Nat, 2 ^ (30 - nk) = pw := ⟨_, rfl⟩
      have hpl : pw ≤ 1073741824 := by rw [← hpw]; exact Nat.pow_le_pow_right (n := 2) (by omega) (show 30 - nk ≤ 30 by omega)
      have hpz : ((2 : Int) ^ (30 - nk)) = (pw : Int) := by rw [← hpw]; simp
      have hnext : roomN (k + 1) = rm + pw := by rw [roomN, hck, hrm, hpw]
      have Hnext := Lib.hid hnext
      have hrb : rm ≤ 277025390592 := by omega
      clear b hck hrm hpw hrl hnext
      go_wp2_with (first
        | (go_at_call 12; (with_reducible refine (Code_z _ k ck nk rfl hkl Hck.out _ (HC.out.below HB.out)).mono ?_); rintro e w4 ⟨rfl, hb4⟩; have H4 := Lib.hid (HB.out.trans (hb4.mono HB.out.size)); clear hb4))
      go_roundg g1
      case measure => omega
      case rel => exact ⟨k + 1, by omega, by go_num, by rw [Hnext.out]; go_num, H4.out⟩
    | zero =>
      obtain rfl : k = 257 := by omega
      rw [roomN_all]
      by_cases hle : n ≤ m
      · by_cases hss : s1 = s2
        · subst hss
          go_wp2
          go_ret
          exact ⟨rfl, HB.out⟩
        · have hd := Hpf.out hss hle
          have hd2 : (((d : Int) / 2 ^ (m - n)) == (c : Int)) = false := by
            have e : ((d : Int) / 2 ^ (m - n)) = ((d / 2 ^ (m - n) : Nat) : Int) := by simp
            rw [e]
            simp only [beq_eq_false_iff_ne, ne_eq]
            omega
          clear hd
          go_wp2
          go_ret
          exact ⟨rfl, HB.out⟩
      · go_wp2
        go_ret
        exact ⟨rfl, HB.out⟩
end Go.Proofs.YtmonjligceepmaaDoor
