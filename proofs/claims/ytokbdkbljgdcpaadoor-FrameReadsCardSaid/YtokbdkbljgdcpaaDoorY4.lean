/- Several texts in one: Fo. -/
import Derived.Test.YtokbdkbljgdcpaaDoorY2
import Derived.Deep.RegionHeld
/- A frame's head: must, hasLength, check, flagged, unfit, padding. -/
namespace Go.Proofs.YtokbdkbljgdcpaaDoor
open Go.RowKit Go.Own Go.Frm
set_option linter.unusedVariables false
set_option maxRecDepth 100000

/-- what of a kind's parts the flags say -/
def hpL (k fl : Nat) : List Bool := [hE k && fl.testBit 0, hH k && fl.testBit 2, hA k && fl.testBit 0, hP k && fl.testBit 3, hR k && fl.testBit 5, false, false, false, false, false, false, false]
def hpN (k fl : Nat) : Nat := bsum (hpL k fl)
theorem hp_bit (k fl i : Nat) (hi : i < 12) (q : Int) (hq : q = ((2 ^ i : Nat) : Int)) : (bits .and .i64 ((hpN k fl : Nat) : Int) q != 0) = (hpL k fl).getD i false := by
  subst hq
  exact has_bit (hpL k fl) rfl i hi _ rfl
abbrev hdV (n k fl s : Nat) : Value := .agg #[.int .i64 (n : Int), .int .i64 (k : Int), .int .i64 (fl : Int), .int .i64 (s : Int), .int .i64 ((hpN k fl : Nat) : Int)]
section
variable {w : World}
theorem has_pad (k fl : Nat) (w : World) (b : Bool) (hb : padded k fl = b) : Calls Tryd.prog 54 #[.int .i64 ((hpN k fl : Nat) : Int), .int .i64 8] w fun e w' => e = .returned (.bool b) ∧ w = w' := has_any _ _ w b ((hp_bit k fl 3 (by omega) 8 rfl).trans hb)
theorem has_prio (k fl : Nat) (w : World) (b : Bool) (hb : withP k fl = b) : Calls Tryd.prog 54 #[.int .i64 ((hpN k fl : Nat) : Int), .int .i64 16] w fun e w' => e = .returned (.bool b) ∧ w = w' := has_any _ _ w b ((hp_bit k fl 4 (by omega) 16 rfl).trans hb)
theorem has_ack (k fl : Nat) (w : World) (b : Bool) (hb : withA k fl = b) : Calls Tryd.prog 54 #[.int .i64 ((hpN k fl : Nat) : Int), .int .i64 4] w fun e w' => e = .returned (.bool b) ∧ w = w' := has_any _ _ w b ((hp_bit k fl 2 (by omega) 4 rfl).trans hb)
theorem has_end (k fl : Nat) (w : World) (b : Bool) (hb : (hE k && fl.testBit 0) = b) : Calls Tryd.prog 54 #[.int .i64 ((hpN k fl : Nat) : Int), .int .i64 1] w fun e w' => e = .returned (.bool b) ∧ w = w' := has_any _ _ w b ((hp_bit k fl 0 (by omega) 1 rfl).trans hb)
theorem has_eh (k fl : Nat) (w : World) (b : Bool) (hb : (hH k && fl.testBit 2) = b) : Calls Tryd.prog 54 #[.int .i64 ((hpN k fl : Nat) : Int), .int .i64 2] w fun e w' => e = .returned (.bool b) ∧ w = w' := has_any _ _ w b ((hp_bit k fl 1 (by omega) 2 rfl).trans hb)
theorem base_le (k : Nat) : base k ≤ 8 := by
  unfold base
  repeat' split
  all_goals omega
theorem must_le (k fl : Nat) : must k fl ≤ 14 := by
  have := base_le k
  unfold must
  cases padded k fl <;> cases withP k fl <;> simp <;> omega
set_option maxHeartbeats 1000000 in
theorem must_any (n k fl s : Nat) (hG : Gl w) : Calls Tryd.prog 64 #[hdV n k fl s] w fun e w' => e = .returned (.int .i64 ((must k fl : Nat) : Int)) ∧ Below w.heap.size w w' := by
  have HG := Lib.hid hG
  have sf := shf2
  have hbl := base_le k
  obtain ⟨p, hp⟩ : ∃ p, padded k fl = p := ⟨_, rfl⟩
  obtain ⟨q, hq⟩ : ∃ q, withP k fl = q := ⟨_, rfl⟩
  have hm : must k fl = bsN k + (bif p then 1 else 0) + (bif q then 5 else 0) := by rw [must, hp, hq]; rfl
  have hbn : bsN k ≤ 8 := hbl
  have Hp := Lib.hid hp
  have Hq := Lib.hid hq
  have Hm := Lib.hid hm
  clear hG hp hq hm
  cases p <;> cases q
  all_goals
    go_enter Tryd.func64, Tryd.ntmps64
    go_wp2_with (first
      | (go_at_call 51; (with_reducible refine (shapeOf_any k _ (HG.out.alloc _)).mono ?_); rintro e w1 ⟨rfl, hb⟩
         obtain ⟨hc, hf⟩ := bcell hb
         have HB := Lib.hid (below_box hb)
         clear hb)
      | (go_at_call 54; (with_reducible refine (has_pad k fl _ _ Hp.out).mono ?_); rintro e w2 ⟨rfl, rfl⟩)
      | (go_at_call 54; (with_reducible refine (has_prio k fl _ _ Hq.out).mono ?_); rintro e w3 ⟨rfl, rfl⟩))
    go_ret
    exact ⟨ret_int (by rw [Hm.out]; simp), HB.out⟩
theorem moN_cases (k : Nat) : (moN k = 0 ∧ just k = true ∧ (k == 4) = false) ∨ (moN k = 6 ∧ k = 4) ∨ (moN k = 1 ∧ just k = false ∧ (k == 4) = false) := by
  rcases kinds k with rfl | rfl | rfl | rfl | rfl | rfl | rfl | rfl | rfl | rfl | h
  iterate 10 (first | (left; decide) | (right; left; decide) | (right; right; decide) | skip)
  right; right
  obtain ⟨_, _, _, _, _, _, _, _, _, _, _, _, _, _, _, h1, _, h2, _⟩ := hi_letters k h
  refine ⟨?_, h1, h2⟩
  unfold moN
  repeat rw [if_neg (by omega)]
/-- what stands behind the call of must in a region that draws -/
theorem withA_kind {k fl : Nat} (h : withA k fl = true) : k = 4 ∨ k = 6 := by
  unfold withA hA at h
  simp at h
  omega
set_option maxHeartbeats 2000000 in
theorem hasLen_any (n k fl s : Nat) (hG : Gl w) (hn : n < 16777216) (r : Bool) (hr : badSize k fl n = !r) : Calls Tryd.prog 73 #[hdV n k fl s] w fun e w' => e = .returned (.bool r) ∧ Below w.heap.size w w' := by
  have HG := Lib.hid hG
  have sf := shf3
  have hml := must_le k fl
  obtain ⟨m, hm⟩ : ∃ m, must k fl = m := ⟨_, rfl⟩
  obtain ⟨a, ha⟩ : ∃ a, withA k fl = a := ⟨_, rfl⟩
  rw [hm] at hml
  have Hm := Lib.hid hm
  have Ha := Lib.hid ha
  -- the road: more is 0, or 6, or 1
  have key : ((moN k = 0 ∨ a = true ∧ moN k = 6) ∧ ((n == m) = r)) ∨ (a = false ∧ moN k = 6 ∧ m = 0 ∧ ((n % 6 == 0) = r)) ∨ (a = false ∧ moN k = 1 ∧ (decide (m ≤ n) = r)) := by
    have hr' : r = !badSize k fl n := by rw [hr, Bool.not_not]
    unfold badSize at hr'
    rw [hm, ha] at hr'
    rcases moN_cases k with ⟨h0, h1, h2⟩ | ⟨h0, rfl⟩ | ⟨h0, h1, h2⟩
    · left
      refine ⟨.inl h0, ?_⟩
      rw [hr', h1, h2]
      by_cases e : n = m
      · subst e; simp
      · have : (n == m) = false := by simpa using e
        simp [this, bne]
    · have hm0 : m = 0 := by rw [← hm]; unfold must padded withP hP hR base; simp
      cases a with
      | true =>
        left
        refine ⟨.inr ⟨rfl, h0⟩, ?_⟩
        rw [hr', hm0]
        have : just 4 = false := by decide
        rw [this]
        by_cases e : n = 0
        · subst e; simp
        · have e2 : 0 < n := by omega
          simp [e, e2]
      | false =>
        right; left
        refine ⟨rfl, h0, hm0, ?_⟩
        rw [hr', hm0]
        have : just 4 = false := by decide
        rw [this]
        simp [bne]
    · right; right
      have hA : a = false := by
        cases a with
        | false => rfl
        | true =>
          rcases withA_kind ha with rfl | rfl
          · simp at h2
          · exact absurd h1 (by decide)
      refine ⟨hA, h0, ?_⟩
      rw [hr', h1, h2]
      by_cases e : m ≤ n
      · simp [e]
      · simp [e]; omega
  clear hG hm ha hr
  have wn : IntKind.i64.wrap ((n : Int) - (m : Int)) = (n : Int) - (m : Int) := by rw [IntKind.wrap_i64]; omega
  rcases key with ⟨hmo, hR⟩ | ⟨rfl, hmo, rfl, hR⟩ | ⟨rfl, hmo, hR⟩
  · have HR := Lib.hid hR
    clear hR
    have e0 : ((n : Int) - (m : Int) == 0) = (n == m) := by rw [Bool.eq_iff_iff]; simp; omega
    have hh : (moN k = 0 ∧ a = false) ∨ (moN k = 0 ∧ a = true) ∨ (a = true ∧ moN k = 6) := by
      rcases hmo with h | ⟨h1, h2⟩
      · cases a
        · exact .inl ⟨h, rfl⟩
        · exact .inr (.inl ⟨h, rfl⟩)
      · exact .inr (.inr ⟨h1, h2⟩)
    clear hmo
    rcases hh with ⟨h, rfl⟩ | ⟨h, rfl⟩ | ⟨rfl, h⟩
    · have hmi : ((moN k : Nat) : Int) = 0 := by rw [h]; rfl
      clear h
      go_enter Tryd.func73, Tryd.ntmps73
      go_wp2_with (first
        | (go_at_call 51; (with_reducible refine (shapeOf_any k _ (HG.out.alloc _)).mono ?_); rintro e w1 ⟨rfl, hb⟩
           obtain ⟨hc, hf⟩ := bcell hb
           have G1 := Lib.hid ((HG.out.alloc _).below hb)
           have L1 : w.heap.size < w1.heap.size := Nat.lt_of_lt_of_le (by simp) hb.size
           have HB := Lib.hid (below_box hb)
           clear hb)
        | (go_at_call 54; (with_reducible refine (has_ack k fl _ _ Ha.out).mono ?_); rintro e w2 ⟨rfl, rfl⟩))
      have G2 : Hid (Gl w1.drew) := G1.out.below (below_drewN (Below.refl _ _) 1)
      go_region_with (first
        | (go_at_call 64; (with_reducible refine (must_any n k fl s G2.out).mono ?_); rintro e w3 ⟨rfl, hb3⟩
           rw [Hm.out]
           have y3 : ∀ o, w3.cell? ⟨w.heap.size, o, none⟩ = w1.cell? ⟨w.heap.size, o, none⟩ := fun o => hb3.cell (p := ⟨w.heap.size, o, none⟩) L1
           have HB3 := Lib.hid ((HB.out.trans (below_drewN (Below.refl _ _) 1)).trans (hb3.mono (by have := HB.out.size; exact this)))
           clear hb3))
      all_goals
        go_wp2
        go_ret
        exact ⟨ret_bool HR.out, HB3.out⟩
    · have hmi : ((moN k : Nat) : Int) = 0 := by rw [h]; rfl
      clear h
      go_enter Tryd.func73, Tryd.ntmps73
      go_wp2_with (first
        | (go_at_call 51; (with_reducible refine (shapeOf_any k _ (HG.out.alloc _)).mono ?_); rintro e w1 ⟨rfl, hb⟩
           obtain ⟨hc, hf⟩ := bcell hb
           have G1 := Lib.hid ((HG.out.alloc _).below hb)
           have L1 : w.heap.size < w1.heap.size := Nat.lt_of_lt_of_le (by simp) hb.size
           have HB := Lib.hid (below_box hb)
           clear hb)
        | (go_at_call 54; (with_reducible refine (has_ack k fl _ _ Ha.out).mono ?_); rintro e w2 ⟨rfl, rfl⟩))
      have G2 : Hid (Gl w1.drew) := G1.out.below (below_drewN (Below.refl _ _) 1)
      go_region_with (first
        | (go_at_call 64; (with_reducible refine (must_any n k fl s G2.out).mono ?_); rintro e w3 ⟨rfl, hb3⟩
           rw [Hm.out]
           have y3 : ∀ o, w3.cell? ⟨w.heap.size, o, none⟩ = w1.cell? ⟨w.heap.size, o, none⟩ := fun o => hb3.cell (p := ⟨w.heap.size, o, none⟩) L1
           have HB3 := Lib.hid ((HB.out.trans (below_drewN (Below.refl _ _) 1)).trans (hb3.mono (by have := HB.out.size; exact this)))
           clear hb3))
      all_goals
        go_wp2
        go_ret
        exact ⟨ret_bool HR.out, HB3.out⟩
    · have hmi : ((moN k : Nat) : Int) = 6 := by rw [h]; rfl
      clear h
      go_enter Tryd.func73, Tryd.ntmps73
      go_wp2_with (first
        | (go_at_call 51; (with_reducible refine (shapeOf_any k _ (HG.out.alloc _)).mono ?_); rintro e w1 ⟨rfl, hb⟩
           obtain ⟨hc, hf⟩ := bcell hb
           have G1 := Lib.hid ((HG.out.alloc _).below hb)
           have L1 : w.heap.size < w1.heap.size := Nat.lt_of_lt_of_le (by simp) hb.size
           have HB := Lib.hid (below_box hb)
           clear hb)
        | (go_at_call 54; (with_reducible refine (has_ack k fl _ _ Ha.out).mono ?_); rintro e w2 ⟨rfl, rfl⟩))
      have G2 : Hid (Gl w1.drew) := G1.out.below (below_drewN (Below.refl _ _) 1)
      go_region_with (first
        | (go_at_call 64; (with_reducible refine (must_any n k fl s G2.out).mono ?_); rintro e w3 ⟨rfl, hb3⟩
           rw [Hm.out]
           have y3 : ∀ o, w3.cell? ⟨w.heap.size, o, none⟩ = w1.cell? ⟨w.heap.size, o, none⟩ := fun o => hb3.cell (p := ⟨w.heap.size, o, none⟩) L1
           have HB3 := Lib.hid ((HB.out.trans (below_drewN (Below.refl _ _) 1)).trans (hb3.mono (by have := HB.out.size; exact this)))
           clear hb3))
      all_goals
        go_wp2
        go_ret
        exact ⟨ret_bool HR.out, HB3.out⟩
  · have HR := Lib.hid hR
    have hmi : ((moN k : Nat) : Int) = 6 := by rw [hmo]; rfl
    have e0 : ((n : Int) % 6 == 0) = (n % 6 == 0) := by rw [Bool.eq_iff_iff]; simp; omega
    have e1 : (0 : Int) ≤ (n : Int) := by omega
    clear hR hmo
    go_enter Tryd.func73, Tryd.ntmps73
    go_wp2_with (first
      | (go_at_call 51; (with_reducible refine (shapeOf_any k _ (HG.out.alloc _)).mono ?_); rintro e w1 ⟨rfl, hb⟩
         obtain ⟨hc, hf⟩ := bcell hb
         have G1 := Lib.hid ((HG.out.alloc _).below hb)
         have L1 : w.heap.size < w1.heap.size := Nat.lt_of_lt_of_le (by simp) hb.size
         have HB := Lib.hid (below_box hb)
         clear hb)
      | (go_at_call 54; (with_reducible refine (has_ack k fl _ _ Ha.out).mono ?_); rintro e w2 ⟨rfl, rfl⟩))
    have G2 : Hid (Gl w1.drew) := G1.out.below (below_drewN (Below.refl _ _) 1)
    go_region_with (first
      | (go_at_call 64; (with_reducible refine (must_any n k fl s G2.out).mono ?_); rintro e w3 ⟨rfl, hb3⟩
         rw [Hm.out]
         have y3 : ∀ o, w3.cell? ⟨w.heap.size, o, none⟩ = w1.cell? ⟨w.heap.size, o, none⟩ := fun o => hb3.cell (p := ⟨w.heap.size, o, none⟩) L1
         have HB3 := Lib.hid ((HB.out.trans (below_drewN (Below.refl _ _) 1)).trans (hb3.mono (by have := HB.out.size; exact this)))
         clear hb3))
    all_goals
      go_wp2
      go_ret
      exact ⟨ret_bool HR.out, HB3.out⟩
  · have HR := Lib.hid hR
    have hmi : ((moN k : Nat) : Int) = 1 := by rw [hmo]; rfl
    clear hR hmo
    by_cases hle : m ≤ n
    · have e2 : decide ((0 : Int) ≤ (n : Int) - (m : Int)) = true := by simp; omega
      have HR : Hid (true = r) := (decide_eq_true hle).symm.trans HR.out
      go_enter Tryd.func73, Tryd.ntmps73
      go_wp2_with (first
        | (go_at_call 51; (with_reducible refine (shapeOf_any k _ (HG.out.alloc _)).mono ?_); rintro e w1 ⟨rfl, hb⟩
           obtain ⟨hc, hf⟩ := bcell hb
           have G1 := Lib.hid ((HG.out.alloc _).below hb)
           have L1 : w.heap.size < w1.heap.size := Nat.lt_of_lt_of_le (by simp) hb.size
           have HB := Lib.hid (below_box hb)
           clear hb)
        | (go_at_call 54; (with_reducible refine (has_ack k fl _ _ Ha.out).mono ?_); rintro e w2 ⟨rfl, rfl⟩))
      have G2 : Hid (Gl w1.drew) := G1.out.below (below_drewN (Below.refl _ _) 1)
      go_region_with (first
        | (go_at_call 64; (with_reducible refine (must_any n k fl s G2.out).mono ?_); rintro e w3 ⟨rfl, hb3⟩
           rw [Hm.out]
           have y3 : ∀ o, w3.cell? ⟨w.heap.size, o, none⟩ = w1.cell? ⟨w.heap.size, o, none⟩ := fun o => hb3.cell (p := ⟨w.heap.size, o, none⟩) L1
           have HB3 := Lib.hid ((HB.out.trans (below_drewN (Below.refl _ _) 1)).trans (hb3.mono (by have := HB.out.size; exact this)))
           clear hb3))
      all_goals
        go_wp2
        go_ret
        exact ⟨ret_bool HR.out, HB3.out⟩
    · have e2 : decide ((0 : Int) ≤ (n : Int) - (m : Int)) = false := by simp; omega
      have HR : Hid (false = r) := (decide_eq_false hle).symm.trans HR.out
      go_enter Tryd.func73, Tryd.ntmps73
      go_wp2_with (first
        | (go_at_call 51; (with_reducible refine (shapeOf_any k _ (HG.out.alloc _)).mono ?_); rintro e w1 ⟨rfl, hb⟩
           obtain ⟨hc, hf⟩ := bcell hb
           have G1 := Lib.hid ((HG.out.alloc _).below hb)
           have L1 : w.heap.size < w1.heap.size := Nat.lt_of_lt_of_le (by simp) hb.size
           have HB := Lib.hid (below_box hb)
           clear hb)
        | (go_at_call 54; (with_reducible refine (has_ack k fl _ _ Ha.out).mono ?_); rintro e w2 ⟨rfl, rfl⟩))
      have G2 : Hid (Gl w1.drew) := G1.out.below (below_drewN (Below.refl _ _) 1)
      go_region_with (first
        | (go_at_call 64; (with_reducible refine (must_any n k fl s G2.out).mono ?_); rintro e w3 ⟨rfl, hb3⟩
           rw [Hm.out]
           have y3 : ∀ o, w3.cell? ⟨w.heap.size, o, none⟩ = w1.cell? ⟨w.heap.size, o, none⟩ := fun o => hb3.cell (p := ⟨w.heap.size, o, none⟩) L1
           have HB3 := Lib.hid ((HB.out.trans (below_drewN (Below.refl _ _) 1)).trans (hb3.mono (by have := HB.out.size; exact this)))
           clear hb3))
      all_goals
        go_wp2
        go_ret
        exact ⟨ret_bool HR.out, HB3.out⟩
end
end Go.Proofs.YtokbdkbljgdcpaaDoor
