/- The contracts of package octets' queue (New, Push, Pop, Peek, Len, Room), over the seat's translation. -/
import Derived.Test.YtfklllikihjjhaaSmall
import Derived.Deep.QuietTactic
import Derived.BigQuiet
import Derived.Deep.RegionLaw
import Derived.StillTailTactics
namespace Go.Proofs.Ytfklllikihjjhaa
open Go.ChangeShapes Go.WideShapes Go.ChangeAt Go.RowKit Go.Own
set_option linter.unusedVariables false

/-- at block p lies a queue of the bound most that holds xs, in the slice sv -/
def QAt (w : World) (p : Nat) (sv : Value) (most : Nat) (xs : List UInt8) : Prop :=
  Blk w p 54 [sv, .int .i64 (most : Int)] ∧ w.ownsRow 0 5 1 sv xs.length (xs.map BV) ∧ xs.length ≤ most ∧ most ≤ 1000000

theorem New_any (most : Int) (w : World) :
    Calls Try.prog 12 #[.int .i64 most] w fun e w' => ∃ p, e = .returned (.pointer (some ⟨p, 0, none⟩)) ∧ QAt w' p (.slice none 0 0) (max 0 (min most 1000000)).toNat [] ∧ w.heap.size ≤ p ∧ Below w.heap.size w w' := by
  go_enter Try.func12, Try.ntmps12
  go_wp2_with (go_at_call 24; refine (upTo_any _ _ _).mono ?_; rintro e w' ⟨rfl, rfl⟩)
  go_ret
  have em : (((max 0 (min most 1000000)).toNat : Nat) : Int) = max 0 (min most 1000000) := by omega
  refine ⟨_, rfl, ⟨?_, World.ownsRow_nil _ _ _ _, by simp, by omega⟩, Nat.le_refl _, (Below.refl _ _).alloc (Nat.le_refl _) _⟩
  rw [em]
  exact Blk.new w 54 [.slice none 0 0, .int .i64 (max 0 (min most 1000000))]

theorem Len_any (p : Nat) (sv : Value) (most : Nat) (xs : List UInt8) (w : World) (hq : QAt w p sv most xs) :
    Calls Try.prog 20 #[.pointer (some ⟨p, 0, none⟩)] w fun e w' => e = .returned (.int .i64 xs.length) ∧ w = w' := by
  obtain ⟨A, c, rfl, h1, h2, _⟩ := own_shape hq.2.1
  have hc0 := hq.1.cell 0
  simp only [List.getElem?_cons_zero] at hc0
  clear hq
  go_enter Try.func20, Try.ntmps20
  go_wp2
  go_ret
  exact ⟨rfl, rfl⟩
theorem Room_any (p : Nat) (sv : Value) (most : Nat) (xs : List UInt8) (w : World) (hq : QAt w p sv most xs) :
    Calls Try.prog 21 #[.pointer (some ⟨p, 0, none⟩)] w fun e w' => e = .returned (.int .i64 ((most : Int) - xs.length)) ∧ ∃ k, w' = w.drewN k := by
  obtain ⟨A, c, rfl, h1, h2, _⟩ := own_shape hq.2.1
  have hc0 := hq.1.cell 0
  have hc1 := hq.1.cell 1
  have hm := hq.2.2
  obtain ⟨hm1, hm2⟩ := hm
  simp only [List.getElem?_cons_zero, List.getElem?_cons_succ] at hc0 hc1
  clear hq
  go_enter Try.func21, Try.ntmps21
  have hwr : IntKind.i64.wrap ((most : Int) - xs.length) = (most : Int) - xs.length := by rw [IntKind.wrap_i64]; omega
  go_wp2
  go_quiet (fail)
  go_wp2
  go_ret
  exact ⟨rfl, _, rfl⟩

set_option maxHeartbeats 400000 in
theorem Peek_any (p : Nat) (sv : Value) (most : Nat) (xs : List UInt8) (n : Int) (w : World) (hq : QAt w p sv most xs) :
    Calls Try.prog 18 #[.pointer (some ⟨p, 0, none⟩), .int .i64 n] w fun e w' => ∃ g m : Nat, e = .returned (.slice (some ⟨g, 0, none⟩) m m) ∧ m = (max 0 (min n xs.length)).toNat ∧
      Blk w' g 5 ((xs.take m).map BV) ∧ w.heap.size ≤ g ∧ Below w.heap.size w w' := by
  obtain ⟨A, c, rfl, h1, h2, hr, _⟩ := own_shape hq.2.1
  have hc0 := hq.1.cell 0
  have hp := hq.1.lt
  obtain ⟨_, _, hm1, hm2⟩ := hq
  simp only [List.getElem?_cons_zero] at hc0
  obtain ⟨m, hm⟩ : ∃ m, (max 0 (min n xs.length)).toNat = m := ⟨_, rfl⟩
  have em : max 0 (min n (xs.length : Int)) = (m : Int) := by omega
  have hml : m ≤ xs.length := by omega
  have Hm := Lib.hid hm
  clear hm
  have hu := upTo_any n xs.length
  rw [em] at hu
  clear em
  have hmk := run_make_zeros E22 rfl .i64 .i64 (m : Int) m rfl (by omega) (by omega)
  have hg0 : Blk (w.alloc (.cells (zeros zeroB m).toArray 5)) w.heap.size 5 (zeros zeroB m) := Blk.new _ _ _
  have hs1 : Rd (w.alloc (.cells (zeros zeroB m).toArray 5)) 1 A xs.length (xs.map BV) := hr.below ((Below.refl _ _).alloc (Nat.le_refl _) _)
  have Hmin : Hid (Nat.min xs.length m = m) := Nat.min_eq_right hml
  have hsp : Hid (splice (zeros zeroB m) 0 ((xs.map BV).take m) = (xs.take m).map BV) := by
    show _ = _
    have e : ((xs.map BV).take m).length = m := by simp; omega
    rw [splice, e]
    simp [zeros]
  go_enter Try.func18, Try.ntmps18
  go_wp2_with (first
    | (go_at_call 24; refine (hu _).mono ?_; rintro e w' ⟨rfl, rfl⟩)
    | (with_reducible refine wpList_copy_blk rfl (.tmp 14) (.tmp 18) 22 22 rfl 5 Try.underlying22 info5 (some ⟨w.heap.size, 0, none⟩) A m m xs.length c rfl rfl w.heap.size 0 (zeros zeroB m) 5 hg0 (xs.map BV) hs1 (BV_one xs) (fun _ => rfl) (by rw [Hmin.out, zeros_length]; simp) ?_
       intro w1 k hk hB1 hF1))
  go_ret
  refine ⟨_, m, rfl, Hm.out.symm, ?_, Nat.le_refl _, ((Below.refl _ _).alloc (Nat.le_refl _) _).trans (hF1.below (by simp) (fun i _ h => by omega))⟩
  have := hk.out
  rw [Hmin.out] at this
  subst this
  rw [← hsp.out]
  exact hB1

set_option maxHeartbeats 400000 in
theorem Push_any (p : Nat) (sv : Value) (most : Nat) (xs : List UInt8) (B : Option Addr) (nb cb : Nat) (ys : List UInt8) (w : World) (hq : QAt w p sv most xs) (hb : Rd w 1 B nb (ys.map BV)) (hnc : nb ≤ cb) (hcb : cb ≤ 9223372036854775807) :
    Calls Try.prog 14 #[.pointer (some ⟨p, 0, none⟩), .slice B nb cb] w fun e w' => ∃ (sv' : Value) (m : Nat), e = .returned (.int .i64 m) ∧ m = min nb (most - xs.length) ∧ QAt w' p sv' most (xs ++ ys.take m) ∧
      Fr (fun i => i = p ∨ some i = sv.ownBlock) w w' ∧ (sv'.ownBlock = sv.ownBlock ∨ ∃ g, sv'.ownBlock = some g ∧ w.heap.size ≤ g) := by
  obtain ⟨r, hr⟩ : ∃ r, most - xs.length = r := ⟨_, rfl⟩
  have hroom := Room_any p sv most xs w hq
  rw [show (most : Int) - xs.length = (r : Int) by have := hq.2.2.1; omega] at hroom
  obtain ⟨A, c, rfl, h1, h2, _, _⟩ := own_shape hq.2.1
  have hc0 : ∀ q, (w.drewN q).cell? ⟨p, 0, none⟩ = some (.slice A xs.length c) := fun q => hq.1.cell 0
  obtain ⟨hB, hown, hm1, hm2⟩ := hq
  have hys : ys.length = nb := by simpa using hb.1
  obtain ⟨m, hm⟩ : ∃ m, min nb (most - xs.length) = m := ⟨_, rfl⟩
  have hm4 : xs.length + m ≤ 1000000 := by omega
  have hbm : ∀ q, Rd (w.drewN q) 1 B m ((ys.take m).map BV) := fun q => by have := hb.take (k := m) (by omega); rw [Nat.mul_one, ← List.map_take] at this; exact this
  have key : (r < nb ∧ m = r) ∨ (nb ≤ r ∧ m = nb) := by omega
  have Hmm := Lib.hid hm
  have Hys0 := Lib.hid hys
  have hown' : ∀ q, (w.drewN q).ownsRow 0 5 1 (.slice A xs.length c) xs.length (xs.map BV) := fun q => hown
  have Hown := Lib.hid hown'
  have Hbm := Lib.hid hbm
  clear hown hbm hown' hb hys hr hm
  have hmc : m ≤ cb := by omega
  have Hlen : Hid ((ys.take m).length = m) := show _ = _ by rw [List.length_take]; have := Hys0.out; omega
  have Hmost : Hid (xs.length + m ≤ most) := show _ ≤ _ by have := Hmm.out; omega
  have Hne : Hid ((Value.slice A xs.length c).ownBlock ≠ some p) := own_ne_blk (Hown.out 0) hB (by decide)
  have HB := Lib.hid hB
  clear hB
  rcases key with ⟨hlt, rfl⟩ | ⟨hlt, rfl⟩
  all_goals
    go_enter Try.func14, Try.ntmps14
    go_wp2_with (first
      | (go_at_call 21; refine hroom.mono ?_; rintro e w' ⟨rfl, q, rfl⟩))
    go_region_law (refine step_append_rd rfl (.tmp 15) (.tmp 18) 22 rfl E22 (.slice A xs.length c) xs.length (xs.map BV) (by simp [Act.eval]) (Hown.out _) B _ cb ((ys.take _).map BV) (by simp [Act.eval]) (Hbm.out _) (BV_one _) (by omega) (by unfold maxLen; omega) (Nat.zero_le _) ?_
                   intro A' c' w' ho hf ho2
                   have hbp : Blk w' p 54 [.slice A xs.length c, .int .i64 (most : Int)] := Blk.fr (HB.out.drewN _) hf (fun h => Hne.out h.symm)
                   have hcp := hbp.cell 0
                   simp only [List.getElem?_cons_zero] at hcp
                   have hzp := hbp.frozen 0
                   have Ho := Lib.hid ho
                   have Ho2 := Lib.hid ho2
                   clear ho ho2)
    go_wp2
    go_ret
    have hne' := own_ne_blk Ho.out hbp (by decide)
    refine ⟨_, m, rfl, Hmm.out.symm, ⟨hbp.set_ 0 _, ?_, ?_, hm2⟩, ?_, ?_⟩
    · have := own_fr (S := (· = p)) Ho.out (Fr.setCell (S := (· = p)) (Fr.refl _ _) (p := ⟨p, 0, none⟩) (.inl rfl) (.slice A' (xs.length + m) c')) (fun g hg e => hne' (by rw [hg, e]))
      rw [List.map_append, List.length_append, Hlen.out]
      exact this
    · rw [List.length_append, Hlen.out]; exact Hmost.out
    · exact (((Fr.refl _ w).drewN _).trans hf (fun i _ h => .inr h)).setCell (.inl (.inl rfl)) _
    · exact Ho2.out.imp id (fun h => ⟨_, h, Nat.le_refl _⟩)

set_option maxHeartbeats 400000 in
theorem Pop_any (p : Nat) (sv : Value) (most : Nat) (xs : List UInt8) (n : Int) (w : World) (hq : QAt w p sv most xs) :
    Calls Try.prog 16 #[.pointer (some ⟨p, 0, none⟩), .int .i64 n] w fun e w' => ∃ (sv' : Value) (g m : Nat), e = .returned (.slice (some ⟨g, 0, none⟩) m m) ∧ m = (max 0 (min n xs.length)).toNat ∧
      Blk w' g 5 ((xs.take m).map BV) ∧ w.heap.size ≤ g ∧ QAt w' p sv' most (xs.drop m) ∧ Fr (fun i => i = p ∨ some i = sv.ownBlock) w w' ∧ sv'.ownBlock = sv.ownBlock := by
  have hpk := Peek_any p sv most xs n w hq
  have hp := hq.1.lt
  obtain ⟨A, c, rfl, h1, h2, _, _⟩ := own_shape hq.2.1
  obtain ⟨hB, hown, hm1, hm2⟩ := hq
  have HB := Lib.hid hB
  have Hown := Lib.hid hown
  have Hne : Hid ((Value.slice A xs.length c).ownBlock ≠ some p) := own_ne_blk hown hB (by decide)
  clear hB hown
  unfold maxLen at h2
  go_enter Try.func16, Try.ntmps16
  go_wp2_with (go_at_call 18; refine hpk.mono ?_; rintro e w1 ⟨g, m, rfl, hm, hg1, hg2, hb1⟩; have Hm := Lib.hid hm; clear hm)
  have hmx : m ≤ xs.length := by have := Hm.out; omega
  have hB1 := HB.out.below hb1 hp
  have hown1 := own_fr Hown.out (Fr.of_below (S := fun i => w.heap.size ≤ i) hb1 (fun i _ h => h)) (fun j hj h => by have := own_lt Hown.out hj; omega)
  have hc0 : w1.cell? ⟨p, 0, none⟩ = some (.slice A xs.length c) := hB1.cell 0
  have hmc : m ≤ c := by omega
  have hm1 : (m : Int) ≤ (xs.length : Int) := by omega
  have Hown1 := Lib.hid hown1
  have HB1 := Lib.hid hB1
  have hcut : ∀ q, Rd (w1.drewN q) 1 (if c = m then A else A.map (·.add m)) (xs.length - m) ((xs.drop m).map BV) := fun q => by
    have := (Rd.of_own hown1).drop hmx h1
    rw [Nat.mul_one, ← List.map_drop] at this
    exact this
  obtain ⟨T, hT⟩ : ∃ T, (if c = m then A else A.map (·.add m)) = T := ⟨_, rfl⟩
  rw [hT] at hcut
  have Hcut := Lib.hid hcut
  clear hcut hown1 hB1
  have hne1 : Hid ((Value.slice A xs.length c).ownBlock ≠ some p) := Hne
  go_region_law (refine step_copy_owned rfl (.tmp 13) (.tmp 20) 22 22 rfl Try.underlying22 info5 (.slice A xs.length c) xs.length (xs.map BV) (by simp [Act.eval, Act.put]) Hown1.out T (xs.length - m) (c - m) ((xs.drop m).map BV) (by simp [Act.eval, Act.put]) (Hcut.out _) (BV_one _) ?_
                 intro w2 k hk ho hf
                 have Hk := Lib.hid hk
                 have Ho := Lib.hid ho
                 have Hf := Lib.hid hf
                 clear hk ho hf)
  all_goals
    have hle : k ≤ xs.length := by have := Hk.out; rw [this]; exact Nat.min_le_right _ _
    have hkc : (k : Int) ≤ (c : Int) := by omega
    have HB2 : Hid (Blk w2 p 54 [.slice A xs.length c, .int .i64 (most : Int)]) := HB1.out.drew.fr Hf.out (fun e => Hne.out e.symm)
    have hc2 : w2.cell? ⟨p, 0, none⟩ = some (.slice A xs.length c) := HB2.out.cell 0
    have hz2 : w2.frozen? ⟨p, 0, none⟩ = false := HB2.out.frozen 0
    go_wp2
    go_ret
    have hkv : k = xs.length - m := by have h := Hk.out; rw [h]; exact Nat.min_eq_left (by omega)
    have hgp : g ≠ p := by omega
    have hgo : ∀ j, (Value.slice A xs.length c).ownBlock = some j → j ≠ g := fun j hj e => by have := own_lt Hown.out hj; omega
    have hown2 : w2.ownsRow 0 5 1 (.slice A k c) k ((xs.drop m).map BV) := by
      have h := own_take Ho.out hle
      have e : (((xs.drop m).map BV).take k ++ (xs.map BV).drop k).take (k * 1) = (xs.drop m).map BV := by
        have hl : ((xs.drop m).map BV).length = k := by simp; omega
        rw [Nat.mul_one, List.take_of_length_le (Nat.le_of_eq hl), List.take_append_of_le_length (Nat.le_of_eq hl.symm), List.take_of_length_le (Nat.le_of_eq hl)]
      rw [e] at h
      exact h
    have hne2 := own_ne_blk hown2 HB2.out (by decide)
    refine ⟨.slice A k c, g, m, rfl, Hm.out, ?_, hg2, ⟨HB2.out.set_ 0 _, ?_, ?_, hm2⟩, ?_, ?_⟩
    · exact (hg1.drew.fr Hf.out (fun e => hgo g e.symm rfl)).far (p := ⟨p, 0, none⟩) hgp _
    · have := own_fr (S := (· = p)) hown2 (Fr.setCell (S := (· = p)) (Fr.refl _ _) (p := ⟨p, 0, none⟩) (.inl rfl) (.slice A k c)) (fun g hg e => hne2 (by rw [hg, e]))
      rw [List.length_drop, ← hkv]
      exact this
    · rw [List.length_drop]; omega
    · exact (((Fr.of_below hb1 (fun i h1 h2 => by omega)).drew).trans Hf.out (fun i _ h => .inr h)).setCell (.inl (.inl rfl)) _
    · cases A <;> rfl
end Go.Proofs.Ytfklllikihjjhaa
