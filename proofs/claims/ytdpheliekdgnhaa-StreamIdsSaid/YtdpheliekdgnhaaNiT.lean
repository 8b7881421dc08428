/- The law StreamIds: the walk. -/
import Derived.Test.YtdpheliekdgnhaaNiR
namespace Go.Proofs.Ytdpheliekdgnhaa
open Go.RowKit Go.Own Go.Sm
set_option linter.unusedVariables false
set_option linter.unusedSimpArgs false
set_option maxRecDepth 100000
theorem openL_len (x : Idv) (z : Int) (l : List Int) : (openL x z l).length ≤ l.length + 1 := by
  unfold openL
  (repeat' split) <;> simp
theorem nextL_len (x : Idv) (l : List Int) : (nextL x l).length ≤ l.length + 1 := by
  unfold nextL
  (repeat' split) <;> simp
set_option maxHeartbeats 16000000 in
theorem lawIds {w : World} (b : Bool) (mo : Int) (hmo : i64i mo) {A : Option Addr} {n c : Nat} (hl : HoldsT Try.prog w 9 42 [.slice A n c]) :
    Calls Try.prog 6 #[.bool b, .int .i64 mo, .slice A n c] w fun e w' => e = .returned (.bool true) ∧ Below w.heap.size w w' := by
  obtain ⟨x0, hx0⟩ : ∃ x, newI b mo = x := ⟨_, rfl⟩
  have h0 := newI_ok b mo
  have hm0 : Mix x0 [] := by subst hx0; exact ⟨rfl, rfl, fun y h => by cases h⟩
  rw [hx0] at h0
  have HN := Lib.hid hx0
  have H0 := Lib.hid h0
  have M0 := Lib.hid hm0
  have HL := Lib.hid hl
  obtain ⟨hnc, hcm, _⟩ := HoldsT.slice (d := 8) Try.underlying42 hl
  clear hl h0 hm0 hx0 hmo
  go_enter Try.func6, Try.ntmps6
  go_wp2_with (first
    | (go_at_call 9; (with_reducible refine (shown_c _).mono ?_); rintro e w1 ⟨rfl, b1⟩; have B1 := Lib.hid b1; clear b1)
    | (go_at_call 13; (with_reducible refine (new_c _ b mo _ HN.out).mono ?_); rintro e w2 ⟨p, s1, s2, rfl, t1⟩
       have T1 := Lib.hid t1
       clear t1)
    | (go_at_call 14; (with_reducible refine (rnew_s _ b mo _ HN.out).mono ?_); rintro e w3 ⟨q, rfl, t2⟩
       have t3 : St (fun _ => False) w1 w3 (IdL p s1 s2 x0 (RL q w2.heap.size x0 none 0 [] [])) := St.add T1.out t2
       have T3 := Lib.hid (St.floor4 t3 (Nat.zero_le _))
       clear t2 t3))
  go_loopg [10] (min n 100) (fun gh i w' => ∃ (k : Nat) (x : Idv) (A' : Option Addr) (c' : Nat) (l : List Int), gh + k = min n 100 ∧ i = .int .i64 (k : Int) ∧ IdOk x k ∧ Mix x l ∧ l.length ≤ k ∧ St (fun _ => False) w1 w' (IdL p s1 s2 x (RL q 0 x A' c' l [])))
  case atStart => exact ⟨0, x0, none, 0, [], by omega, rfl, H0.out, M0.out, Nat.le_refl _, T3.out⟩
  case round =>
    obtain ⟨k, x, A', c', l, hk, rfl, hok, hmix, hlen, hs⟩ := hrel
    have HS := Lib.hid hs
    have b2 := B1.out.trans (hs.below.mono B1.out.size)
    have B2 := Lib.hid b2
    clear hs
    cases gk with
    | zero =>
      have hk2 : (k = n ∧ ¬ k < n) ∨ (k < n ∧ k = 100) := by omega
      clear hk b2 hok hmix hlen
      rcases hk2 with ⟨rfl, h1⟩ | ⟨h1, rfl⟩
      all_goals
        go_wp2
        go_ret
        exact ⟨rfl, B2.out⟩
    | succ g1 =>
      have k1 : k < n := by omega
      have k2 : k < 100 := by omega
      obtain ⟨bl, o, kd, z, rfl, d0, d1, hkd, hz⟩ := op_at HL.out (i := k) k1
      have e0 := cell_to b2 d0
      have e1 := cell_to b2 d1
      have HZ := Lib.hid hz
      have HO := Lib.hid hok
      have HM := Lib.hid hmix
      have HG := Lib.hid hlen
      have HT : Hid (x.th.length < 1000000) := by unfold Hid; have := hok.sz; omega
      have HU : Hid (x.ou.length < 1000000) := by unfold Hid; have := hok.sz; omega
      have HB : Hid (l.length < 1000000) := by unfold Hid; omega
      have Z0 : Hid (0 ≤ wr.heap.size) := Nat.zero_le _
      clear hz hkd d0 d1 hok hmix hlen
      have hkd : kd = 1 ∨ (¬ kd = 1 ∧ kd = 2) ∨ (¬ kd = 1 ∧ ¬ kd = 2 ∧ kd = 3) ∨ (¬ kd = 1 ∧ ¬ kd = 2 ∧ ¬ kd = 3 ∧ kd = 4) ∨ (¬ kd = 1 ∧ ¬ kd = 2 ∧ ¬ kd = 3 ∧ ¬ kd = 4 ∧ kd = 5) ∨ (¬ kd = 1 ∧ ¬ kd = 2 ∧ ¬ kd = 3 ∧ ¬ kd = 4 ∧ ¬ kd = 5) := by omega
      rcases hkd with rfl | ⟨h1, rfl⟩ | ⟨h1, h2, rfl⟩ | ⟨h1, h2, h3, rfl⟩ | ⟨h1, h2, h3, h4, rfl⟩ | ⟨h1, h2, h3, h4, h5⟩
      · obtain ⟨i, d, t, hf⟩ : ∃ i d t, openF x z = (i, d, t) := ⟨_, _, _, rfl⟩
        obtain ⟨y, hy⟩ : ∃ y, openS x z = y := ⟨_, rfl⟩
        obtain ⟨l', hl'⟩ : ∃ l', openL x z l = l' := ⟨_, rfl⟩
        have hoy := (HO.out.open_ z).1
        have hm5 := HM.out.open_ z
        have hlen := openL_len x z l
        rw [hy] at hoy
        rw [hy, hl'] at hm5
        rw [hl'] at hlen
        have HF := Lib.hid hf
        have HY := Lib.hid hy
        have HL' := Lib.hid hl'
        have HOY := Lib.hid hoy
        have HM5 := Lib.hid hm5
        have HL5 : Hid (l'.length ≤ k + 1) := by unfold Hid; have := HG.out; omega
        have HB5 : Hid (l'.length < 1000000) := by unfold Hid; have := HL5.out; omega
        have HNW : Hid (classV x z = 1 → ¬ z ∈ x.th) := fun h => HO.out.openNew h
        have E1 := fun W => flt_eql i d t W
        clear hf hy hl' hoy hm5 hlen
        go_wp2_with (first
          | (go_at_call 15; (with_reducible refine (open_l HS.out z HZ.out _ _ _ _ HF.out HY.out HT.out HNW.out).mono ?_); rintro e w4 ⟨rfl, t4⟩
             have S4 := Lib.hid t4
             clear t4)
          | (go_at_call 16; (with_reducible refine (ropen_l S4.out HM.out HB.out (Nat.zero_le _) z _ _ _ _ HF.out HY.out _ HL'.out).mono ?_); rintro e w5 ⟨rfl, A5, c5, t5⟩
             have S5 := Lib.hid t5
             clear t5)
          | (go_at_call 27; (with_reducible refine (active_c S5.out).mono ?_); rintro e w6 ⟨rfl, n6, hw6⟩
             have S6 := Lib.hid (St.drewN S5.out n6)
             rw [← hw6] at S6
             clear hw6)
          | (go_at_call 28; (with_reducible refine (ractive_c S6.out HM5.out HB5.out).mono ?_); rintro e w7 ⟨rfl, n7, hw7⟩
             have S7 := Lib.hid (St.drewN S6.out n7)
             rw [← hw7] at S7
             clear hw7)
          | (go_at_call 29; (with_reducible refine (last_c S7.out).mono ?_); rintro e w8 ⟨rfl, rfl⟩)
          | (go_at_call 30; (with_reducible refine (rlast_c S7.out).mono ?_); rintro e w8 ⟨rfl, rfl⟩))
        go_roundg g1
        case measure => omega
        case rel => exact ⟨k + 1, y, _, _, l', by omega, by go_num, HOY.out, HM5.out, HL5.out, S7.out⟩
      · obtain ⟨a, f, hf⟩ : ∃ a f, nextV x = (a, f) := ⟨_, _, rfl⟩
        obtain ⟨y, hy⟩ : ∃ y, nextS x = y := ⟨_, rfl⟩
        obtain ⟨l', hl'⟩ : ∃ l', nextL x l = l' := ⟨_, rfl⟩
        have hoy := (HO.out.next_).1
        have hm5 := HM.out.next_ HO.out
        have hlen := nextL_len x l
        rw [hy] at hoy
        rw [hy, hl'] at hm5
        rw [hl'] at hlen
        have HF := Lib.hid hf
        have HY := Lib.hid hy
        have HL' := Lib.hid hl'
        have HOY := Lib.hid hoy
        have HM5 := Lib.hid hm5
        have HL5 : Hid (l'.length ≤ k + 1) := by unfold Hid; have := HG.out; omega
        have HB5 : Hid (l'.length < 1000000) := by unfold Hid; have := HL5.out; omega
        have HNN := Lib.hid HO.out.nextNew
        have HN0 : Hid (0 ≤ x.next) := by unfold Hid; have := HO.out.nx.1; omega
        clear hf hy hl' hoy hm5 hlen
        go_wp2_with (first
          | (go_at_call 17; (with_reducible refine (next_c HS.out _ _ _ HF.out HY.out HU.out HNN.out HN0.out).mono ?_); rintro e w4 ⟨rfl, t4⟩
             have S4 := Lib.hid t4
             clear t4)
          | (go_at_call 18; (with_reducible refine (rnext_c S4.out HM.out HO.out HB.out (Nat.zero_le _) _ _ _ HF.out HY.out _ HL'.out).mono ?_); rintro e w5 ⟨rfl, A5, c5, t5⟩
             have S5 := Lib.hid t5
             clear t5)
          | (go_at_call 27; (with_reducible refine (active_c S5.out).mono ?_); rintro e w6 ⟨rfl, n6, hw6⟩
             have S6 := Lib.hid (St.drewN S5.out n6)
             rw [← hw6] at S6
             clear hw6)
          | (go_at_call 28; (with_reducible refine (ractive_c S6.out HM5.out HB5.out).mono ?_); rintro e w7 ⟨rfl, n7, hw7⟩
             have S7 := Lib.hid (St.drewN S6.out n7)
             rw [← hw7] at S7
             clear hw7)
          | (go_at_call 29; (with_reducible refine (last_c S7.out).mono ?_); rintro e w8 ⟨rfl, rfl⟩)
          | (go_at_call 30; (with_reducible refine (rlast_c S7.out).mono ?_); rintro e w8 ⟨rfl, rfl⟩))
        go_roundg g1
        case measure => omega
        case rel => exact ⟨k + 1, y, _, _, l', by omega, by go_num, HOY.out, HM5.out, HL5.out, S7.out⟩
      · obtain ⟨E, hE⟩ : ∃ E, closeE x z = E := ⟨_, rfl⟩
        obtain ⟨y, hy⟩ : ∃ y, closeS x z = y := ⟨_, rfl⟩
        have hoy := (HO.out.close_ z).1.mono (Nat.le_succ k)
        have hm5 := HM.out.close z
        rw [hy] at hoy hm5
        have hlen := len_out9_le (z := z) (l := l)
        have HE := Lib.hid hE
        have HY := Lib.hid hy
        have HOY := Lib.hid hoy
        have HM5 := Lib.hid hm5
        have HL5 : Hid ((out9 z l).length ≤ k + 1) := by unfold Hid; have := HG.out; omega
        have HB5 : Hid ((out9 z l).length < 1000000) := by unfold Hid; have := HL5.out; omega
        clear hE hy hoy hm5 hlen
        go_wp2_with (first
          | (go_at_call 19; (with_reducible refine (close_c HS.out z HZ.out _ _ HE.out HY.out).mono ?_); rintro e w4 ⟨rfl, t4⟩
             have S4 := Lib.hid t4
             clear t4)
          | (go_at_call 20; (with_reducible refine (rclose_c S4.out HM.out HB.out (Nat.zero_le _) z _ _ HE.out HY.out).mono ?_); rintro e w5 ⟨rfl, A5, c5, t5⟩
             have S5 := Lib.hid t5
             clear t5)
          | (go_at_call 27; (with_reducible refine (active_c S5.out).mono ?_); rintro e w6 ⟨rfl, n6, hw6⟩
             have S6 := Lib.hid (St.drewN S5.out n6)
             rw [← hw6] at S6
             clear hw6)
          | (go_at_call 28; (with_reducible refine (ractive_c S6.out HM5.out HB5.out).mono ?_); rintro e w7 ⟨rfl, n7, hw7⟩
             have S7 := Lib.hid (St.drewN S6.out n7)
             rw [← hw7] at S7
             clear hw7)
          | (go_at_call 29; (with_reducible refine (last_c S7.out).mono ?_); rintro e w8 ⟨rfl, rfl⟩)
          | (go_at_call 30; (with_reducible refine (rlast_c S7.out).mono ?_); rintro e w8 ⟨rfl, rfl⟩))
        go_roundg g1
        case measure => omega
        case rel => exact ⟨k + 1, y, _, _, out9 z l, by omega, by go_num, HOY.out, HM5.out, HL5.out, S7.out⟩
      · obtain ⟨u, hu⟩ : ∃ u, posV z = u := ⟨_, rfl⟩
        have HU2 := Lib.hid hu
        have HOY := Lib.hid ((HO.out.most_ u).mono (Nat.le_succ k))
        have HM5 : Hid (Mix { x with most := u } l) := ⟨HM.out.th, HM.out.ou, HM.out.pos⟩
        have HL5 : Hid (l.length ≤ k + 1) := by unfold Hid; have := HG.out; omega
        have HB5 := HB
        clear hu
        go_wp2_with (first
          | (go_at_call 21; (with_reducible refine (setMost_c HS.out z _ HU2.out).mono ?_); rintro e w4 ⟨rfl, t4⟩
             have S4 := Lib.hid t4
             clear t4)
          | (go_at_call 22; (with_reducible refine (rsetMost_c S4.out z _ HU2.out).mono ?_); rintro e w5 ⟨rfl, t5⟩
             have S5 := Lib.hid t5
             clear t5)
          | (go_at_call 27; (with_reducible refine (active_c S5.out).mono ?_); rintro e w6 ⟨rfl, n6, hw6⟩
             have S6 := Lib.hid (St.drewN S5.out n6)
             rw [← hw6] at S6
             clear hw6)
          | (go_at_call 28; (with_reducible refine (ractive_c S6.out HM5.out HB5.out).mono ?_); rintro e w7 ⟨rfl, n7, hw7⟩
             have S7 := Lib.hid (St.drewN S6.out n7)
             rw [← hw7] at S7
             clear hw7)
          | (go_at_call 29; (with_reducible refine (last_c S7.out).mono ?_); rintro e w8 ⟨rfl, rfl⟩)
          | (go_at_call 30; (with_reducible refine (rlast_c S7.out).mono ?_); rintro e w8 ⟨rfl, rfl⟩))
        go_roundg g1
        case measure => omega
        case rel => exact ⟨k + 1, { x with most := u }, _, _, l, by omega, by go_num, HOY.out, HM5.out, HL5.out, S7.out⟩
      · obtain ⟨u, hu⟩ : ∃ u, posV z = u := ⟨_, rfl⟩
        have HU2 := Lib.hid hu
        have HOY := Lib.hid ((HO.out.lim_ u).mono (Nat.le_succ k))
        have HM5 : Hid (Mix { x with lim := u } l) := ⟨HM.out.th, HM.out.ou, HM.out.pos⟩
        have HL5 : Hid (l.length ≤ k + 1) := by unfold Hid; have := HG.out; omega
        have HB5 := HB
        clear hu
        go_wp2_with (first
          | (go_at_call 23; (with_reducible refine (limit_c HS.out z _ HU2.out).mono ?_); rintro e w4 ⟨rfl, t4⟩
             have S4 := Lib.hid t4
             clear t4)
          | (go_at_call 24; (with_reducible refine (rlimit_c S4.out z _ HU2.out).mono ?_); rintro e w5 ⟨rfl, t5⟩
             have S5 := Lib.hid t5
             clear t5)
          | (go_at_call 27; (with_reducible refine (active_c S5.out).mono ?_); rintro e w6 ⟨rfl, n6, hw6⟩
             have S6 := Lib.hid (St.drewN S5.out n6)
             rw [← hw6] at S6
             clear hw6)
          | (go_at_call 28; (with_reducible refine (ractive_c S6.out HM5.out HB5.out).mono ?_); rintro e w7 ⟨rfl, n7, hw7⟩
             have S7 := Lib.hid (St.drewN S6.out n7)
             rw [← hw7] at S7
             clear hw7)
          | (go_at_call 29; (with_reducible refine (last_c S7.out).mono ?_); rintro e w8 ⟨rfl, rfl⟩)
          | (go_at_call 30; (with_reducible refine (rlast_c S7.out).mono ?_); rintro e w8 ⟨rfl, rfl⟩))
        go_roundg g1
        case measure => omega
        case rel => exact ⟨k + 1, { x with lim := u }, _, _, l, by omega, by go_num, HOY.out, HM5.out, HL5.out, S7.out⟩
      · obtain ⟨v, hv⟩ : ∃ v, classV x z = v := ⟨_, rfl⟩
        have HV := Lib.hid hv
        have HM5 := HM
        have HB5 := HB
        have S5 := HS
        clear hv
        go_wp2_with (first
          | (go_at_call 25; (with_reducible refine (class_c HS.out z _ HV.out).mono ?_); rintro e w4 ⟨rfl, hw⟩; rw [hw]; clear hw)
          | (go_at_call 26; (with_reducible refine (rclass_c HS.out z _ HV.out).mono ?_); rintro e w4 ⟨rfl, hw⟩; rw [hw]; clear hw)
          | (go_at_call 27; (with_reducible refine (active_c S5.out).mono ?_); rintro e w6 ⟨rfl, n6, hw6⟩
             have S6 := Lib.hid (St.drewN S5.out n6)
             rw [← hw6] at S6
             clear hw6)
          | (go_at_call 28; (with_reducible refine (ractive_c S6.out HM5.out HB5.out).mono ?_); rintro e w7 ⟨rfl, n7, hw7⟩
             have S7 := Lib.hid (St.drewN S6.out n7)
             rw [← hw7] at S7
             clear hw7)
          | (go_at_call 29; (with_reducible refine (last_c S7.out).mono ?_); rintro e w8 ⟨rfl, rfl⟩)
          | (go_at_call 30; (with_reducible refine (rlast_c S7.out).mono ?_); rintro e w8 ⟨rfl, rfl⟩))
        go_roundg g1
        case measure => omega
        case rel => exact ⟨k + 1, x, _, _, l, by omega, by go_num, HO.out.mono (by omega), HM.out, by have := HG.out; omega, S7.out⟩
end Go.Proofs.Ytdpheliekdgnhaa
