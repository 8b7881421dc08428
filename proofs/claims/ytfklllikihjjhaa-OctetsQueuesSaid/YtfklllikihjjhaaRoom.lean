/- OctetsRoom's walk: whatever the input, true. -/
import Derived.Test.YtfklllikihjjhaaQB
import Derived.Test.YtfklllikihjjhaaShape
namespace Go.Proofs.Ytfklllikihjjhaa
open Go.ChangeShapes Go.WideShapes Go.ChangeAt Go.RowKit Go.Own
set_option linter.unusedVariables false

theorem cells22 : Try.prog.cellsOf 22 = 1 := by kernel_rfl
theorem cells3 : Try.prog.cellsOf 3 = 1 := by kernel_rfl
theorem cells5 : Try.prog.cellsOf 5 = 1 := by kernel_rfl
/-- the k-th of the slices of bytes -/
theorem row_at {W : World} {A : Option Addr} {n c k : Nat} (s : HoldsT Try.prog W 9 45 [.slice A n c]) (hk : k < n) :
    ∃ (b o : Nat) (B : Option Addr) (len cap : Nat) (xs : List UInt8), A = some ⟨b, o, none⟩ ∧ W.cell? ⟨b, o + k, none⟩ = some (.slice B len cap) ∧ Rd W 1 B len (xs.map BV) ∧ len ≤ cap ∧ cap ≤ 9223372036854775807 := by
  obtain ⟨b, o, v, hA, hc, hv⟩ := s.at_ Try.underlying45 cells22 hk
  obtain ⟨B, len, cap, rfl⟩ := hv.isSlice Try.underlying22
  obtain ⟨h1, h2, _⟩ := hv.slice Try.underlying22
  obtain ⟨xs, hr⟩ := HoldsT.bytes Try.underlying22 Try.underlying5 cells5 hv
  exact ⟨b, o, B, len, cap, xs, hA, hc, hr, h1, h2⟩
theorem int_at {W : World} {A : Option Addr} {n c k : Nat} (s : HoldsT Try.prog W 9 46 [.slice A n c]) (hk : k < n) :
    ∃ b o m, A = some ⟨b, o, none⟩ ∧ W.cell? ⟨b, o + k, none⟩ = some (.int .i64 m) ∧ -9223372036854775808 ≤ m ∧ m ≤ 9223372036854775807 := by
  obtain ⟨b, o, v, hA, hc, hv⟩ := s.at_ Try.underlying46 cells3 hk
  obtain ⟨m, rfl, hm⟩ := hv.int Try.underlying3
  have hb : -9223372036854775808 ≤ m ∧ m ≤ 9223372036854775807 := by simpa [Lit.wf, IntKind.min, IntKind.max, IntKind.signed, IntKind.bits] using hm
  exact ⟨b, o, m, hA, hc, hb.1, hb.2⟩

set_option maxHeartbeats 1600000 in
theorem room_walk {W : World} {most : Int} (wm : (Lit.int .i64 most).wf = true) {A1 A2 : Option Addr} {n1 c1 n2 c2 : Nat} (s1 : HoldsT Try.prog W 9 45 [.slice A1 n1 c1]) (s2 : HoldsT Try.prog W 9 46 [.slice A2 n2 c2]) :
    Calls Try.prog 7 #[.int .i64 most, .slice A1 n1 c1, .slice A2 n2 c2] W fun e w' => e = .returned (.bool true) ∧ Below W.heap.size W w' := by
  have hb : -9223372036854775808 ≤ most ∧ most ≤ 9223372036854775807 := by simpa [Lit.wf, IntKind.min, IntKind.max, IntKind.signed, IntKind.bits] using wm
  obtain ⟨hb1, hb2⟩ := hb
  obtain ⟨h1, h2, _⟩ := s1.slice Try.underlying45
  obtain ⟨h3, h4, _⟩ := s2.slice Try.underlying46
  have S1 := Lib.hid s1
  have S2 := Lib.hid s2
  have hcase : ∃ M : Nat, M ≤ 1000000 ∧ ((most < 0 ∧ Hid (-((most + 1).tmod 1000001) = (M : Int)) ∧ Hid (decide (most < 0) = true)) ∨ (0 ≤ most ∧ Hid (most % 1000001 = (M : Int)) ∧ Hid (decide (most < 0) = false))) := by
    by_cases h : most < 0
    · have e : -((most + 1).tmod 1000001) = (-(most + 1)) % 1000001 := by
        rw [← Int.neg_tmod, Int.tmod_eq_emod_of_nonneg (by omega)]
      exact ⟨((-(most + 1)) % 1000001).toNat, by omega, .inl ⟨h, show _ = _ by rw [e]; omega, show _ = _ by simpa using h⟩⟩
    · exact ⟨(most % 1000001).toNat, by omega, .inr ⟨by omega, show _ = _ by omega, show _ = _ by simpa using h⟩⟩
  obtain ⟨M, hM, hcase⟩ := hcase
  have HM : Hid ((max 0 (min (M : Int) 1000000)).toNat = M) := show _ = _ by omega
  clear wm s1 s2
  rcases hcase with ⟨hneg, hq, hd⟩ | ⟨hneg, hq, hd⟩
  all_goals
    have hqq := hq.out
    have hdd := hd.out
    clear hq hd
    go_enter Try.func7, Try.ntmps7
    go_wp2_with (first
      | (go_at_call 9; (with_reducible refine (shown_any _).mono ?_); rintro e w1 ⟨rfl, hb1⟩; have Hb1 := Lib.hid hb1; clear hb1)
      | (go_at_call 12; (with_reducible refine (New_q W.heap.size W w1 M M Hb1.out Hb1.out.size HM.out).mono ?_); rintro e w2 ⟨p, rfl, hq2, _, _⟩; have Hq2 := Lib.hid hq2; clear hq2))
    clear hqq hdd
    go_loopw [9] (fun i w' => ∃ (k : Nat) (sv : Value) (xs : List UInt8), k ≤ 60 ∧ k ≤ n1 ∧ i = .int .i64 k ∧ QB W.heap.size W w' p sv M xs) (fun i _ => 60 - (intOf i).toNat)
    case atStart => exact ⟨0, _, [], by omega, by omega, rfl, Hq2.out⟩
    case round =>
      obtain ⟨k, sv, xs, hk60, hkn, rfl, hq⟩ := hrel
      have Hq := Lib.hid hq
      clear hq
      by_cases hlt : k < n1 ∧ k < 60
      · obtain ⟨hlt1, hlt2⟩ := hlt
        obtain ⟨b, o, B, len, cap, ys, rfl, hc, hr, hlc, hcap⟩ := row_at S1.out hlt1
        have hcw := (Hq.out.below.cell (p := ⟨b, o + k, none⟩) (World.block_lt_of_cell? W _ hc)).trans hc
        have hys : ys.length = len := by simpa using hr.1
        obtain ⟨nb, hnb⟩ : ∃ nb, min len 500 = nb := ⟨_, rfl⟩
        have hnc : nb ≤ cap := by omega
        have hrn : Rd W 1 B nb ((ys.take nb).map BV) := by have := hr.take (k := nb) (by omega); rw [Nat.mul_one, ← List.map_take] at this; exact this
        have hmin1 : (if (500 : Int) < (len : Int) then (500 : Int) else (len : Int)) = (nb : Int) := by split <;> omega
        obtain ⟨r, hroom⟩ : ∃ r, M - xs.length = r := ⟨_, rfl⟩
        have hxm := Hq.out.at_.2.2.1
        obtain ⟨m, hm⟩ : ∃ m, min nb r = m := ⟨_, rfl⟩
        have hmin2 : (if r < nb then (r : Int) else (nb : Int)) = (m : Int) := by split <;> omega
        obtain ⟨zs, hzs⟩ : ∃ zs, xs ++ (ys.take nb).take m = zs := ⟨_, rfl⟩
        have hlen1 : zs.length = xs.length + m := by rw [← hzs]; simp; omega
        obtain ⟨L, hL⟩ : ∃ L, zs.length = L := ⟨_, rfl⟩
        obtain ⟨r2, hr2⟩ : ∃ r2, M - zs.length = r2 := ⟨_, rfl⟩
        have hsum1 : (L : Int) + (r2 : Int) = (M : Int) := by omega
        have hLb : L ≤ 1000000 := by omega
        have hrb : r2 ≤ 1000000 := by omega
        have hLM : L ≤ M := by omega
        have Hrn := Lib.hid hrn
        have Hm := Lib.hid hm
        have Hroom := Lib.hid hroom
        have HL := Lib.hid hL
        have Hr2 := Lib.hid hr2
        have Hzs := Lib.hid hzs
        clear hc hr hys hnb hrn hroom hm hlen1 hxm hL hr2 hzs
        by_cases hpop : k < n2
        · obtain ⟨b2, o2, pk, rfl, hcp, hp1, hp2⟩ := int_at S2.out hpop
          obtain ⟨K, hK⟩ : ∃ K, (max 0 (min pk zs.length)).toNat = K := ⟨_, rfl⟩
          have hKL : K ≤ L := by have := HL.out; omega
          obtain ⟨L3, hL3⟩ : ∃ L3, (zs.drop K).length = L3 := ⟨_, rfl⟩
          obtain ⟨r3, hr3⟩ : ∃ r3, M - (zs.drop K).length = r3 := ⟨_, rfl⟩
          have hL3b : L3 ≤ L := by rw [← hL3, List.length_drop]; have := HL.out; omega
          have hsum3 : (L3 : Int) + (r3 : Int) = (M : Int) := by omega
          have hr3b : r3 ≤ 1000000 := by omega
          have HK := Lib.hid hK
          have HL3 := Lib.hid hL3
          have Hr3 := Lib.hid hr3
          have hcell2 := Lib.hid hcp
          clear hK hL3 hr3 hcp
          go_wp2_with fail
          go_quiet (fail)
          go_wp2_with (first
            | (go_at_call 21; (with_reducible refine (Room_q (Hq.out.drewN _) r Hroom.out).mono ?_); rintro e w3 ⟨rfl, q3, rfl⟩)
            | (go_at_call 14; (with_reducible refine (Push_q (Hq.out.drewN _) B nb cap m (ys.take nb) ((Hq.out.drewN _).rd rfl Hrn.out) hnc hcap (by rw [Hroom.out]; exact Hm.out)).mono ?_); rintro e w4 ⟨sv4, rfl, hq4, hf4⟩; rw [Hzs.out] at hq4; have Hq4 := Lib.hid hq4; have hcw2 := (hq4.below.cell (p := ⟨b2, o2 + k, none⟩) (World.block_lt_of_cell? W _ hcell2.out)).trans hcell2.out; clear hq4 hf4)
            | (go_at_call 20; (with_reducible refine (Len_q Hq4.out L HL.out).mono ?_); rintro e w' ⟨rfl, rfl⟩)
            | (go_at_call 21; (with_reducible refine (Room_q Hq4.out r2 Hr2.out).mono ?_); rintro e w5 ⟨rfl, q5, rfl⟩)
            | (go_at_call 16; (with_reducible refine (Pop_q (Hq4.out.drewN _) pk K HK.out).mono ?_); rintro e w6 ⟨sv6, g6, rfl, hB6, hg6, hq6, hf6, ho6⟩; have Hq6 := Lib.hid hq6; clear hq6 hf6 ho6 hB6)
            | (go_at_call 20; (with_reducible refine (Len_q Hq6.out L3 HL3.out).mono ?_); rintro e w' ⟨rfl, rfl⟩)
            | (go_at_call 21; (with_reducible refine (Room_q Hq6.out r3 Hr3.out).mono ?_); rintro e w7 ⟨rfl, q7, rfl⟩))
          exact ⟨⟨k + 1, _, _, by omega, by omega, by go_num, Hq6.out.drewN _⟩, by simp [intOf]; omega⟩
        · go_wp2_with fail
          go_quiet (fail)
          go_wp2_with (first
            | (go_at_call 21; (with_reducible refine (Room_q (Hq.out.drewN _) r Hroom.out).mono ?_); rintro e w3 ⟨rfl, q3, rfl⟩)
            | (go_at_call 14; (with_reducible refine (Push_q (Hq.out.drewN _) B nb cap m (ys.take nb) ((Hq.out.drewN _).rd rfl Hrn.out) hnc hcap (by rw [Hroom.out]; exact Hm.out)).mono ?_); rintro e w4 ⟨sv4, rfl, hq4, hf4⟩; rw [Hzs.out] at hq4; have Hq4 := Lib.hid hq4; clear hq4 hf4)
            | (go_at_call 20; (with_reducible refine (Len_q Hq4.out L HL.out).mono ?_); rintro e w' ⟨rfl, rfl⟩)
            | (go_at_call 21; (with_reducible refine (Room_q Hq4.out r2 Hr2.out).mono ?_); rintro e w5 ⟨rfl, q5, rfl⟩)
            | (go_at_call 20; (with_reducible refine (Len_q (Hq4.out.drewN _) L HL.out).mono ?_); rintro e w' ⟨rfl, rfl⟩)
            | (go_at_call 21; (with_reducible refine (Room_q (Hq4.out.drewN _) r2 Hr2.out).mono ?_); rintro e w7 ⟨rfl, q7, rfl⟩))
          exact ⟨⟨k + 1, _, _, by omega, by omega, by go_num, Hq4.out.drewN _⟩, by simp [intOf]; omega⟩
      · have hx : (n1 ≤ k) ∨ (k < n1 ∧ 60 ≤ k) := by omega
        clear hlt
        rcases hx with hx | ⟨hx, hx2⟩
        all_goals
          go_wp2
          go_ret
          exact ⟨rfl, Hq.out.below⟩
end Go.Proofs.Ytfklllikihjjhaa
