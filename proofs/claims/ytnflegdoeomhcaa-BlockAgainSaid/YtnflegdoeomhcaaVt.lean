/- The law BlockAgain: the walk. -/
import Derived.Test.YtnflegdoeomhcaaVi
namespace Go.Proofs.Ytnflegdoeomhcaa
open Go.RowKit Go.Own Go.Frm
set_option linter.unusedVariables false
set_option linter.unusedSimpArgs false
set_option maxRecDepth 100000
theorem ao_new {w0 w : World} {L : List Ob} {p : Nat} {a : Asm} (s : St (fun _ => False) w0 w (AO p a :: L)) : w0.heap.size ≤ p := by
  obtain ⟨P, pc, B, ll, lc, t⟩ := ao_open s
  obtain ⟨F, ⟨_, rfl⟩, _, h, _⟩ := t.focus0
  exact (h p rfl).resolve_left (fun h => h)
set_option maxHeartbeats 16000000 in
theorem two_c {w0 w : World} {L : List Ob} {p : Nat} {A : Option Addr} {n c : Nat} {xs : List UInt8} (s : St (fun _ => False) w0 w (AO p (.idle 300) :: L)) (hr : Rd w0 1 A n (xs.map BV)) (hc : n ≤ c) (hc2 : c ≤ 9223372036854775807) (hn : n ≤ 300) (st cut : Int) (hcut : cut ≤ 9223372036854775807) :
    Calls Try.prog 15 #[.pointer (some ⟨p, 0, none⟩), .slice A n c, .int .i64 st, .int .i64 cut] w fun e w' => e = .returned (.bool true) ∧ ∃ M, St (fun _ => False) w0 w' (AO p (.idle 300) :: M) := by
  obtain ⟨k, hk, hkn, ways⟩ : ∃ k : Nat, (0 < cut → cut.tmod ((n : Int) + 1) = (k : Int)) ∧ k ≤ n ∧ ((0 < cut) ∨ (¬ 0 < cut ∧ k = 0)) := by
    rcases Int.lt_or_le 0 cut with h | h
    · refine ⟨(cut.tmod ((n : Int) + 1)).toNat, fun _ => ?_, ?_, .inl h⟩
      · have := Int.tmod_nonneg ((n : Int) + 1) (by omega : 0 ≤ cut); omega
      · have := Int.tmod_lt_of_pos cut (by omega : 0 < (n : Int) + 1); have := Int.tmod_nonneg ((n : Int) + 1) (by omega : 0 ≤ cut); omega
    · exact ⟨0, fun h2 => by omega, by omega, .inr ⟨by omega, rfl⟩⟩
  have e1 : IntKind.i64.wrap ((n : Int) + 1) = (n : Int) + 1 := by rw [IntKind.wrap_i64]; omega
  have e2 : IntKind.i64.wrap (k : Int) = (k : Int) := by rw [IntKind.wrap_i64]; omega
  have e3 : (((n : Int) + 1) == 0) = false := by rw [beq_eq_false_iff_ne]; omega
  have e4 : ¬ ((n : Int) + 1 = 0) := by omega
  have HS := Lib.hid s
  have HR0 := Lib.hid hr
  have HN := Lib.hid hn
  have HP := Lib.hid (ao_new s)
  have hxl : xs.length = n := by simpa using hr.1
  have HXL := Lib.hid hxl
  clear hxl
  have hr1 : Rd w0 1 A k ((xs.take k).map BV) := by
    have := hr.take hkn
    rw [Nat.mul_one, ← List.map_take] at this
    exact this
  have hr2 : Rd w0 1 (if c = k then A else A.map (·.add k)) (n - k) ((xs.drop k).map BV) := by
    have := hr.drop hkn hc
    rw [← List.map_drop, Nat.mul_one] at this
    exact this
  have HR1 := Lib.hid (s.rd hr1 (fun _ _ h => h))
  have HA1 := Lib.hid (hr1.far (by decide) HP.out)
  have HR2 := Lib.hid hr2
  have HA2 := Lib.hid (hr2.far (by decide) HP.out)
  have HX : Hid (xs.take k ++ xs.drop k = xs) := List.take_append_drop k xs
  have HK : Hid ((xs.take k).length + (n - k) ≤ 300) := by have := HN.out; have := HXL.out; unfold Hid; rw [List.length_take]; omega
  clear s hr hr1 hr2
  go_enter Try.func15, Try.ntmps15
  go_upto_region 1 with (fail)
  iterate 8 go_step
  go_cut [9] (fun v wx => v = .int .i64 (k : Int) ∧ wx = w)
  case first =>
    rcases ways with h | ⟨h, rfl⟩
    · have hk := hk h
      go_wp2
      go_meet
      exact ⟨rfl, rfl⟩
    · go_wp2
      go_meet
      exact ⟨rfl, rfl⟩
  case rest =>
    obtain ⟨rfl, rfl⟩ := hcut
    clear ways hk e1 e2 e3 e4
    go_upto_region 5 with (first
      | (go_at_call 10; (with_reducible refine (s_hd_no (st := st) (fin := false) (ys := xs.take k) HS.out HR1.out (by have := HN.out; omega) (by omega) HA1.out (by have := HN.out; omega)).mono ?_); rintro e w2 ⟨rfl, t2⟩
         have T2 := Lib.hid t2
         clear t2))
    obtain ⟨q0, hq0⟩ : ∃ q, w2.heap.size = q := ⟨_, rfl⟩
    obtain ⟨W3, hW3⟩ : ∃ W3, (w2.alloc (.cells #[.int .i64 0, .int .i64 0, .bool false, .bool false, .bool false, .bool false, .slice none 0 0, .int .i64 0, .int .i64 0, .int .i64 0, .bool false, .int .i64 0, .int .u32 0, .slice none 0 0, .int .i64 0, .int .i64 0] 32)).alloc (.cells #[.bool false, .int .u32 0, .int .i64 0] 34) = W3 := ⟨_, rfl⟩
    have t3 := two_gen T2.out [.int .i64 0, .int .i64 0, .bool false, .bool false, .bool false, .bool false, .slice none 0 0, .int .i64 0, .int .i64 0, .int .i64 0, .bool false, .int .i64 0, .int .u32 0, .slice none 0 0, .int .i64 0, .int .i64 0] [.bool false, .int .u32 0, .int .i64 0] W3 hW3
    rw [hq0] at t3
    rw [hW3, hq0]
    obtain ⟨L', hL'⟩ : ∃ L', L ++ [BLo q0 32 [.int .i64 0, .int .i64 0, .bool false, .bool false, .bool false, .bool false, .slice none 0 0, .int .i64 0, .int .i64 0, .int .i64 0, .bool false, .int .i64 0, .int .u32 0, .slice none 0 0, .int .i64 0, .int .i64 0], BLo (q0 + 1) 34 [.bool false, .int .u32 0, .int .i64 0]] = L' := ⟨_, rfl⟩
    have HL' := Lib.hid hL'
    have t3' : St (fun _ => False) w0 W3 (AO p (.opened 300 (mkF 1 st false false (xs.take k)) 0) :: L') := by rw [← hL']; exact t3
    have T3 := Lib.hid t3'
    clear T2 t3 t3' hL' hq0 hW3
    have HR3 := Lib.hid (T3.out.rd HR2.out (fun _ _ h => h))
    go_upto_region 6 with (first
      | (go_at_call 10; (with_reducible refine (s_co_yes (st := st) (fin := false) (e0 := false) (xs := xs.take k) (ys := xs.drop k) T3.out HR3.out (by have := HN.out; omega) (by omega) HA2.out HK.out (by omega) xs HX.out).mono ?_); rintro e w4 ⟨A1, n1, c1, B1, nl1, d1, rfl, hn1, t4⟩
         have T4 := Lib.hid t4
         have HN1 := Lib.hid hn1
         clear t4 hn1))
    obtain ⟨q, hq⟩ : ∃ q, w4.heap.size = q := ⟨_, rfl⟩
    obtain ⟨W6, hW6⟩ : ∃ W6, (w4.alloc (.cells #[.int .i64 1, .int .i64 st, .bool false, .bool true, .bool false, .bool false, .slice A1 n1 c1, .int .i64 0, .int .i64 0, .int .i64 0, .bool false, .int .i64 0, .int .u32 0, .slice B1 nl1 d1, .int .i64 0, .int .i64 0] 32)).alloc (.cells #[.bool false, .int .u32 0, .int .i64 0] 34) = W6 := ⟨_, rfl⟩
    have t6 := two_gen T4.out [.int .i64 1, .int .i64 st, .bool false, .bool true, .bool false, .bool false, .slice A1 n1 c1, .int .i64 0, .int .i64 0, .int .i64 0, .bool false, .int .i64 0, .int .u32 0, .slice B1 nl1 d1, .int .i64 0, .int .i64 0] [.bool false, .int .u32 0, .int .i64 0] W6 hW6
    rw [hq] at t6
    rw [hW6, hq]
    have T6 : Hid (St (fun _ => False) w0 W6 ((AO p (.idle 300) :: SLo 0 5 1 (.slice A1 n1 c1) n1 (xs.map BV) :: L') ++ [BLo q 32 [.int .i64 1, .int .i64 st, .bool false, .bool true, .bool false, .bool false, .slice A1 n1 c1, .int .i64 0, .int .i64 0, .int .i64 0, .bool false, .int .i64 0, .int .u32 0, .slice B1 nl1 d1, .int .i64 0, .int .i64 0], BLo (q + 1) 34 [.bool false, .int .u32 0, .int .i64 0]])) := t6
    have hb1 := St.blk (AO p (.idle 300) :: SLo 0 5 1 (.slice A1 n1 c1) n1 (xs.map BV) :: L') _ T6.out
    have hb2 := St.blk ((AO p (.idle 300) :: SLo 0 5 1 (.slice A1 n1 c1) n1 (xs.map BV) :: L') ++ [BLo q 32 [.int .i64 1, .int .i64 st, .bool false, .bool true, .bool false, .bool false, .slice A1 n1 c1, .int .i64 0, .int .i64 0, .int .i64 0, .bool false, .int .i64 0, .int .u32 0, .slice B1 nl1 d1, .int .i64 0, .int .i64 0]]) [] (by rw [List.append_assoc]; exact T6.out)
    obtain ⟨x0, x1, x2, x3, x4, x5, x6, x7, x8, x9, x10, x11, x12, x13, x14, x15⟩ := cells16v hb1
    have xl := hb1.lt
    have hb3 := St.blk ((AO p (.idle 300) :: SLo 0 5 1 (.slice A1 n1 c1) n1 (xs.map BV) :: L) ++ [BLo q0 32 [.int .i64 0, .int .i64 0, .bool false, .bool false, .bool false, .bool false, .slice none 0 0, .int .i64 0, .int .i64 0, .int .i64 0, .bool false, .int .i64 0, .int .u32 0, .slice none 0 0, .int .i64 0, .int .i64 0]]) (L2 := _) (t := 34) (p := q0 + 1) (cs := [.bool false, .int .u32 0, .int .i64 0]) (by have h := T6.out; rw [← HL'.out] at h; simpa [List.append_assoc] using h)
    obtain ⟨u0, u1, u2⟩ := cells3v hb3
    have ul := hb3.lt
    obtain ⟨y0, y1, y2⟩ := cells3v hb2
    have yl := hb2.lt
    have hcv := run_conv_bytes (c := c1) (src := 22) (dst := 9) Try.underlying22 Try.underlying5 Try.underlying9 (Rd.of_own (St.own1 T4.out) |>.below (((Below.refl _ w4).alloc (Nat.le_refl _) (.cells #[.int .i64 1, .int .i64 st, .bool false, .bool true, .bool false, .bool false, .slice A1 n1 c1, .int .i64 0, .int .i64 0, .int .i64 0, .bool false, .int .i64 0, .int .u32 0, .slice B1 nl1 d1, .int .i64 0, .int .i64 0] 32)).alloc (by simp) (.cells #[.bool false, .int .u32 0, .int .i64 0] 34)))
    rw [hW6] at hcv
    have hcv2 := run_conv_bytes (c := c) (src := 22) (dst := 9) Try.underlying22 Try.underlying5 Try.underlying9 (T6.out.rd HR0.out (fun _ _ h => h))
    have HT := Lib.hid T6.out
    clear T3 HR3 T4 T6 t6 hW6 hq hb1 hb2 hb3 HR0 x2 x3 x4 x5 x7 x8 x9 x10 x11 x12 x13 x14 x15
    go_wp2
    all_goals
      go_ret
      exact ⟨rfl, _, HT.out⟩
set_option maxHeartbeats 16000000 in
theorem lawAgain {w0 : World} {A B : Option Addr} {n c m d : Nat} {xs ys : List UInt8} (hr : Rd w0 1 A n (xs.map BV)) (hs : Rd w0 1 B m (ys.map BV)) (hc : n ≤ c) (hd : m ≤ d) (hc2 : c ≤ 9223372036854775807) (hd2 : d ≤ 9223372036854775807) (s t i k : Int) (hi : i ≤ 9223372036854775807) (hk : k ≤ 9223372036854775807) :
    Calls Try.prog 7 #[.slice A n c, .slice B m d, .int .i64 s, .int .i64 t, .int .i64 i, .int .i64 k] w0 fun e w' => e = .returned (.bool true) ∧ Below w0.heap.size w0 w' := by
  have hm : Hid (((300 : Nat) : Int) = max 300 0) := by unfold Hid; decide
  obtain ⟨N, hN⟩ : ∃ N, min n 300 = N := ⟨_, rfl⟩
  obtain ⟨M, hM⟩ : ∃ M, min m 300 = M := ⟨_, rfl⟩
  have hr1 : Rd w0 1 A N ((xs.take N).map BV) := by
    have := hr.take (k := N) (by omega)
    rw [Nat.mul_one, ← List.map_take] at this
    exact this
  have hs1 : Rd w0 1 B M ((ys.take M).map BV) := by
    have := hs.take (k := M) (by omega)
    rw [Nat.mul_one, ← List.map_take] at this
    exact this
  have HR := Lib.hid hr1
  have HS := Lib.hid hs1
  have hNc : N ≤ c := by omega
  have hMd : M ≤ d := by omega
  have HC : Hid (N ≤ c ∧ c ≤ 9223372036854775807 ∧ N ≤ 300) := ⟨by omega, hc2, by omega⟩
  have HD : Hid (M ≤ d ∧ d ≤ 9223372036854775807 ∧ M ≤ 300) := ⟨by omega, hd2, by omega⟩
  have HI : Hid (i ≤ 9223372036854775807 ∧ k ≤ 9223372036854775807) := ⟨hi, hk⟩
  have m1 : (if (300 : Int) < (n : Int) then 300 else (n : Int)) = (N : Int) := by split <;> omega
  have m2 : (if (n : Int) ≤ 300 then (n : Int) else 300) = (N : Int) := by split <;> omega
  have m3 : (if (300 : Int) < (m : Int) then 300 else (m : Int)) = (M : Int) := by split <;> omega
  have m4 : (if (m : Int) ≤ 300 then (m : Int) else 300) = (M : Int) := by split <;> omega
  have m5 : (if (n : Int) < 300 then (n : Int) else 300) = (N : Int) := by split <;> omega
  have m6 : (if (m : Int) < 300 then (m : Int) else 300) = (M : Int) := by split <;> omega
  clear hr hs hr1 hs1 hi hk
  go_enter Try.func7, Try.ntmps7
  go_upto_region 5 with (first
    | (go_at_call 8; (with_reducible refine (shown_c _).mono ?_); rintro e w1 ⟨rfl, hb1⟩
       have HB1 := Lib.hid hb1
       clear hb1)
    | (go_at_call 9; (with_reducible refine (new_c 300 300 hm.out).mono ?_); rintro e w2 ⟨p, rfl, t2⟩
       have t2' : St (fun _ => False) w0 w2 [AO p (.idle 300)] := t2.before (Fr.of_below (S := fun _ => False) HB1.out (fun i h1 h2 => absurd h2 (by omega)))
       have T2 := Lib.hid t2'
       clear t2 t2'))
  go_wp2_with (first
    | (go_at_call 15; (with_reducible refine (two_c T2.out HR.out HC.out.1 HC.out.2.1 HC.out.2.2 s i HI.out.1).mono ?_); rintro e w3 ⟨rfl, M1, t3⟩
       have T3 := Lib.hid t3
       clear t3)
    | (go_at_call 15; (with_reducible refine (two_c T3.out HS.out HD.out.1 HD.out.2.1 HD.out.2.2 t k HI.out.2).mono ?_); rintro e w4 ⟨rfl, M2, t4⟩
       have T4 := Lib.hid t4
       clear t4)
    | (go_at_call 12; (with_reducible refine (len_c T4.out).mono ?_); rintro e w5 ⟨rfl, hw5⟩; subst hw5))
  go_ret
  exact ⟨rfl, T4.out.below⟩
theorem lawAgainH {w : World} {A B : Option Addr} {n c m d : Nat} {xs ys : List UInt8} (hr : Rd w 1 A n (xs.map BV)) (hc : n ≤ c) (hc2 : c ≤ 140737488351232) (hs : Rd w 1 B m (ys.map BV)) (hd : m ≤ d) (hd2 : d ≤ 140737488351232) (s t i : Int) (hi : -9223372036854775808 ≤ i ∧ i ≤ 9223372036854775807) (k : Int) (hk : -9223372036854775808 ≤ k ∧ k ≤ 9223372036854775807) :
    Calls Try.prog 7 #[.slice A n c, .slice B m d, .int .i64 s, .int .i64 t, .int .i64 i, .int .i64 k] w fun e w' => e = .returned (.bool true) ∧ Below w.heap.size w w' :=
  lawAgain hr hs hc hd (by omega) (by omega) s t i k hi.2 hk.2
end Go.Proofs.Ytnflegdoeomhcaa
