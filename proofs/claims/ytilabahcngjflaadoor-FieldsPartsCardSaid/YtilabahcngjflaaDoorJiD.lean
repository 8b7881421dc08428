/- Stage 10: the contracts of fields' functions on bytes and texts. -/
import Derived.Test.YtilabahcngjflaaDoorJiA
import Derived.Test.YtilabahcngjflaaDoorJiT
import Derived.Lib.Walk
import Derived.Lib.ConvBytes
import Derived.Lib.ItoaWalk
import Derived.Laws.Strings3
import Derived.BigCall
import Derived.BigGuard
namespace Go.Proofs.YtilabahcngjflaaDoor
open Go.RowKit Go.Own Go.Tbl Go.Fie
set_option linter.unusedVariables false
set_option linter.unusedSimpArgs false
set_option maxRecDepth 100000
/-! strings.HasPrefix -/
set_option maxHeartbeats 1000000 in
theorem hasP_c (s p : ByteArray) (w : World) : Calls Tryd.prog 29 #[.string s, .string p] w fun e w' => e = .returned (.bool (Lib.hasPrefix s.data.toList p.data.toList)) ∧ w' = w := by
  rw [← Lib.hasPrefix_of_take, ← Lib.size_eq, ← Lib.size_eq]
  go_enter Tryd.func29, Tryd.ntmps29
  go_wp2
  · rename_i h
    go_ret
    refine ⟨?_, rfl⟩
    show Ending.returned (Value.bool ((s.extract 0 p.size).toList == p.toList)) = _
    rw [Lib.extract_toList, Lib.toList_data]
    simp [h]
  · rename_i h
    go_ret
    refine ⟨?_, rfl⟩
    show Ending.returned (Value.bool false) = _
    simp [h]
/-! bytes -/
theorem blank_c (n : Nat) (w : World) : Calls Tryd.prog 41 #[.int .u8 (n : Int)] w fun e w' => e = .returned (.bool (blN n)) ∧ w' = w := by
  go_enter Tryd.func41, Tryd.ntmps41
  go_wp2
  all_goals
    go_ret
    refine ⟨ret_bool ?_, rfl⟩
    rw [Bool.eq_iff_iff]
    simp [blN]
    omega
theorem nb_c (n : Nat) (w : World) : Calls Tryd.prog 49 #[.int .u8 (n : Int)] w fun e w' => e = .returned (.bool (nbN n)) ∧ w' = w := by
  go_enter Tryd.func49, Tryd.ntmps49
  go_wp2
  all_goals
    go_ret
    refine ⟨ret_bool ?_, rfl⟩
    rw [Bool.eq_iff_iff]
    simp [nbN]
    omega
/-! texts -/
theorem sAt (s : ByteArray) (k : Nat) (h : k < s.size) : s[k]'h = s.data.toList.getD k 0 := by
  have := Lib.getD_at s k h
  exact this
theorem eqE_iff (s : ByteArray) : (s.size = 0) ↔ s = nNone := by
  constructor
  · intro h
    have h2 : s.data.toList = [] := List.eq_nil_of_length_eq_zero (by rw [← Lib.size_eq]; exact h)
    rw [← Lib.mk_data s, h2]
  · rintro rfl; rfl
theorem okN_bad {s : ByteArray} {k m : Nat} (hk : k < s.size) (hm : (s.data.toList.getD k 0).toNat = m) (hb : nbN m = false) : okN s = false := by
  unfold okN
  rw [all_not (j := k) (by rw [← Lib.size_eq]; exact hk) (by unfold nb; rw [hm, hb])]
  rfl
theorem emp (s : ByteArray) : s.toList.isEmpty = decide (s.size = 0) := by
  rw [Lib.toList_data, Lib.size_eq]
  cases s.data.toList <;> rfl
theorem isN_c (s : ByteArray) (hs : s.size ≤ 140737488355328) (w : World) : Calls Tryd.prog 43 #[.string s] w fun e w' => e = .returned (.bool (okN s)) ∧ w' = w := by
  go_enter Tryd.func43, Tryd.ntmps43
  go_wp2_with (fail)
  go_loop [6] (fun i => ∃ k : Nat, k ≤ s.size ∧ i = .int .i64 k ∧ Hid (∀ j, j < k → nb (s.data.toList.getD j 0) = true)) (fun i => s.size - (RowKit.intOf i).toNat)
  case atStart => exact ⟨0, Nat.zero_le _, rfl, fun j hj => absurd hj (Nat.not_lt_zero _)⟩
  case round =>
    obtain ⟨k, hk, rfl, hg⟩ := hrel
    by_cases hkn : k < s.size
    · have hx := sAt s k hkn
      obtain ⟨x, hX⟩ : ∃ x, x = s.data.toList.getD k 0 := ⟨_, rfl⟩
      rw [← hX] at hx
      obtain ⟨m, hm⟩ : ∃ m, x.toNat = m := ⟨_, rfl⟩
      have HX := Lib.hid hX
      have Hm := Lib.hid hm
      cases hb : nbN m
      · clear hX
        go_wp2_with (first
          | (go_at_call 49; (with_reducible refine (nb_c m _).mono ?_); rw [hb]; rintro e w4 ⟨rfl, rfl⟩))
        go_ret
        refine ⟨ret_bool ?_, rfl⟩
        rw [okN_bad hkn (by rw [← HX.out]; exact Hm.out) hb]
      · clear hX
        go_wp2_with (first
          | (go_at_call 49; (with_reducible refine (nb_c m _).mono ?_); rw [hb]; rintro e w4 ⟨rfl, rfl⟩))
        go_round
        case rel =>
          refine ⟨k + 1, by omega, by go_num, fun j hj => ?_⟩
          by_cases e : j = k
          · subst e; rw [← HX.out]; unfold nb; rw [Hm.out, hb]
          · exact hg.out j (by omega)
        case measure => simp [RowKit.intOf]; omega
    · obtain rfl : k = s.size := by omega
      have hall : s.data.toList.all nb = true := all_getD (fun j hj => hg.out j (by rw [Lib.size_eq]; exact hj))
      have hok : okN s = decide (s.size ≠ 0) := by unfold okN; rw [hall, Bool.true_and]
      have Hok := Lib.hid hok
      have he := emp s
      have He := Lib.hid he
      clear hok hall he
      go_wp2_with (fail)
      go_ret
      refine ⟨ret_bool ?_, rfl⟩
      rw [Hok.out, He.out]
      cases h : decide (s.size = 0) <;> simp at h <;> simp [h]
theorem digs_bad {s : ByteArray} {k m : Nat} (hk : k < s.size) (hm : (s.data.toList.getD k 0).toNat = m) (hb : dgN m = false) : digs s = false := by
  unfold digs
  exact all_not (j := k) (by rw [← Lib.size_eq]; exact hk) (by unfold dg; rw [hm, hb])
theorem digs_c (s : ByteArray) (hs : s.size ≤ 140737488355328) (w : World) : Calls Tryd.prog 47 #[.string s] w fun e w' => e = .returned (.bool (digs s)) ∧ w' = w := by
  go_enter Tryd.func47, Tryd.ntmps47
  go_wp2_with (fail)
  go_loop [6] (fun i => ∃ k : Nat, k ≤ s.size ∧ i = .int .i64 k ∧ Hid (∀ j, j < k → dg (s.data.toList.getD j 0) = true)) (fun i => s.size - (RowKit.intOf i).toNat)
  case atStart => exact ⟨0, Nat.zero_le _, rfl, fun j hj => absurd hj (Nat.not_lt_zero _)⟩
  case round =>
    obtain ⟨k, hk, rfl, hg⟩ := hrel
    by_cases hkn : k < s.size
    · have hx := sAt s k hkn
      obtain ⟨x, hX⟩ : ∃ x, x = s.data.toList.getD k 0 := ⟨_, rfl⟩
      rw [← hX] at hx
      obtain ⟨m, hm⟩ : ∃ m, x.toNat = m := ⟨_, rfl⟩
      have HX := Lib.hid hX
      have Hm := Lib.hid hm
      by_cases h1 : m < 48
      · have hb : dgN m = false := by simp [dgN]; omega
        clear hX
        go_wp2_with (fail)
        go_ret
        refine ⟨ret_bool ?_, rfl⟩
        rw [digs_bad hkn (by rw [← HX.out]; exact Hm.out) hb]
      · by_cases h2 : 57 < m
        · have hb : dgN m = false := by simp [dgN]; omega
          clear hX
          go_wp2_with (fail)
          go_ret
          refine ⟨ret_bool ?_, rfl⟩
          rw [digs_bad hkn (by rw [← HX.out]; exact Hm.out) hb]
        · have hb : dgN m = true := by simp [dgN]; omega
          clear hX
          go_wp2_with (fail)
          go_round
          case rel =>
            refine ⟨k + 1, by omega, by go_num, fun j hj => ?_⟩
            by_cases e : j = k
            · subst e; rw [← HX.out]; unfold dg; rw [Hm.out, hb]
            · exact hg.out j (by omega)
          case measure => simp [RowKit.intOf]; omega
    · obtain rfl : k = s.size := by omega
      have hall : digs s = true := all_getD (fun j hj => hg.out j (by rw [Lib.size_eq]; exact hj))
      have Hok := Lib.hid hall
      clear hall
      go_wp2_with (fail)
      go_ret
      exact ⟨ret_bool Hok.out.symm, rfl⟩
theorem isV_c (s : ByteArray) (hs : s.size ≤ 140737488355328) (w : World) : Calls Tryd.prog 31 #[.string s] w fun e w' => e = .returned (.bool (okV s)) ∧ w' = w := by
  go_enter Tryd.func31, Tryd.ntmps31
  go_wp2_with (fail)
  go_loop [7] (fun i => ∃ k : Nat, k ≤ s.size ∧ i = .int .i64 k ∧ Hid (∀ j, j < k → vb (s.data.toList.getD j 0) = true)) (fun i => s.size - (RowKit.intOf i).toNat)
  case atStart => exact ⟨0, Nat.zero_le _, rfl, fun j hj => absurd hj (Nat.not_lt_zero _)⟩
  case round =>
    obtain ⟨k, hk, rfl, hg⟩ := hrel
    by_cases hkn : k < s.size
    · have hx := sAt s k hkn
      obtain ⟨x, hX⟩ : ∃ x, x = s.data.toList.getD k 0 := ⟨_, rfl⟩
      rw [← hX] at hx
      obtain ⟨m, hm⟩ : ∃ m, x.toNat = m := ⟨_, rfl⟩
      have HX := Lib.hid hX
      have Hm := Lib.hid hm
      cases hb : vbN m
      · have h3 : m = 0 ∨ m = 10 ∨ m = 13 := by
          simp [vbN] at hb
          omega
        have hbad : okV s = false := by
          unfold okV
          rw [all_not (j := k) (by rw [← Lib.size_eq]; exact hkn) (by unfold vb; rw [← hX, hm, hb])]
          rfl
        have Hbad := Lib.hid hbad
        clear hX hb hbad
        rcases h3 with rfl | rfl | rfl
        all_goals
          go_wp2_with (fail)
          go_ret
          exact ⟨ret_bool Hbad.out.symm, rfl⟩
      · have k1 : ((m : Int) == 0) = false := by simp [vbN] at hb; simp; omega
        have k2 : ((m : Int) == 10) = false := by simp [vbN] at hb; simp; omega
        have k3 : ((m : Int) == 13) = false := by simp [vbN] at hb; simp; omega
        have Hb := Lib.hid hb
        clear hX hb
        go_wp2_with (fail)
        go_round
        case rel =>
          refine ⟨k + 1, by omega, by go_num, fun j hj => ?_⟩
          by_cases e : j = k
          · subst e; rw [← HX.out]; unfold vb; rw [Hm.out, Hb.out]
          · exact hg.out j (by omega)
        case measure => simp [RowKit.intOf]; omega
    · obtain rfl : k = s.size := by omega
      have hall : s.data.toList.all vb = true := all_getD (fun j hj => hg.out j (by rw [Lib.size_eq]; exact hj))
      by_cases hz : s.size = 0
      · have hok : okV s = true := by unfold okV; rw [hall, decide_eq_true hz]; rfl
        have Hok := Lib.hid hok
        obtain rfl := (eqE_iff s).1 hz
        clear hok hall hz hkn hk hg
        go_wp2_with (fail)
        go_ret
        exact ⟨ret_bool Hok.out.symm, rfl⟩
      · have h0 := sAt s 0 (by omega)
        have hl := sAt s (s.size - 1) (by omega)
        have hok : okV s = (!blN (s.data.toList.getD 0 0).toNat && !blN (s.data.toList.getD (s.size - 1) 0).toNat) := by unfold okV; rw [hall, decide_eq_false hz]; rfl
        obtain ⟨x, hX⟩ : ∃ x, x = s.data.toList.getD 0 0 := ⟨_, rfl⟩
        obtain ⟨y, hY⟩ : ∃ y, y = s.data.toList.getD (s.size - 1) 0 := ⟨_, rfl⟩
        rw [← hX] at h0 hok
        rw [← hY] at hl hok
        obtain ⟨m, hm⟩ : ∃ m, x.toNat = m := ⟨_, rfl⟩
        obtain ⟨n, hn⟩ : ∃ n, y.toNat = n := ⟨_, rfl⟩
        rw [hm, hn] at hok
        have he : s.toList.isEmpty = false := by rw [emp, decide_eq_false hz]
        cases hbm : blN m
        · rw [hbm] at hok
          have Hok := Lib.hid hok
          clear hok hall hg hX hY
          go_wp2_with (first
            | (go_at_call 41; (with_reducible refine (blank_c m _).mono ?_); rw [hbm]; rintro e w4 ⟨rfl, rfl⟩)
            | (go_at_call 41; (with_reducible refine (blank_c n _).mono ?_); rintro e w4 ⟨rfl, rfl⟩))
          go_ret
          exact ⟨ret_bool (by rw [Hok.out]; rfl), rfl⟩
        · rw [hbm] at hok
          have Hok := Lib.hid hok
          clear hok hall hg hX hY
          go_wp2_with (first
            | (go_at_call 41; (with_reducible refine (blank_c m _).mono ?_); rw [hbm]; rintro e w4 ⟨rfl, rfl⟩)
            | (go_at_call 41; (with_reducible refine (blank_c n _).mono ?_); rintro e w4 ⟨rfl, rfl⟩))
          go_ret
          exact ⟨ret_bool (by rw [Hok.out]; rfl), rfl⟩
/-- comparing with a text -/
theorem eqS (s t : ByteArray) : (s.toList == t.toList) = decide (s = t) := by
  rw [Bool.eq_iff_iff, Lib.bytes_beq_iff, decide_eq_true_iff]
theorem isL_c (s : ByteArray) (hs : s.size ≤ 140737488355328) (w : World) : Calls Tryd.prog 50 #[.string s] w fun e w' => e = .returned (.bool (okL s)) ∧ w' = w := by
  have he := emp s
  by_cases hz : s.size = 0
  · rw [decide_eq_true hz] at he
    have hok : okL s = false := by unfold okL; rw [decide_eq_false (by omega)]; rfl
    have Hok := Lib.hid hok
    clear hok
    go_enter Tryd.func50, Tryd.ntmps50
    go_wp2_with (fail)
    go_ret
    exact ⟨ret_bool (by rw [Hok.out]), rfl⟩
  · rw [decide_eq_false hz] at he
    by_cases hl : s.size ≤ 15
    · have hok : okL s = digs s := by unfold okL; rw [decide_eq_true hz, decide_eq_true hl]; rfl
      have Hok := Lib.hid hok
      clear hok
      go_enter Tryd.func50, Tryd.ntmps50
      go_wp2_with (first
        | (go_at_call 47; (with_reducible refine (digs_c s hs _).mono ?_); rintro e w4 ⟨rfl, rfl⟩))
      go_ret
      exact ⟨ret_bool (by rw [Hok.out]), rfl⟩
    · have hok : okL s = false := by unfold okL; rw [decide_eq_false hl, Bool.and_false]; rfl
      have Hok := Lib.hid hok
      clear hok
      go_enter Tryd.func50, Tryd.ntmps50
      go_wp2_with (first
        | (go_at_call 47; (with_reducible refine (digs_c s hs _).mono ?_); rintro e w4 ⟨rfl, rfl⟩))
      go_ret
      exact ⟨ret_bool (by rw [Hok.out]), rfl⟩
theorem isS_c (s : ByteArray) (hs : s.size ≤ 140737488355328) (w : World) : Calls Tryd.prog 39 #[.string s] w fun e w' => e = .returned (.bool (okS s)) ∧ w' = w := by
  by_cases hl : s.size = 3
  · have h0 := sAt s 0 (by omega)
    obtain ⟨x, hX⟩ : ∃ x, x = s.data.toList.getD 0 0 := ⟨_, rfl⟩
    rw [← hX] at h0
    obtain ⟨m, hm⟩ : ∃ m, x.toNat = m := ⟨_, rfl⟩
    have hok : okS s = (digs s && decide (m ≠ 48)) := by unfold okS; rw [decide_eq_true hl, ← hX, hm]; rfl
    cases hd : digs s
    all_goals
      rw [hd] at hok
      have Hok := Lib.hid hok
      have Hd := Lib.hid hd
      clear hok hX hd
      go_enter Tryd.func39, Tryd.ntmps39
      go_wp2_with (first
        | (go_at_call 47; (with_reducible refine (digs_c s hs _).mono ?_); rw [Hd.out]; rintro e w4 ⟨rfl, rfl⟩))
      go_ret
      refine ⟨ret_bool ?_, rfl⟩
      rw [Hok.out]
      by_cases e : m = 48 <;> simp [e]
      try omega
  · have hok : okS s = false := by unfold okS; rw [decide_eq_false hl]; rfl
    have Hok := Lib.hid hok
    clear hok
    go_enter Tryd.func39, Tryd.ntmps39
    go_wp2_with (first
      | (go_at_call 47; (with_reducible refine (digs_c s hs _).mono ?_); rintro e w4 ⟨rfl, rfl⟩))
    go_ret
    exact ⟨ret_bool (by rw [Hok.out]), rfl⟩
end Go.Proofs.YtilabahcngjflaaDoor
