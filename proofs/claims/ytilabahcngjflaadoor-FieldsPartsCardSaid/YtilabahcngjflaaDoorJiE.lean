/- Stage 10: the contracts of fields' functions on fields; what gives up and what catches it; Contains, Atoi. -/
import Derived.Test.YtilabahcngjflaaDoorJiD
import Derived.Test.YtilabahcngjflaaDoorSt
import Derived.Deep.Cut
import Derived.Deep.DeepCutAuto
namespace Go.Proofs.YtilabahcngjflaaDoor
open Go.RowKit Go.Own Go.Tbl Go.Fie
set_option linter.unusedVariables false
set_option linter.unusedSimpArgs false
set_option maxRecDepth 100000
theorem isP_c (f : Fld) (w : World) : Calls Tryd.prog 32 #[.agg #[.string f.n, .string f.v, .bool f.nv]] w fun e w' => e = .returned (.bool (psd f)) ∧ Below w.heap.size w w' := by
  have hps : psd f = Lib.hasPrefix f.n.data.toList nColon.data.toList := rfl
  rw [hps]
  go_enter Tryd.func32, Tryd.ntmps32
  go_wp2_with (first
    | (go_at_call 29; (with_reducible refine (hasP_c f.n nColon _).mono ?_); rintro e w4 ⟨rfl, hw⟩; subst hw))
  go_ret
  exact ⟨rfl, (Below.refl _ _).alloc (Nat.le_refl _) _⟩
theorem eqL (s : ByteArray) (l : List UInt8) : (s.toList == l) = decide (s = ⟨l.toArray⟩) := by
  have h := eqS s ⟨l.toArray⟩
  rw [Lib.toList_data ⟨l.toArray⟩] at h
  exact h
theorem ways3 : ∀ b1 b2 b3 : Bool, b1 = true ∨ (b1 = false ∧ b2 = true) ∨ (b1 = false ∧ b2 = false ∧ b3 = true) ∨ (b1 = false ∧ b2 = false ∧ b3 = false) := by decide
theorem ways6 : ∀ b1 b2 b3 b4 b5 b6 : Bool, b1 = true ∨ (b1 = false ∧ b2 = true) ∨ (b1 = false ∧ b2 = false ∧ b3 = true) ∨ (b1 = false ∧ b2 = false ∧ b3 = false ∧ b4 = true) ∨ (b1 = false ∧ b2 = false ∧ b3 = false ∧ b4 = false ∧ b5 = true)
    ∨ (b1 = false ∧ b2 = false ∧ b3 = false ∧ b4 = false ∧ b5 = false ∧ b6 = true) ∨ (b1 = false ∧ b2 = false ∧ b3 = false ∧ b4 = false ∧ b5 = false ∧ b6 = false) := by
  intro b1 b2 b3 b4 b5 b6
  cases b1 <;> cases b2 <;> cases b3 <;> cases b4 <;> cases b5 <;> cases b6 <;> simp
theorem conn_c (f : Fld) (w : World) : Calls Tryd.prog 44 #[.agg #[.string f.n, .string f.v, .bool f.nv]] w fun e w' => e = .returned (.bool (conn f)) ∧ Below w.heap.size w w' := by
  have e1 := eqL f.n [99, 111, 110, 110, 101, 99, 116, 105, 111, 110]
  have e2 := eqL f.n [112, 114, 111, 120, 121, 45, 99, 111, 110, 110, 101, 99, 116, 105, 111, 110]
  have e3 := eqL f.n [107, 101, 101, 112, 45, 97, 108, 105, 118, 101]
  have e4 := eqL f.n [116, 114, 97, 110, 115, 102, 101, 114, 45, 101, 110, 99, 111, 100, 105, 110, 103]
  have e5 := eqL f.n [117, 112, 103, 114, 97, 100, 101]
  have e6 := eqL f.n [116, 101]
  have e7 := eqL f.v [116, 114, 97, 105, 108, 101, 114, 115]
  have hc : conn f = (decide (f.n = nConnection) || (decide (f.n = nProxy) || (decide (f.n = nKeep) || (decide (f.n = nTransfer) || (decide (f.n = nUpgrade) || false)))) || (decide (f.n = nTe) && !decide (f.v = nTrailers))) := by
    unfold conn mem five
    simp only [List.any_cons, List.any_nil, decide_not]
  obtain ⟨b1, h1⟩ : ∃ b, decide (f.n = nConnection) = b := ⟨_, rfl⟩
  obtain ⟨b2, h2⟩ : ∃ b, decide (f.n = nProxy) = b := ⟨_, rfl⟩
  obtain ⟨b3, h3⟩ : ∃ b, decide (f.n = nKeep) = b := ⟨_, rfl⟩
  obtain ⟨b4, h4⟩ : ∃ b, decide (f.n = nTransfer) = b := ⟨_, rfl⟩
  obtain ⟨b5, h5⟩ : ∃ b, decide (f.n = nUpgrade) = b := ⟨_, rfl⟩
  obtain ⟨b6, h6⟩ : ∃ b, decide (f.n = nTe) = b := ⟨_, rfl⟩
  obtain ⟨b7, h7⟩ : ∃ b, decide (f.v = nTrailers) = b := ⟨_, rfl⟩
  rw [h1, h2, h3, h4, h5, h6, h7] at hc
  replace e1 := e1.trans h1
  replace e2 := e2.trans h2
  replace e3 := e3.trans h3
  replace e4 := e4.trans h4
  replace e5 := e5.trans h5
  replace e6 := e6.trans h6
  replace e7 := e7.trans h7
  clear h1 h2 h3 h4 h5 h6 h7
  rcases ways6 b1 b2 b3 b4 b5 b6 with rfl | ⟨rfl, rfl⟩ | ⟨rfl, rfl, rfl⟩ | ⟨rfl, rfl, rfl, rfl⟩ | ⟨rfl, rfl, rfl, rfl, rfl⟩ | ⟨rfl, rfl, rfl, rfl, rfl, rfl⟩ | ⟨rfl, rfl, rfl, rfl, rfl, rfl⟩
  all_goals
    have Hc := Lib.hid hc
    clear hc
    go_enter Tryd.func44, Tryd.ntmps44
    go_wp2
    go_ret
    refine ⟨ret_bool ?_, (Below.refl _ _).alloc (Nat.le_refl _) _⟩
    rw [Hc.out]
    simp
theorem stays_c (s : ByteArray) (w : World) : Calls Tryd.prog 20 #[.string s] w fun e w' => e = .returned (.bool (stays s)) ∧ w' = w := by
  have e1 := eqL s [116, 101]
  have e2 := eqL s [118, 105, 97]
  have e3 := eqL s [102, 111, 114, 119, 97, 114, 100, 101, 100]
  have hc : stays s = (decide (s = nTe) || decide (s = nVia) || decide (s = nFwd) || Lib.hasPrefix s.data.toList nHop.data.toList) := rfl
  obtain ⟨b1, h1⟩ : ∃ b, decide (s = nTe) = b := ⟨_, rfl⟩
  obtain ⟨b2, h2⟩ : ∃ b, decide (s = nVia) = b := ⟨_, rfl⟩
  obtain ⟨b3, h3⟩ : ∃ b, decide (s = nFwd) = b := ⟨_, rfl⟩
  rw [h1, h2, h3] at hc
  replace e1 := e1.trans h1
  replace e2 := e2.trans h2
  replace e3 := e3.trans h3
  clear h1 h2 h3
  rcases ways3 b1 b2 b3 with rfl | ⟨rfl, rfl⟩ | ⟨rfl, rfl, rfl⟩ | ⟨rfl, rfl, rfl⟩
  all_goals
    have Hc := Lib.hid hc
    clear hc
    go_enter Tryd.func20, Tryd.ntmps20
    go_wp2_with (first
      | (go_at_call 29; (with_reducible refine (hasP_c s nHop _).mono ?_); rintro e w4 ⟨rfl, hw⟩; subst hw))
    go_ret
    exact ⟨ret_bool (by rw [Hc.out]; simp), rfl⟩
/-! what gives up -/
theorem must_ok (w : World) : Calls Tryd.prog 30 #[.bool true] w fun e w' => e = .returned (.tuple #[]) ∧ w' = w := by
  go_enter Tryd.func30, Tryd.ntmps30
  go_wp2
  go_end0
  exact ⟨rfl, rfl⟩
theorem must_no (w : World) : Calls Tryd.prog 30 #[.bool false] w fun e w' => e = .panicked [{ v := .iface 59 (.agg #[]), recovered := false }] ∧ w' = w := by
  go_enter Tryd.func30, Tryd.ntmps30
  go_wp2
  exact ⟨rfl, rfl, rfl⟩
theorem eql_nil (t : TypeId) (v : Value) (w : World) : (binOp .eql 20 (.iface t v) .nilIface).run Tryd.prog w = .ok (.bool false) w := by kernel_rfl
theorem eql_nn (w : World) : (binOp .eql 20 .nilIface .nilIface).run Tryd.prog w = .ok (.bool true) w := by kernel_rfl
theorem nothing_nil (w : World) : Calls Tryd.prog 22 #[.nilIface] w fun e w' => e = .returned (.bool true) ∧ w' = w := by
  have h1 := eql_nn
  go_enter Tryd.func22, Tryd.ntmps22
  go_wp2
  go_ret
  exact ⟨rfl, rfl⟩
theorem nothing_up (w : World) : Calls Tryd.prog 22 #[.iface 59 (.agg #[])] w fun e w' => e = .returned (.bool false) ∧ w' = w := by
  have h1 := eql_nil
  go_enter Tryd.func22, Tryd.ntmps22
  go_wp2
  go_ret
  exact ⟨rfl, rfl⟩
/-! slices.Contains of texts; strconv.Atoi of digits -/
theorem index_c {w : World} {A : Option Addr} {n c : Nat} {zs : List ByteArray} (hr : Rd w 1 A n (zs.map Value.string)) (hbig : n ≤ 9223372036854775807) (x : ByteArray) :
    Calls Tryd.prog 48 #[.slice A n c, .string x] w fun e w' => e = .returned (.int .i64 (Lib.idxOfS zs x)) ∧ w' = w := by
  have hl : zs.length = n := by simpa using hr.1
  have hcell : ∀ k, k < n → ∃ b o, A = some ⟨b, o, none⟩ ∧ w.cell? ⟨b, o + k, none⟩ = some (.string (zs.getD k ByteArray.empty)) := by
    intro k hk
    obtain ⟨b, o, u, hA, hu, hc⟩ := hr.at_ hk
    refine ⟨b, o, hA, ?_⟩
    rw [hc]
    rw [List.getElem?_map, List.getElem?_eq_getElem (by omega)] at hu
    simp only [Option.map_some] at hu
    rw [← Option.some.inj hu, List.getD_eq_getElem?_getD, List.getElem?_eq_getElem (by omega)]
    rfl
  have Hcell := Lib.hid hcell
  have Hl := Lib.hid hl
  clear hr hcell hl
  go_enter Tryd.func48, Tryd.ntmps48
  go_wp2
  go_loop [8] (fun i => ∃ k : Nat, k ≤ n ∧ i = .int .i64 k ∧ Hid (∀ j, j < k → zs.getD j ByteArray.empty ≠ x)) (fun i => n - (RowKit.intOf i).toNat)
  case atStart => exact ⟨0, Nat.zero_le _, rfl, fun j hj => absurd hj (Nat.not_lt_zero _)⟩
  case round =>
    obtain ⟨k, hk, rfl, hne⟩ := hrel
    by_cases hkn : k < n
    · obtain ⟨b, o, rfl, hc⟩ := Hcell.out k hkn
      obtain ⟨z, hz⟩ : ∃ z, zs.getD k ByteArray.empty = z := ⟨_, rfl⟩
      rw [hz] at hc
      have he := eqS x z
      have Hz := Lib.hid hz
      clear hz
      by_cases e : x = z
      · rw [decide_eq_true e] at he
        have Hi : Hid (Lib.idxOfS zs x = ((k : Nat) : Int)) := by
          have h2 := Lib.idxOfS_hit zs n k x hkn (by rw [Hl.out]; exact Nat.le_refl _) (by rw [Hz.out, e]) hne.out
          rw [List.take_of_length_le (by rw [Hl.out]; exact Nat.le_refl _)] at h2
          exact h2
        clear e
        go_wp2
        go_ret
        exact ⟨by rw [Hi.out]; rfl, rfl⟩
      · rw [decide_eq_false e] at he
        have HE := Lib.hid e
        clear e
        go_wp2
        go_round
        case rel =>
          refine ⟨k + 1, by omega, by go_num, fun j hj => ?_⟩
          by_cases ej : j = k
          · subst ej; rw [Hz.out]; exact fun h => HE.out h.symm
          · exact hne.out j (by omega)
        case measure => simp [RowKit.intOf]; omega
    · obtain rfl : k = n := by omega
      have Hi : Hid (Lib.idxOfS zs x = -1) := by
        have h2 := Lib.idxOfS_miss zs k x hne.out
        rw [List.take_of_length_le (by rw [Hl.out]; exact Nat.le_refl _)] at h2
        exact h2
      go_wp2
      go_ret
      exact ⟨by rw [Hi.out]; rfl, rfl⟩
theorem idx_mem (zs : List ByteArray) (x : ByteArray) : decide (0 ≤ Lib.idxOfS zs x) = mem zs x := by
  rw [Bool.eq_iff_iff, decide_eq_true_iff, Lib.idxOfS_nonneg_iff, mem_iff]
theorem contains_c {w : World} {A : Option Addr} {n c : Nat} {zs : List ByteArray} (hr : Rd w 1 A n (zs.map Value.string)) (hbig : n ≤ 9223372036854775807) (x : ByteArray) :
    Calls Tryd.prog 42 #[.slice A n c, .string x] w fun e w' => e = .returned (.bool (mem zs x)) ∧ w' = w := by
  rw [← idx_mem]
  have Hr := Lib.hid hr
  clear hr
  go_enter Tryd.func42, Tryd.ntmps42
  go_wp2_with (first
    | (go_at_call 48; (with_reducible refine (index_c Hr.out hbig x).mono ?_); rintro e w4 ⟨rfl, hw⟩; subst hw))
  go_ret
  exact ⟨rfl, rfl⟩
theorem digs_from {s : ByteArray} (h : digs s = true) : Lib.decFrom 0 s.data.toList = some (numV s) := by
  have key : ∀ (l : List UInt8) (acc : Nat), l.all dg = true → ∃ m, Lib.decFrom acc l = some m := by
    intro l
    induction l with
    | nil => intro acc _; exact ⟨acc, rfl⟩
    | cons b r ih =>
      intro acc h
      rw [List.all_cons, Bool.and_eq_true] at h
      obtain ⟨h1, h2⟩ := h
      have hd : Lib.digitVal b = some (b.toNat - 48) := by
        unfold Lib.digitVal
        rw [if_pos]
        simpa [dg, dgN] using h1
      rw [Lib.decFrom, hd]
      exact ih _ h2
  obtain ⟨m, hm⟩ := key s.data.toList 0 h
  unfold numV
  rw [hm]
  rfl
set_option maxHeartbeats 6400000 in
theorem atoi0_c (s : ByteArray) (hl : s.size ≤ 18) (h0 : s.size ≠ 0) (hd : digs s = true) (w : World) :
    Calls Tryd.prog 51 #[.string s] w fun e w' => e = .returned (.tuple #[.int .i64 (numV s : Int), .nilIface]) ∧ Below w.heap.size w w' := by
  have hm := digs_from hd
  have hs0 := sAt s 0 (by omega)
  obtain ⟨b0, hb0⟩ : ∃ b, b = s.data.toList.getD 0 0 := ⟨_, rfl⟩
  rw [← hb0] at hs0
  obtain ⟨q, hq⟩ : ∃ q, b0.toNat = q := ⟨_, rfl⟩
  have hqd : 48 ≤ q ∧ q ≤ 57 := by
    have h1 := List.all_eq_true.1 hd b0 (by
      rw [hb0, List.getD_eq_getElem?_getD, List.getElem?_eq_getElem (by rw [← Lib.size_eq]; omega)]
      exact List.getElem_mem _)
    rw [dg, hq] at h1
    simpa [dgN] using h1
  have h45 : ((q : Int) == 45) = false := by simp; omega
  have h43 : ((q : Int) == 43) = false := by simp; omega
  obtain ⟨m, hmm⟩ : ∃ m, numV s = m := ⟨_, rfl⟩
  rw [hmm] at hm
  rw [hmm]
  have hcv := Lib.run_convert_string_bytes (P := Tryd.prog) w 9 38 5 s (u := .string) Tryd.underlying9 Tryd.underlying38 Tryd.underlying5
  have hB : ∀ j, j < s.size → (Lib.bytesWorld w 5 s).cell? ⟨w.heap.size, j, none⟩ = some (.int .u8 (s.data.toList.getD j 0).toNat) := fun j hj => Lib.bytesWorld_cell w 5 s j hj
  obtain ⟨W1, hW1⟩ : ∃ W1, W1 = Lib.bytesWorld w 5 s := ⟨_, rfl⟩
  rw [← hW1] at hcv hB
  have HW := Lib.hid hW1
  have HB := Lib.hid hB
  have hm18 := Lib.decFrom_lt18 hm (by rw [← Lib.size_eq]; omega)
  have HM := Lib.hid hm
  clear hW1 hB hm hd hb0 hmm hqd
  go_enter Tryd.func51, Tryd.ntmps51
  go_wp2
  go_loop [49, 6] (fun vi vn => ∃ (k acc : Nat), k ≤ s.size ∧ vi = .int .i64 k ∧ vn = .int .i64 acc ∧ Hid (Lib.decFrom 0 (s.data.toList.take k) = some acc)) (fun vi _ => s.size - (RowKit.intOf vi).toNat)
  case atStart => exact ⟨0, 0, Nat.zero_le _, rfl, rfl, rfl⟩
  case round =>
    obtain ⟨k, acc, hk, rfl, rfl, hacc⟩ := hrel
    by_cases hkn : k < s.size
    · obtain ⟨x, hx⟩ : ∃ x, x = s.data.toList.getD k 0 := ⟨_, rfl⟩
      have hxk : s.data.toList[k]? = some x := by
        rw [hx, List.getD, List.getElem?_eq_getElem (by rw [← Lib.size_eq]; exact hkn)]
        rfl
      have hc1 : W1.cell? ⟨w.heap.size, k, none⟩ = some (.int .u8 x.toNat) := by rw [hx]; exact HB.out k hkn
      obtain ⟨dv, hdv⟩ := Lib.digit_of_decFrom _ 0 m HM.out k x hxk
      obtain ⟨h48, h57, hde⟩ := Lib.digitVal_eq hdv
      have hlt := Lib.decFrom_take_lt hacc.out (by omega)
      have Hxk := Lib.hid hxk
      have Hdv := Lib.hid hdv
      clear hx hxk hdv
      go_wp2
      go_round
      case rel => exact ⟨k + 1, acc * 10 + dv, by omega, by go_num, by first | go_num | (congr 1; omega), Lib.decFrom_take _ k 0 acc x dv hacc.out Hxk.out Hdv.out⟩
      case measure => simp [RowKit.intOf]; omega
    · have hke : k = s.size := by omega
      subst hke
      have hfin : acc = m := by
        have h1 := hacc.out
        rw [List.take_of_length_le (by rw [← Lib.size_eq]; exact Nat.le_refl _), HM.out] at h1
        exact (Option.some.inj h1).symm
      subst hfin
      go_wp2
      go_ret2
      refine ⟨rfl, ?_⟩
      rw [HW.out]
      exact ⟨rfl, rfl, rfl, by rw [Lib.bytesWorld_size]; omega, fun i hi => Lib.bytesWorld_at_old w 5 s i hi⟩
theorem atoi_c (s : ByteArray) (hl : s.size ≤ 18) (h0 : s.size ≠ 0) (hd : digs s = true) (w : World) :
    Calls Tryd.prog 46 #[.string s] w fun e w' => e = .returned (.tuple #[.int .i64 (numV s : Int), .nilIface]) ∧ Below w.heap.size w w' := by
  go_enter Tryd.func46, Tryd.ntmps46
  go_wp2_with (first
    | (go_at_call 51; (with_reducible refine (atoi0_c s hl h0 hd _).mono ?_); rintro e w4 ⟨rfl, hb⟩; have HB := Lib.hid hb; clear hb))
  go_ret2
  exact ⟨rfl, HB.out⟩
end Go.Proofs.YtilabahcngjflaaDoor
