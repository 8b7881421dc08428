/- The law FrameOpens. -/
import Derived.Test.YtokbdkbljgdcpaaDoorY47
import Derived.Test.YtokbdkbljgdcpaaDoorY48
import Derived.Deep.RegionHeld
namespace Go.Proofs.YtokbdkbljgdcpaaDoor
open Go.RowKit Go.Own Go.Frm
set_option linter.unusedVariables false
set_option maxRecDepth 100000
theorem open_pre (k : Nat) : openP (pref.take k) ≠ 3 := by
  unfold openP
  have e : (pref.take k).take 24 = pref.take (pref.take k).length := by
    rw [List.length_take, List.take_of_length_le (l := pref.take k) (by rw [List.length_take]; exact Nat.le_trans (Nat.min_le_right _ _) (by decide))]
    rcases Nat.le_total k pref.length with h | h
    · rw [Nat.min_eq_left h]
    · rw [Nat.min_eq_right h, List.take_of_length_le h, List.take_length]
  have hb : ((pref.take k).take 24 != pref.take (pref.take k).length) = false := by rw [e]; simp
  rw [hb]
  cases decide ((pref.take k).length < 24) <;> decide
theorem ext_str : ∀ k, k < 25 → ({ data := #[80, 82, 73, 32, 42, 32, 72, 84, 84, 80, 47, 50, 46, 48, 13, 10, 13, 10, 83, 77, 13, 10, 13, 10] } : ByteArray).extract 0 k = ⟨(pref.take k).toArray⟩ := by decide +kernel
set_option maxHeartbeats 8000000 in
theorem lawOpens {w : World} {A B : Option Addr} {n c m d : Nat} {xs ys : List UInt8} (hr : Rd w 1 A n (xs.map BV)) (hnc : n ≤ c) (hc : c ≤ 140737488351232) (z : Int) (hz : -9223372036854775808 ≤ z ∧ z ≤ 9223372036854775807) (hr2 : Rd w 1 B m (ys.map BV)) (hmd : m ≤ d) (hd : d ≤ 140737488351232) (hG : Gl w) :
    Calls Tryd.prog 11 #[.slice A n c, .int .i64 z, .slice B m d] w fun e w' => e = .returned (.bool true) ∧ Below w.heap.size w w' := by
  have hxl0 : xs.length = n := by simpa using hr.1
  have hyl0 : ys.length = m := by simpa using hr2.1
  have HG := Lib.hid hG
  have HR := Lib.hid hr
  have HR2 := Lib.hid hr2
  have hc63 : c ≤ 9223372036854775807 := by omega
  have hxl : xs.length ≤ 140737488355328 := by omega
  obtain ⟨q, hq⟩ : ∃ q : Nat, (if z < 0 then (-(z + 1)) else z) = (q : Int) := ⟨(if z < 0 then (-(z + 1)) else z).toNat, by split <;> omega⟩
  obtain ⟨k, hk⟩ : ∃ k : Nat, q % 25 = k := ⟨_, rfl⟩
  have hk25 : k < 25 := by omega
  have hr1 : (q : Int) % 25 = (k : Int) := by omega
  have hr3 : (q : Int).tmod 25 = (k : Int) := by rw [Int.tmod_eq_emod_of_nonneg (by omega)]; exact hr1
  have hkk : (k : Int) ≤ 24 := by omega
  have hkn : k ≤ 24 := by omega
  have hpk : (pref.take k).length = k := by rw [List.length_take]; exact Nat.min_eq_left (by show k ≤ 24; exact hkn)
  have hpm : (pref.take k).length ≤ 1000 := by omega
  have hcl : (pref.take k ++ ys).length ≤ 140737488355328 := by rw [List.length_append]; omega
  have HPK := Lib.hid hpk
  have HXS := Lib.hid (ext_str k hk25)
  have ho20 : openP pref = 0 := by decide +kernel
  obtain ⟨op, hop⟩ : ∃ o, openP (pref.take k) = o := ⟨_, rfl⟩
  have hne : (op != 3) = true := by rw [← hop]; simpa using open_pre k
  have hne3 : ¬ op = 3 := by rw [← hop]; exact open_pre k
  have HQ := Lib.hid hop
  have key : (z < 0 ∧ IntKind.i64.wrap (z + 1) = z + 1 ∧ IntKind.i64.wrap (-(z + 1)) = (q : Int)) ∨ (¬ z < 0 ∧ z = (q : Int)) := by
    by_cases hzn : z < 0
    · left
      rw [if_pos hzn] at hq
      exact ⟨hzn, by rw [IntKind.wrap_i64]; omega, by rw [IntKind.wrap_i64]; omega⟩
    · right
      rw [if_neg hzn] at hq
      exact ⟨hzn, hq⟩
  have Hq := Lib.hid hq
  clear hG hr hr2 hq hpk hop hxl0 hyl0
  rcases key with ⟨hzn, h1, h2⟩ | ⟨hzn, rfl⟩
  all_goals
    go_enter Tryd.func11, Tryd.ntmps11
    go_wp2_with (first
      | (go_at_call 12; (with_reducible refine (shown_c HG.out).mono ?_); rintro e w1 ⟨rfl, hb1⟩
         have HB1 := Lib.hid hb1
         clear hb1)
      | (refine wpList_conv_str rfl (.tmp 23) rfl (pref.take k) (congrArg Value.string HXS.out) hpm ?_
         intro C2 w2 hC2 hC2m hM2 hb2 hs2
         rw [HPK.out] at hC2 ⊢
         have M2 := Lib.hid hM2
         have HB2 := Lib.hid (HB1.out.trans (hb2.mono HB1.out.size))
         have HS2 : Hid (w.heap.size ≤ w1.heap.size) := HB1.out.size
         clear hM2 hb2)
      | (at_builtin
         refine wpList_append_mark rfl (.tmp 24) (.tmp 25) rfl w1.heap.size C2 m d B (pref.take k) ys (by rw [HPK.out]; rfl) M2.out (by rw [HPK.out]; exact hC2) hC2m rfl (HR2.out.below HB2.out) (by rw [HPK.out]; omega) hpm ?_
         intro A6 c6 w6 hc6 hf6 h96 hc96'
         rw [HPK.out] at hc6 h96 ⊢
         have HC6 := Lib.hid hc6
         have hc96 : c6 ≤ 9223372036854775807 := by unfold maxLen at hc96'; omega
         have HB6 := Lib.hid (HB2.out.trans (hf6.below (B := w.heap.size) HB2.out.size (fun i _ e => by rw [e]; exact HS2.out)))
         have HX6 := Lib.hid (HR.out.below HB6.out)
         clear hc6 hf6 hc96' M2 hC2 hC2m))
    have BP : Hid (Below w6.heap.size w6 w6.drew) := below_drewN (Below.refl _ _) 1
    refine wp_region_held_drew (S := (fun w' => (convert 22 9 (.slice A n c)).run Tryd.prog w' = .ok (.string { data := xs.toArray }) w' ∧ (convert 22 9 (.slice A6 (k + m) c6)).run Tryd.prog w' = .ok (.string { data := (pref.take k ++ ys).toArray }) w')) (by kernel_rfl) ?_ (fun hHeld => ?_)
    · exact ⟨run_conv_bytes Tryd.underlying22 Tryd.underlying5 Tryd.underlying9 (HX6.out.below BP.out), run_conv_bytes Tryd.underlying22 Tryd.underlying5 Tryd.underlying9 (HC6.out.below BP.out)⟩
    refine wpAnyH_take (i := 0) (oi := { dst := some 27, op := Op.move (Operand.tmp 7), type := 4, pos := "more.go:136", after := #[], guard := none }) (v := ?_) rfl (by kernel_rfl) (by kernel_rfl) (by kernel_rfl) (fun _ _ _ h => h) (Or.inl ⟨by kernel_rfl, ?_⟩) hHeld ?_
    rotate_left
    · intro w hSw; (try dsimp only at hSw); go_simp; try with_reducible rfl
    simp only [Act.put, List.setIfInBounds_toArray, List.set_cons_zero, List.set_cons_succ]
    refine wpAnyH_take (i := 1) (oi := { dst := some 28, op := Op.move (Operand.tmp 27), type := 4, pos := "more.go:136", after := #[{ on := 0, ground := Ground.data }], guard := none }) (v := ?_) rfl (by kernel_rfl) (by kernel_rfl) (by kernel_rfl) (fun _ _ _ h => h) (Or.inl ⟨by kernel_rfl, ?_⟩) hHeld ?_
    rotate_left
    · intro w hSw; (try dsimp only at hSw); go_simp; try with_reducible rfl
    simp only [Act.put, List.setIfInBounds_toArray, List.set_cons_zero, List.set_cons_succ]
    refine wpAnyH_take (i := 2) (oi := { dst := some 29, op := Op.move (Operand.tmp 0), type := 22, pos := "more.go:136", after := #[{ on := 1, ground := Ground.guard }], guard := some (1, true) }) (v := ?_) rfl (by kernel_rfl) (by kernel_rfl) (by kernel_rfl) (fun _ _ _ h => h) (Or.inl ⟨by kernel_rfl, ?_⟩) hHeld ?_
    rotate_left
    · intro w hSw; (try dsimp only at hSw); go_simp; try with_reducible rfl
    simp only [Act.put, List.setIfInBounds_toArray, List.set_cons_zero, List.set_cons_succ]
    refine wpAnyH_take (i := 4) (oi := { dst := some 31, op := Op.move (Operand.tmp 0), type := 22, pos := "more.go:136", after := #[{ on := 1, ground := Ground.guard }], guard := some (1, true) }) (v := ?_) rfl (by kernel_rfl) (by kernel_rfl) (by kernel_rfl) (fun _ _ _ h => h) (Or.inl ⟨by kernel_rfl, ?_⟩) hHeld ?_
    rotate_left
    · intro w hSw; (try dsimp only at hSw); go_simp; try with_reducible rfl
    simp only [Act.put, List.setIfInBounds_toArray, List.set_cons_zero, List.set_cons_succ]
    refine wpAnyH_take (i := 5) (oi := { dst := some 32, op := Op.convert 22 9 (Operand.tmp 31), type := 9, pos := "more.go:136", after := #[{ on := 4, ground := Ground.data }, { on := 1, ground := Ground.guard }], guard := some (1, true) }) (v := ?_) rfl (by kernel_rfl) (by kernel_rfl) (by kernel_rfl) (fun _ _ _ h => h) (Or.inl ⟨by kernel_rfl, ?_⟩) hHeld ?_
    rotate_left
    · intro w hSw; (try dsimp only at hSw); go_simp; try with_reducible rfl
    simp only [Act.put, List.setIfInBounds_toArray, List.set_cons_zero, List.set_cons_succ]
    refine wpAnyH_ready (rs := [3]) (by kernel_rfl) (by simp) ?_
    refine AllReadyH.cons rfl (fun K hK => ?_) AllReadyH.nil
    go_simp
    go_wp2_with (first
      | (go_at_call 29; (with_reducible refine (opening_c (HX6.out.below BP.out) hnc hc63).mono ?_); rintro e wa ⟨rfl, hb⟩
         have BP2 := Lib.hid (BP.out.trans (hb.mono BP.out.size))
         clear BP hb
         have BP := BP2
         clear BP2))
    refine hK.out _ _ ?_ (fun hHeld2 => ?_)
    · exact ⟨run_conv_bytes Tryd.underlying22 Tryd.underlying5 Tryd.underlying9 (HX6.out.below BP.out), run_conv_bytes Tryd.underlying22 Tryd.underlying5 Tryd.underlying9 (HC6.out.below BP.out)⟩
    clear hK K hHeld
    rename _ => hHeld
    (try simp only [Act.put, List.setIfInBounds_toArray, List.set_cons_zero, List.set_cons_succ])
    refine wpAnyH_ready (rs := [6]) (by kernel_rfl) (by simp) ?_
    refine AllReadyH.cons rfl (fun K hK => ?_) AllReadyH.nil
    go_simp
    go_wp2_with (first
      | (go_at_call 30; (with_reducible refine (ropening_c xs hxl _).mono ?_); rintro e wb ⟨rfl, hb⟩
         have BP2 := Lib.hid (BP.out.trans (hb.mono BP.out.size))
         clear BP hb
         have BP := BP2
         clear BP2))
    refine hK.out _ _ ?_ (fun hHeld2 => ?_)
    · exact ⟨run_conv_bytes Tryd.underlying22 Tryd.underlying5 Tryd.underlying9 (HX6.out.below BP.out), run_conv_bytes Tryd.underlying22 Tryd.underlying5 Tryd.underlying9 (HC6.out.below BP.out)⟩
    clear hK K hHeld
    rename _ => hHeld
    (try simp only [Act.put, List.setIfInBounds_toArray, List.set_cons_zero, List.set_cons_succ])
    refine wpAnyH_take (i := 7) (oi := { dst := some 34, op := Op.binOp BinOp.eql 30 (Operand.tmp 30) (Operand.tmp 33) 30, type := 4, pos := "more.go:136", after := #[{ on := 3, ground := Ground.data }, { on := 6, ground := Ground.data }, { on := 1, ground := Ground.guard }], guard := some (1, true) }) (v := ?_) rfl (by kernel_rfl) (by kernel_rfl) (by kernel_rfl) (fun _ _ _ h => h) (Or.inl ⟨by kernel_rfl, ?_⟩) hHeld ?_
    rotate_left
    · intro w hSw; (try dsimp only at hSw); go_simp; try with_reducible rfl
    simp only [Act.put, List.setIfInBounds_toArray, List.set_cons_zero, List.set_cons_succ]
    refine wpAnyH_take (i := 8) (oi := { dst := some 35, op := Op.pick (Operand.tmp 28) (Operand.tmp 34) (Operand.const (Value.bool false)), type := 4, pos := "more.go:136", after := #[{ on := 1, ground := Ground.data }, { on := 7, ground := Ground.data }], guard := none }) (v := ?_) rfl (by kernel_rfl) (by kernel_rfl) (by kernel_rfl) (fun _ _ _ h => h) (Or.inl ⟨by kernel_rfl, ?_⟩) hHeld ?_
    rotate_left
    · intro w hSw; (try dsimp only at hSw); go_simp; try with_reducible rfl
    simp only [Act.put, List.setIfInBounds_toArray, List.set_cons_zero, List.set_cons_succ]
    refine wpAnyH_take (i := 9) (oi := { dst := some 36, op := Op.move (Operand.tmp 35), type := 4, pos := "more.go:136", after := #[{ on := 8, ground := Ground.data }, { on := 6, ground := Ground.chain }], guard := none }) (v := ?_) rfl (by kernel_rfl) (by kernel_rfl) (by kernel_rfl) (fun _ _ _ h => h) (Or.inl ⟨by kernel_rfl, ?_⟩) hHeld ?_
    rotate_left
    · intro w hSw; (try dsimp only at hSw); go_simp; try with_reducible rfl
    simp only [Act.put, List.setIfInBounds_toArray, List.set_cons_zero, List.set_cons_succ]
    refine wpAnyH_take (i := 10) (oi := { dst := some 37, op := Op.move (Operand.tmp 9), type := 22, pos := "more.go:136", after := #[{ on := 9, ground := Ground.guard }], guard := some (9, true) }) (v := ?_) rfl (by kernel_rfl) (by kernel_rfl) (by kernel_rfl) (fun _ _ _ h => h) (Or.inl ⟨by kernel_rfl, ?_⟩) hHeld ?_
    rotate_left
    · intro w hSw; (try dsimp only at hSw); go_simp; try with_reducible rfl
    simp only [Act.put, List.setIfInBounds_toArray, List.set_cons_zero, List.set_cons_succ]
    refine wpAnyH_take (i := 12) (oi := { dst := some 39, op := Op.move (Operand.tmp 9), type := 22, pos := "more.go:136", after := #[{ on := 9, ground := Ground.guard }], guard := some (9, true) }) (v := ?_) rfl (by kernel_rfl) (by kernel_rfl) (by kernel_rfl) (fun _ _ _ h => h) (Or.inl ⟨by kernel_rfl, ?_⟩) hHeld ?_
    rotate_left
    · intro w hSw; (try dsimp only at hSw); go_simp; try with_reducible rfl
    simp only [Act.put, List.setIfInBounds_toArray, List.set_cons_zero, List.set_cons_succ]
    refine wpAnyH_take (i := 13) (oi := { dst := some 40, op := Op.convert 22 9 (Operand.tmp 39), type := 9, pos := "more.go:136", after := #[{ on := 12, ground := Ground.data }, { on := 9, ground := Ground.guard }], guard := some (9, true) }) (v := ?_) rfl (by kernel_rfl) (by kernel_rfl) (by kernel_rfl) (fun _ _ _ h => h) (Or.inl ⟨by kernel_rfl, ?_⟩) hHeld ?_
    rotate_left
    · intro w hSw; (try dsimp only at hSw); go_simp; try with_reducible rfl
    simp only [Act.put, List.setIfInBounds_toArray, List.set_cons_zero, List.set_cons_succ]
    refine wpAnyH_ready (rs := [11]) (by kernel_rfl) (by simp) ?_
    refine AllReadyH.cons rfl (fun K hK => ?_) AllReadyH.nil
    go_simp
    go_wp2_with (first
      | (go_at_call 29; (with_reducible refine (opening_c (HC6.out.below BP.out) h96 hc96).mono ?_); rintro e wc ⟨rfl, hb⟩
         have BP2 := Lib.hid (BP.out.trans (hb.mono BP.out.size))
         clear BP hb
         have BP := BP2
         clear BP2))
    refine hK.out _ _ ?_ (fun hHeld2 => ?_)
    · exact ⟨run_conv_bytes Tryd.underlying22 Tryd.underlying5 Tryd.underlying9 (HX6.out.below BP.out), run_conv_bytes Tryd.underlying22 Tryd.underlying5 Tryd.underlying9 (HC6.out.below BP.out)⟩
    clear hK K hHeld
    rename _ => hHeld
    (try simp only [Act.put, List.setIfInBounds_toArray, List.set_cons_zero, List.set_cons_succ])
    refine wpAnyH_ready (rs := [14]) (by kernel_rfl) (by simp) ?_
    refine AllReadyH.cons rfl (fun K hK => ?_) AllReadyH.nil
    go_simp
    go_wp2_with (first
      | (go_at_call 30; (with_reducible refine (ropening_c (pref.take k ++ ys) hcl _).mono ?_); rintro e wd ⟨rfl, hb⟩
         have BP2 := Lib.hid (BP.out.trans (hb.mono BP.out.size))
         clear BP hb
         have BP := BP2
         clear BP2))
    refine hK.out _ _ ?_ (fun hHeld2 => ?_)
    · exact ⟨run_conv_bytes Tryd.underlying22 Tryd.underlying5 Tryd.underlying9 (HX6.out.below BP.out), run_conv_bytes Tryd.underlying22 Tryd.underlying5 Tryd.underlying9 (HC6.out.below BP.out)⟩
    clear hK K hHeld
    rename _ => hHeld
    (try simp only [Act.put, List.setIfInBounds_toArray, List.set_cons_zero, List.set_cons_succ])
    refine wpAnyH_take (i := 15) (oi := { dst := some 42, op := Op.binOp BinOp.eql 30 (Operand.tmp 38) (Operand.tmp 41) 30, type := 4, pos := "more.go:136", after := #[{ on := 11, ground := Ground.data }, { on := 14, ground := Ground.data }, { on := 9, ground := Ground.guard }], guard := some (9, true) }) (v := ?_) rfl (by kernel_rfl) (by kernel_rfl) (by kernel_rfl) (fun _ _ _ h => h) (Or.inl ⟨by kernel_rfl, ?_⟩) hHeld ?_
    rotate_left
    · intro w hSw; (try dsimp only at hSw); go_simp; try with_reducible rfl
    simp only [Act.put, List.setIfInBounds_toArray, List.set_cons_zero, List.set_cons_succ]
    refine wpAnyH_take (i := 16) (oi := { dst := some 43, op := Op.pick (Operand.tmp 36) (Operand.tmp 42) (Operand.const (Value.bool false)), type := 4, pos := "more.go:136", after := #[{ on := 9, ground := Ground.data }, { on := 15, ground := Ground.data }], guard := none }) (v := ?_) rfl (by kernel_rfl) (by kernel_rfl) (by kernel_rfl) (fun _ _ _ h => h) (Or.inl ⟨by kernel_rfl, ?_⟩) hHeld ?_
    rotate_left
    · intro w hSw; (try dsimp only at hSw); go_simp; try with_reducible rfl
    simp only [Act.put, List.setIfInBounds_toArray, List.set_cons_zero, List.set_cons_succ]
    refine wpAnyH_take (i := 17) (oi := { dst := some 44, op := Op.move (Operand.tmp 43), type := 4, pos := "more.go:136", after := #[{ on := 16, ground := Ground.data }, { on := 14, ground := Ground.chain }], guard := none }) (v := ?_) rfl (by kernel_rfl) (by kernel_rfl) (by kernel_rfl) (fun _ _ _ h => h) (Or.inl ⟨by kernel_rfl, ?_⟩) hHeld ?_
    rotate_left
    · intro w hSw; (try dsimp only at hSw); go_simp; try with_reducible rfl
    simp only [Act.put, List.setIfInBounds_toArray, List.set_cons_zero, List.set_cons_succ]
    refine wpAnyH_take (i := 18) (oi := { dst := some 45, op := Op.move (Operand.tmp 8), type := 9, pos := "more.go:136", after := #[{ on := 17, ground := Ground.guard }], guard := some (17, true) }) (v := ?_) rfl (by kernel_rfl) (by kernel_rfl) (by kernel_rfl) (fun _ _ _ h => h) (Or.inl ⟨by kernel_rfl, ?_⟩) hHeld ?_
    rotate_left
    · intro w hSw; (try dsimp only at hSw); go_simp; try with_reducible rfl
    simp only [Act.put, List.setIfInBounds_toArray, List.set_cons_zero, List.set_cons_succ]
    refine wpAnyH_ready (rs := [19]) (by kernel_rfl) (by simp) ?_
    refine AllReadyH.cons rfl (fun K hK => ?_) AllReadyH.nil
    rw [if_pos (by kernel_rfl)]
    refine wp_conv_str (.tmp 45) rfl pref rfl (by decide) ?_
    intro C1 W1 hC1 hC1m hM hb hsz
    have hC1q : C1 ≤ 9223372036854775807 := by unfold maxLen at hC1m; omega
    have M1 := Lib.hid hM
    have BM : Hid (Below W1.heap.size W1 W1) := Below.refl _ _
    have BP2 := Lib.hid (BP.out.trans (hb.mono BP.out.size))
    clear BP hb hM hsz
    have BP := BP2
    clear BP2
    refine hK.out _ _ ?_ (fun hHeld2 => ?_)
    · exact ⟨run_conv_bytes Tryd.underlying22 Tryd.underlying5 Tryd.underlying9 (HX6.out.below BP.out), run_conv_bytes Tryd.underlying22 Tryd.underlying5 Tryd.underlying9 (HC6.out.below BP.out)⟩
    clear hK K hHeld
    rename _ => hHeld
    (try simp only [Act.put, List.setIfInBounds_toArray])
    refine wpAnyH_ready (rs := [20]) (by kernel_rfl) (by simp) ?_
    refine AllReadyH.cons rfl (fun K hK => ?_) AllReadyH.nil
    go_simp
    go_wp2_with (first
      | (go_at_call 29; (with_reducible refine (opening_c (M1.out.rd.below BM.out) hC1 hC1q).mono ?_); rintro e wf ⟨rfl, hb⟩
         rw [ho20]
         have BP2 := Lib.hid (BP.out.trans (hb.mono BP.out.size))
         clear BP hb
         have BP := BP2
         clear BP2))
    refine hK.out _ _ ?_ (fun hHeld2 => ?_)
    · exact ⟨run_conv_bytes Tryd.underlying22 Tryd.underlying5 Tryd.underlying9 (HX6.out.below BP.out), run_conv_bytes Tryd.underlying22 Tryd.underlying5 Tryd.underlying9 (HC6.out.below BP.out)⟩
    clear hK K hHeld
    rename _ => hHeld
    (try simp only [Act.put, List.setIfInBounds_toArray, List.set_cons_zero, List.set_cons_succ])
    refine wpAnyH_take (i := 21) (oi := { dst := some 48, op := Op.binOp BinOp.eql 30 (Operand.tmp 47) (Operand.const (Value.int IntKind.i64 0)) 30, type := 4, pos := "more.go:136", after := #[{ on := 20, ground := Ground.data }, { on := 17, ground := Ground.guard }], guard := some (17, true) }) (v := ?_) rfl (by kernel_rfl) (by kernel_rfl) (by kernel_rfl) (fun _ _ _ h => h) (Or.inl ⟨by kernel_rfl, ?_⟩) hHeld ?_
    rotate_left
    · intro w hSw; (try dsimp only at hSw); go_simp; try with_reducible rfl
    simp only [Act.put, List.setIfInBounds_toArray, List.set_cons_zero, List.set_cons_succ]
    refine wpAnyH_take (i := 22) (oi := { dst := some 49, op := Op.pick (Operand.tmp 44) (Operand.tmp 48) (Operand.const (Value.bool false)), type := 4, pos := "more.go:136", after := #[{ on := 17, ground := Ground.data }, { on := 21, ground := Ground.data }], guard := none }) (v := ?_) rfl (by kernel_rfl) (by kernel_rfl) (by kernel_rfl) (fun _ _ _ h => h) (Or.inl ⟨by kernel_rfl, ?_⟩) hHeld ?_
    rotate_left
    · intro w hSw; (try dsimp only at hSw); go_simp; try with_reducible rfl
    simp only [Act.put, List.setIfInBounds_toArray, List.set_cons_zero, List.set_cons_succ]
    refine wpAnyH_take (i := 23) (oi := { dst := some 50, op := Op.move (Operand.tmp 49), type := 4, pos := "more.go:136", after := #[{ on := 22, ground := Ground.data }, { on := 20, ground := Ground.chain }], guard := none }) (v := ?_) rfl (by kernel_rfl) (by kernel_rfl) (by kernel_rfl) (fun _ _ _ h => h) (Or.inl ⟨by kernel_rfl, ?_⟩) hHeld ?_
    rotate_left
    · intro w hSw; (try dsimp only at hSw); go_simp; try with_reducible rfl
    simp only [Act.put, List.setIfInBounds_toArray, List.set_cons_zero, List.set_cons_succ]
    refine wpAnyH_take (i := 24) (oi := { dst := some 51, op := Op.move (Operand.tmp 8), type := 9, pos := "more.go:136", after := #[{ on := 23, ground := Ground.guard }], guard := some (23, true) }) (v := ?_) rfl (by kernel_rfl) (by kernel_rfl) (by kernel_rfl) (fun _ _ _ h => h) (Or.inl ⟨by kernel_rfl, ?_⟩) hHeld ?_
    rotate_left
    · intro w hSw; (try dsimp only at hSw); go_simp; try with_reducible rfl
    simp only [Act.put, List.setIfInBounds_toArray, List.set_cons_zero, List.set_cons_succ]
    refine wpAnyH_take (i := 25) (oi := { dst := some 52, op := Op.move (Operand.tmp 1), type := 3, pos := "more.go:136", after := #[{ on := 23, ground := Ground.guard }], guard := some (23, true) }) (v := ?_) rfl (by kernel_rfl) (by kernel_rfl) (by kernel_rfl) (fun _ _ _ h => h) (Or.inl ⟨by kernel_rfl, ?_⟩) hHeld ?_
    rotate_left
    · intro w hSw; (try dsimp only at hSw); go_simp; try with_reducible rfl
    simp only [Act.put, List.setIfInBounds_toArray, List.set_cons_zero, List.set_cons_succ]
    refine wpAnyH_take (i := 26) (oi := { dst := some 53, op := Op.slice 9 (Operand.tmp 51) none (some (Operand.tmp 52)) none, type := 9, pos := "more.go:136", after := #[{ on := 24, ground := Ground.data }, { on := 25, ground := Ground.data }, { on := 23, ground := Ground.guard }], guard := some (23, true) }) (v := ?_) rfl (by kernel_rfl) (by kernel_rfl) (by kernel_rfl) (fun _ _ _ h => h) (Or.inl ⟨by kernel_rfl, ?_⟩) hHeld ?_
    rotate_left
    · intro w hSw; (try dsimp only at hSw); go_simp; try with_reducible rfl
    simp only [Act.put, List.setIfInBounds_toArray, List.set_cons_zero, List.set_cons_succ]
    refine wpAnyH_ready (rs := [27]) (by kernel_rfl) (by simp) ?_
    refine AllReadyH.cons rfl (fun K hK => ?_) AllReadyH.nil
    rw [if_pos (by kernel_rfl)]
    refine wp_conv_str (.tmp 53) rfl (pref.take k) (congrArg Value.string (ext_str k hk25)) (by rw [List.length_take]; omega) ?_
    intro C2 W2 hC2 hC2m hM hb hsz
    have hC2q : C2 ≤ 9223372036854775807 := by unfold maxLen at hC2m; omega
    have hR2 := hM.rd
    rw [HPK.out] at hR2 hC2 ⊢
    have R2 := Lib.hid hR2
    clear hR2
    have BN : Hid (Below W2.heap.size W2 W2) := Below.refl _ _
    have BP2 := Lib.hid (BP.out.trans (hb.mono BP.out.size))
    clear BP hb hM hsz
    have BP := BP2
    clear BP2
    refine hK.out _ _ ?_ (fun hHeld2 => ?_)
    · exact ⟨run_conv_bytes Tryd.underlying22 Tryd.underlying5 Tryd.underlying9 (HX6.out.below BP.out), run_conv_bytes Tryd.underlying22 Tryd.underlying5 Tryd.underlying9 (HC6.out.below BP.out)⟩
    clear hK K hHeld
    rename _ => hHeld
    (try simp only [Act.put, List.setIfInBounds_toArray])
    refine wpAnyH_ready (rs := [28]) (by kernel_rfl) (by simp) ?_
    refine AllReadyH.cons rfl (fun K hK => ?_) AllReadyH.nil
    go_simp
    go_wp2_with (first
      | (go_at_call 29; (with_reducible refine (opening_c (R2.out.below BN.out) hC2 hC2q).mono ?_); rintro e wh ⟨rfl, hb⟩
         rw [HQ.out]
         have BP2 := Lib.hid (BP.out.trans (hb.mono BP.out.size))
         clear BP hb
         have BP := BP2
         clear BP2))
    refine hK.out _ _ ?_ (fun hHeld2 => ?_)
    · exact ⟨run_conv_bytes Tryd.underlying22 Tryd.underlying5 Tryd.underlying9 (HX6.out.below BP.out), run_conv_bytes Tryd.underlying22 Tryd.underlying5 Tryd.underlying9 (HC6.out.below BP.out)⟩
    clear hK K hHeld
    rename _ => hHeld
    (try simp only [Act.put, List.setIfInBounds_toArray, List.set_cons_zero, List.set_cons_succ])
    refine wpAnyH_take (i := 29) (oi := { dst := some 56, op := Op.binOp BinOp.neq 30 (Operand.tmp 55) (Operand.const (Value.int IntKind.i64 3)) 30, type := 4, pos := "more.go:136", after := #[{ on := 28, ground := Ground.data }, { on := 23, ground := Ground.guard }], guard := some (23, true) }) (v := ?_) rfl (by kernel_rfl) (by kernel_rfl) (by kernel_rfl) (fun _ _ _ h => h) (Or.inl ⟨by kernel_rfl, ?_⟩) hHeld ?_
    rotate_left
    · intro w hSw; (try dsimp only at hSw); go_simp; try with_reducible rfl
    simp only [Act.put, List.setIfInBounds_toArray, List.set_cons_zero, List.set_cons_succ]
    refine wpAnyH_take (i := 30) (oi := { dst := some 57, op := Op.pick (Operand.tmp 50) (Operand.tmp 56) (Operand.const (Value.bool false)), type := 4, pos := "more.go:136", after := #[{ on := 23, ground := Ground.data }, { on := 29, ground := Ground.data }], guard := none }) (v := ?_) rfl (by kernel_rfl) (by kernel_rfl) (by kernel_rfl) (fun _ _ _ h => h) (Or.inl ⟨by kernel_rfl, ?_⟩) hHeld ?_
    rotate_left
    · intro w hSw; (try dsimp only at hSw); go_simp; try with_reducible rfl
    simp only [Act.put, List.setIfInBounds_toArray, List.set_cons_zero, List.set_cons_succ]
    refine wpAnyH_take (i := 31) (oi := { dst := some 6, op := Op.assign (Operand.tmp 57), type := 4, pos := "more.go:136", after := #[{ on := 30, ground := Ground.data }, { on := 28, ground := Ground.chain }, { on := 0, ground := Ground.phase }, { on := 1, ground := Ground.phase }, { on := 2, ground := Ground.phase }, { on := 3, ground := Ground.phase }, { on := 4, ground := Ground.phase }, { on := 5, ground := Ground.phase }, { on := 6, ground := Ground.phase }, { on := 7, ground := Ground.phase }, { on := 8, ground := Ground.phase }, { on := 9, ground := Ground.phase }, { on := 10, ground := Ground.phase }, { on := 11, ground := Ground.phase }, { on := 12, ground := Ground.phase }, { on := 13, ground := Ground.phase }, { on := 14, ground := Ground.phase }, { on := 15, ground := Ground.phase }, { on := 16, ground := Ground.phase }, { on := 17, ground := Ground.phase }, { on := 18, ground := Ground.phase }, { on := 19, ground := Ground.phase }, { on := 20, ground := Ground.phase }, { on := 21, ground := Ground.phase }, { on := 22, ground := Ground.phase }, { on := 23, ground := Ground.phase }, { on := 24, ground := Ground.phase }, { on := 25, ground := Ground.phase }, { on := 26, ground := Ground.phase }, { on := 27, ground := Ground.phase }, { on := 28, ground := Ground.phase }, { on := 29, ground := Ground.phase }, { on := 30, ground := Ground.phase }], guard := none }) (v := ?_) rfl (by kernel_rfl) (by kernel_rfl) (by kernel_rfl) (fun _ _ _ h => h) (Or.inl ⟨by kernel_rfl, ?_⟩) hHeld ?_
    rotate_left
    · intro w hSw; (try dsimp only at hSw); go_simp; try with_reducible rfl
    simp only [Act.put, List.setIfInBounds_toArray, List.set_cons_zero, List.set_cons_succ]
    refine wpAnyH_done (by kernel_rfl) ?_ _
    go_wp2
    go_ret
    exact ⟨rfl, HB6.out.trans (BP.out.mono HB6.out.size)⟩
end Go.Proofs.YtokbdkbljgdcpaaDoor
