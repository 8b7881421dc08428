/- The law FrameStreams: the walk. -/
import Derived.Test.YtokbdkbljgdcpaaDoorYSLwG
namespace Go.Proofs.YtokbdkbljgdcpaaDoor
open Go.RowKit Go.Own Go.Frm
set_option linter.unusedVariables false
set_option maxRecDepth 100000
theorem settle_nil (o : Fm × Flt) : Go.Frm.settle o [] = (⟨o.1, o.2, true⟩, ⟨[], o.2.is && o.2.stream == 0⟩) := by
  unfold Go.Frm.settle
  cases (o.2.is && o.2.stream == 0) <;> rfl
set_option maxHeartbeats 8000000 in
theorem lawStreams {w : World} (z1 : Int) (hz1 : -9223372036854775808 ≤ z1 ∧ z1 ≤ 9223372036854775807) (fz : Int) (hfz : 0 ≤ fz ∧ fz ≤ 255) (z2 : Int) (hz2 : -9223372036854775808 ≤ z2 ∧ z2 ≤ 9223372036854775807)
    {A : Option Addr} {nb c : Nat} {xs : List UInt8} (hr : Rd w 1 A nb (xs.map BV)) (hnc : nb ≤ c) (hc : c ≤ 140737488351232) (hG : Gl w) :
    Calls Tryd.prog 9 #[.int .i64 z1, .int .u8 fz, .int .i64 z2, .slice A nb c] w fun e w' => e = .returned (.bool true) ∧ Below w.heap.size w w' := by
  obtain ⟨fl, rfl⟩ : ∃ fl : Nat, fz = (fl : Int) := ⟨fz.toNat, by omega⟩
  have hfl : fl < 256 := by omega
  obtain ⟨k16, hk16⟩ : ∃ k16 : Nat, (z1 % ((2 ^ 4 : Nat) : Int)).toNat = k16 := ⟨_, rfl⟩
  have a1 := and_mask z1 4 (by omega) 15 rfl
  rw [hk16] at a1
  obtain ⟨k, hk⟩ : ∃ k, k16 % 10 = k := ⟨_, rfl⟩
  have hk10 : k < 10 := by omega
  have a2 : ((k16 : Nat) : Int) % 10 = (k : Int) := by omega
  have a3 : ((k16 : Nat) : Int).tmod 10 = (k : Int) := by rw [Int.tmod_eq_emod_of_nonneg (by omega)]; exact a2
  obtain ⟨s, hs⟩ : ∃ s : Nat, (z2 % ((2 ^ 31 : Nat) : Int)).toNat = s := ⟨_, rfl⟩
  have a4 := and_mask z2 31 (by omega) 2147483647 rfl
  rw [hs] at a4
  have hs31 : s < 2147483648 := by omega
  obtain ⟨n, hn⟩ : ∃ n, min nb 300 = n := ⟨_, rfl⟩
  have hm1 : (if (nb : Int) ≤ 300 then (nb : Int) else 300) = (n : Int) := by split <;> omega
  have hm2 : (if (300 : Int) < (nb : Int) then 300 else (nb : Int)) = (n : Int) := by split <;> omega
  have hm3 : (if nb ≤ 300 then (nb : Int) else 300) = (n : Int) := by split <;> omega
  have hm4 : (if 300 < nb then (300 : Int) else (nb : Int)) = (n : Int) := by split <;> omega
  have hnn : n ≤ nb := by omega
  have hnc2 : n ≤ c := by omega
  have hn3 : n ≤ 300 := by omega
  obtain ⟨ys, hys⟩ : ∃ ys, xs.take n = ys := ⟨_, rfl⟩
  have hr2 := hr.take (k := n) (by omega)
  rw [Nat.mul_one, ← List.map_take, hys] at hr2
  have hyl : ys.length = n := by simpa using hr2.1
  obtain ⟨NN, hNN⟩ : ∃ NN, 9 + n = NN := ⟨_, rfl⟩
  obtain ⟨MM, hMM⟩ : ∃ MM, 8 + n = MM := ⟨_, rfl⟩
  have wN : IntKind.i64.wrap ((NN : Int) - 1) = (MM : Int) := by rw [IntKind.wrap_i64]; omega
  have hMN : MM ≤ NN := by omega
  have hN1 : NN - MM = 1 := by omega
  obtain ⟨b, hb⟩ : ∃ b, headB n k fl s ++ ys = b := ⟨_, rfl⟩
  have hbl : b.length = NN := by rw [← hb, List.length_append, headB_len, hyl, hNN]
  have hT1 := told_cut 16384 n k fl s ys hyl (by omega) (by omega) (by omega) hfl hs31
  have hT2 := told_one 16384 n k fl s ys hyl (by omega) (by omega) (by omega) hfl hs31
  rw [hb, hMM] at hT1
  rw [hb, settle_nil] at hT2
  obtain ⟨f, ⟨bb, cc, zz⟩, hpar⟩ : ∃ f x, parseP k fl s ys = (f, x) := ⟨_, _, rfl⟩
  rw [hpar] at hT2
  have hF1 : feedN 16384 ⟨[], false⟩ MM = MM := by show min MM (16384 + 9 - 0) = MM; omega
  have hP1 : feedP 16384 ⟨[], false⟩ (b.take MM) = ⟨b.take MM, false⟩ := by
    unfold feedP
    have : (b.take MM).length = MM := by rw [List.length_take]; omega
    rw [this, hF1, List.nil_append, List.take_take, Nat.min_self]
  have hF2 : feedN 16384 ⟨b.take MM, false⟩ 1 = 1 := by
    have : (b.take MM).length = MM := by rw [List.length_take]; omega
    show min 1 (16384 + 9 - (b.take MM).length) = 1
    rw [this]; omega
  have hP2 : feedP 16384 ⟨b.take MM, false⟩ (b.drop MM) = ⟨b, false⟩ := by
    unfold feedP
    have : (b.drop MM).length = 1 := by rw [List.length_drop]; omega
    have e : (b.drop MM).take 1 = b.drop MM := List.take_of_length_le (by omega)
    rw [this, hF2]
    show (⟨b.take MM ++ (b.drop MM).take 1, false⟩ : Pst) = _
    rw [e, List.take_append_drop]
  have hkind : stray k (s : Int) = true ∧ bb = true ∧ cc = 1 ∧ zz = 0 ∨ stray k (s : Int) = false ∧ (bb = false ∨ zz = 0 ∨ (zz = (s : Int) ∧ (k = 2 ∨ k = 8))) := by
    cases h : stray k (s : Int) with
    | true =>
      left
      unfold parseP at hpar
      rw [h] at hpar
      cases hpar
      exact ⟨rfl, rfl, rfl, rfl⟩
    | false =>
      right
      have := fault_kind k fl s ys h
      rw [hpar] at this
      exact ⟨rfl, this⟩
  have HG := Lib.hid hG
  have HR2 := Lib.hid hr2
  have HB := Lib.hid hb
  have HBL := Lib.hid hbl
  have HT1 : Hid (nextP 16384 ⟨b.take MM, false⟩ = (⟨zeroF, ⟨false, 0, 0⟩, false⟩, ⟨b.take MM, false⟩)) := hT1
  have HT2 : Hid (nextP 16384 ⟨b, false⟩ = (⟨f, ⟨bb, cc, zz⟩, true⟩, ⟨[], bb && zz == 0⟩)) := hT2
  have HF1 := Lib.hid hF1
  have HP1 := Lib.hid hP1
  have HF2 := Lib.hid hF2
  have HP2 := Lib.hid hP2
  have HK := Lib.hid hkind
  have HYS := Lib.hid hys
  have HYL := Lib.hid hyl
  clear hG hr hr2 hb hbl hT1 hT2 hF1 hP1 hF2 hP2 hkind hpar hys hyl hk16 hk hs hn
  go_enter Tryd.func9, Tryd.ntmps9
  go_upto_region 13 with (first
    | (go_at_call 12; (with_reducible refine (shown_c HG.out).mono ?_); rintro e w1 ⟨rfl, hb1⟩
       have HB1 := Lib.hid hb1
       have HG1 := Lib.hid (HG.out.below HB1.out)
       clear hb1)
    | (go_at_call 17; (with_reducible refine (new_c 0 (by omega)).mono ?_); rintro e w3 ⟨p, rfl, s3⟩
       have s3' : St (fun _ => False) w1 w3 [PFo p 16384 ⟨[], false⟩] := s3
       have S3 := Lib.hid s3'
       clear s3 s3')
    | (go_at_call 28; (with_reducible refine (head9_c n k fl s (by omega) (by omega) hfl hs31 _).mono ?_); rintro e w4 ⟨g4, rfl, o4, b4⟩
       have S4 := Lib.hid (S3.out.add (St.made_own o4 b4))
       have R4 : Hid (Rd w4 1 A n (ys.map BV)) := HR2.out.below (HB1.out.trans (S4.out.below.mono HB1.out.size))
       have Z4 : Hid (w3.heap.size ≤ w4.heap.size) := b4.size
       clear o4 b4)
    | (at_builtin
       refine wpList_append_rd rfl (.tmp 40) (.tmp 41) 22 rfl EB (base := w3.heap.size) (.slice (some ⟨g4, 0, none⟩) 9 9) 9 ((headB n k fl s).map BV) rfl S4.out.own1 A n c (ys.map BV) rfl R4.out (BV_one _) (by omega) (by unfold maxLen; omega) Z4.out ?_
       intro A5 c5 w5 ho5 hf5 h25
       rw [← List.map_append, HB.out] at ho5
       rw [hNN] at ho5 h25 ⊢
       have S5 := Lib.hid (S4.out.appended1 ho5 hf5 h25)
       obtain ⟨A5', c5', he5, hq1, hq2, _, hq3⟩ := own_shape ho5
       simp only [Value.slice.injEq, true_and] at he5
       obtain ⟨rfl, rfl⟩ := he5
       have hrd := Rd.of_own ho5
       have hr1 := hrd.take (k := MM) hMN
       rw [Nat.mul_one, ← List.map_take] at hr1
       have R5 := Lib.hid hr1
       have V5 : Hid (∀ a, A5 = some a → (Value.slice A5 NN c5).ownBlock = some a.block) := by rintro a rfl; rfl
       have Q3 := Lib.hid hq3
       have hMc : MM ≤ c5 := by omega
       have hNc : NN ≤ c5 := hq1
       have hc5 : c5 ≤ 9223372036854775807 := by unfold maxLen at hq2; omega
       have hcm : ¬ c5 = MM := by omega
       obtain ⟨Ah, hif⟩ : ∃ Ah, Option.map (fun x => x.add MM) A5 = Ah := ⟨_, rfl⟩
       have V6 : Hid (∀ a, Ah = some a → (Value.slice A5 NN c5).ownBlock = some a.block) := by
         rintro a rfl
         rcases A5 with _ | x
         · simp at hif
         · obtain ⟨q1, q2⟩ := hq3 x rfl
           obtain ⟨xb, xo, xs⟩ := x
           simp only at q1 q2
           subst q1 q2
           simp only [Option.map_some, Option.some.injEq] at hif
           rw [← hif, add_plain]
           rfl
       clear ho5 hf5 h25 hrd hr1 hq1 hq2 hq3)
    | (go_at_call 23; (with_reducible refine (feed_own_n S5.out (List.mem_cons_self ..) V5.out R5.out hMc hc5 MM HF1.out _ HP1.out).mono ?_); rintro e w6 ⟨rfl, s6⟩
       have S6 := Lib.hid s6
       clear s6)
    | (go_at_call 21; (with_reducible refine (shN false 0 0 false S6.out HG1.out HT1.out).mono ?_); rintro e w7 ⟨a7, b7, x7, y7, rfl, s7⟩
       have S7 := Lib.hid (shB s7 (.cells #[.int .i64 0, .int .i64 0, .bool false, .bool false, .bool false, .bool false, .slice a7 0 b7, .int .i64 0, .int .i64 0, .int .i64 0, .bool false, .int .i64 0, .int .u32 0, .slice x7 0 y7, .int .i64 0, .int .i64 0] 27) 46 [.bool false, .int .u32 0, .int .i64 0])
       have hrd := (Rd.of_own S7.out.own1).drop (k := MM) (cap := c5) hMN hNc
       rw [Nat.mul_one, ← List.map_drop, if_neg hcm, hif, hN1] at hrd
       have R7 := Lib.hid hrd
       clear s7 hrd)
    | (go_at_call 23; (with_reducible refine (feed_own_n S7.out (List.mem_cons_self ..) V6.out R7.out (by omega) (by omega) 1 HF2.out _ HP2.out).mono ?_); rintro e w8 ⟨rfl, s8⟩
       have S8 := Lib.hid s8
       clear s8)
    | (go_at_call 21; (with_reducible refine (next_n S8.out HG1.out HT2.out).mono ?_); rintro e w9 ⟨pv9, lv9, rfl, o9, s9, z9⟩
       obtain ⟨Af, cf, Bf, df, rfl, rfl, _, _⟩ := o9
       have S9 := Lib.hid s9
       clear s9))
  have S10 := Lib.hid (shB S9.out (.cells #[.int .i64 f.kind, .int .i64 f.stream, .bool f.fin, .bool f.eh, .bool f.ack, .bool f.prio, .slice Af f.pay.length cf, .int .i64 f.flags, .int .i64 f.pad, .int .i64 f.depend, .bool f.excl, .int .i64 f.weight, .int .u32 (f.code : Int), .slice Bf f.list.length df, .int .i64 f.last, .int .i64 f.inc] 27) 46 [.bool bb, .int .u32 (cc : Int), .int .i64 zz])
  have X10 := Lib.hid S10.out.blk3
  have HB10 := Lib.hid (HB1.out.trans (S10.out.below.mono HB1.out.size))
  generalize World.alloc (World.alloc w9 _) _ = WW at S10 X10 HB10 ⊢
  have c0 := X10.out.cell 0
  have c1 := X10.out.cell 1
  have c2 := X10.out.cell 2
  have lx := X10.out.lt
  simp only [List.getElem?_cons_zero, List.getElem?_cons_succ] at c0 c1 c2
  clear S3 S4 R4 Z4 S5 R5 V5 Q3 V6 S6 S7 R7 S8 S9 HG HG1 HR2 HB HBL HT1 HT2 HF1 HP1 HF2 HP2 HYS HYL a1 a2 a3 a4 hm1 hm2 hm3 hm4 hif hNN hMM wN hMN hN1 z9
  have hk := HK.out
  clear HK
  have key : k = 0 ∨ k = 1 ∨ k = 2 ∨ k = 3 ∨ k = 4 ∨ k = 5 ∨ k = 6 ∨ k = 7 ∨ k = 8 ∨ k = 9 := by omega
  rcases hk with ⟨hst, rfl, rfl, rfl⟩ | ⟨hst, hx⟩
  · by_cases hs0 : s = 0
    · subst hs0
      rcases key with rfl | rfl | rfl | rfl | rfl | rfl | rfl | rfl | rfl | rfl
      all_goals first
        | (exact absurd hst (by decide))
        | (go_wp2_with (first
            | (go_at_call 25; (with_reducible refine (shS S10.out).mono ?_); rintro e w8 ⟨rfl, rfl⟩))
           go_ret
           exact ⟨rfl, HB10.out⟩)
    · have e0 : ((s : Int) == 0) = false := by simpa using hs0
      rcases key with rfl | rfl | rfl | rfl | rfl | rfl | rfl | rfl | rfl | rfl
      all_goals first
        | (exfalso; simp [stray, onS, onC, hs0] at hst; done)
        | (go_wp2_with (first
            | (go_at_call 25; (with_reducible refine (shS S10.out).mono ?_); rintro e w8 ⟨rfl, rfl⟩))
           go_ret
           exact ⟨rfl, HB10.out⟩)
  · have hx3 : bb = false ∨ (bb = true ∧ zz = 0) ∨ (bb = true ∧ (zz == 0) = false ∧ (zz == (s : Int)) = true ∧ (k = 2 ∨ k = 8)) := by
      cases bb with
      | false => exact .inl rfl
      | true =>
        right
        by_cases hz : zz = 0
        · exact .inl ⟨rfl, hz⟩
        · rcases hx with h | h | ⟨h1, h2⟩
          · cases h
          · exact absurd h hz
          · exact .inr ⟨rfl, by simpa using hz, by simpa using h1, h2⟩
    have hns : ¬ ((k ≤ 3 ∨ k = 5 ∨ k = 9) ∧ s = 0) ∧ ¬ ((k = 4 ∨ k = 6 ∨ k = 7) ∧ s ≠ 0) := by
      refine ⟨fun ⟨h1, h2⟩ => ?_, fun ⟨h1, h2⟩ => ?_⟩
      · subst h2
        rcases key with rfl | rfl | rfl | rfl | rfl | rfl | rfl | rfl | rfl | rfl <;> first | (exact absurd hst (by decide)) | omega
      · rcases key with rfl | rfl | rfl | rfl | rfl | rfl | rfl | rfl | rfl | rfl <;> first | (exfalso; simp [stray, onS, onC, h2] at hst; done) | omega
    clear hx hst
    rcases hx3 with rfl | ⟨rfl, rfl⟩ | ⟨rfl, hz0, hzs, hk28⟩
    · by_cases hs0 : s = 0
      · subst hs0
        rcases key with rfl | rfl | rfl | rfl | rfl | rfl | rfl | rfl | rfl | rfl
        all_goals first
          | (exfalso; omega)
          | (clear hns; go_wp2; go_ret; exact ⟨rfl, HB10.out⟩)
      · have e0 : ((s : Int) == 0) = false := by simpa using hs0
        rcases key with rfl | rfl | rfl | rfl | rfl | rfl | rfl | rfl | rfl | rfl
        all_goals first
          | (exfalso; omega)
          | (clear hns; go_wp2; go_ret; exact ⟨rfl, HB10.out⟩)
    · by_cases hs0 : s = 0
      · subst hs0
        rcases key with rfl | rfl | rfl | rfl | rfl | rfl | rfl | rfl | rfl | rfl
        all_goals first
          | (exfalso; omega)
          | (clear hns; go_wp2; go_ret; exact ⟨rfl, HB10.out⟩)
      · have e0 : ((s : Int) == 0) = false := by simpa using hs0
        rcases key with rfl | rfl | rfl | rfl | rfl | rfl | rfl | rfl | rfl | rfl
        all_goals first
          | (exfalso; omega)
          | (clear hns; go_wp2; go_ret; exact ⟨rfl, HB10.out⟩)
    · by_cases hs0 : s = 0
      · subst hs0
        exfalso
        simp only [beq_eq_false_iff_ne, beq_iff_eq] at hz0 hzs
        exact hz0 hzs
      · have e0 : ((s : Int) == 0) = false := by simpa using hs0
        rcases hk28 with rfl | rfl
        all_goals
          clear hns key
          go_wp2
          go_ret
          exact ⟨rfl, HB10.out⟩
theorem lawStreams' {w : World} (z1 : Int) (hz1 : -9223372036854775808 ≤ z1 ∧ z1 ≤ 9223372036854775807) {fz : Int} (hfz : (Lit.int .u8 fz).wf = true) (z2 : Int) (hz2 : -9223372036854775808 ≤ z2 ∧ z2 ≤ 9223372036854775807)
    {A : Option Addr} {nb c : Nat} {xs : List UInt8} (hr : Rd w 1 A nb (xs.map BV)) (hnc : nb ≤ c) (hc : c ≤ 140737488351232) (hG : Gl w) :
    Calls Tryd.prog 9 #[.int .i64 z1, .int .u8 fz, .int .i64 z2, .slice A nb c] w fun e w' => e = .returned (.bool true) ∧ Below w.heap.size w w' := lawStreams z1 hz1 fz (u8_of hfz) z2 hz2 hr hnc hc hG
end Go.Proofs.YtokbdkbljgdcpaaDoor
