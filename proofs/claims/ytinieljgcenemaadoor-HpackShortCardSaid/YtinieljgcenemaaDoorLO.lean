/- HpackShort, the walk: whatever the field, true. -/
import Derived.Test.YtinieljgcenemaaDoorG8
import Derived.StillTailTactics
namespace Go.Proofs.YtinieljgcenemaaDoor
open Go.RowKit Go.Own Go.Tbl Go.Huf Go.Hin
set_option linter.unusedVariables false
set_option maxRecDepth 100000
attribute [local go_sem ↓] Go.wp_at_zero Go.wp_at_succ

theorem blockE_one {h : Nat} {l l' : List Fld} {f : Fld} {L : List UInt8} (ho : oneE statL h l f = (L, l')) : blockE statL h l none [f] = (L, h, l') := by
  rw [blockE, updsE]
  dsimp only
  rw [manyE, ho]
  simp [manyE]
theorem ba_ne {a b : ByteArray} (h : a ≠ b) : (a.toList == b.toList) = false := by
  cases e : (a.toList == b.toList) with
  | false => rfl
  | true => exact absurd (ba_eq e) h
theorem dr_cell {w : World} {a : Addr} {v : Value} (h : w.cell? a = some v) : w.drew.cell? a = some v := h
/-- a flag that tells -/
def Flag (b : Bool) (P : Prop) : Prop := b = true ↔ P
/-- what is written first, and then -/
theorem short3 {h : Nat} {f : Fld} (hh : h ≤ 65536) (hnv : f.nv = false) : ∃ L1 l1 L2 l2, oneE statL h [] f = (L1, l1) ∧ oneE statL h l1 f = (L2, l2) ∧
    ((f ∈ statL ∧ L1.length = 1 ∧ L1 = L2 ∧ szs l2 = 0) ∨ (¬ f ∈ statL ∧ h < sz f ∧ L1 = L2 ∧ 1 < L1.length ∧ szs l2 = 0) ∨ (¬ f ∈ statL ∧ ¬ h < sz f ∧ L2 = [190] ∧ 1 < L1.length ∧ szs l2 = sz f)) := by
  by_cases hm : f ∈ statL
  · obtain ⟨i, _, _, e⟩ := short_static (h := h) statL_nv (by rw [statL_length]; omega) hnv hm []
    exact ⟨_, _, _, _, e, e, .inl ⟨hm, rfl, rfl, rfl⟩⟩
  · by_cases hs : h < sz f
    · obtain ⟨L, h2, e⟩ := short_none statL_nv hnv hm hs
      exact ⟨_, _, _, _, e, e, .inr (.inl ⟨hm, hs, rfl, h2, rfl⟩)⟩
    · obtain ⟨⟨L, h2, e⟩, e2⟩ := short_add statL_nv statL_length hnv hm (by omega : sz f ≤ h)
      exact ⟨_, _, _, _, e, e2, .inr (.inr ⟨hm, hs, rfl, h2, by simp [szs]⟩)⟩
set_option maxHeartbeats 16000000 in
theorem lawShort {w : World} (m : Int) (hm : i64 m) (f : Fld) (hf : fok f) (hC : Cnt w) :
    Calls Tryd.prog 11 #[.int .i64 m, .agg #[.string f.n, .string f.v, .bool f.nv]] w fun e w' => e = .returned (.bool true) ∧ Below w.heap.size w w' := by
  obtain ⟨h, hh⟩ : ∃ h, clampI m = h := ⟨_, rfl⟩
  have hh2 : h ≤ 65536 := hh ▸ clampI_le m
  have hOk := ok_new h hh2
  obtain ⟨fn, fv, fnv⟩ := f
  obtain ⟨hf1, hf2⟩ := hf
  obtain ⟨a, ha⟩ : ∃ a, fn.size = a := ⟨_, rfl⟩
  obtain ⟨b, hb⟩ : ∃ b, fv.size = b := ⟨_, rfl⟩
  simp only at hf1 hf2
  rw [ha] at hf1
  rw [hb] at hf2
  obtain ⟨ma, hma⟩ : ∃ ma, min a 70000 = ma := ⟨_, rfl⟩
  obtain ⟨mb, hmb⟩ : ∃ mb, min b 70000 = mb := ⟨_, rfl⟩
  have ema : (if (70000 : Int) < (a : Int) then (70000 : Int) else (a : Int)) = (ma : Int) := by split <;> omega
  have emb : (if (70000 : Int) < (b : Int) then (70000 : Int) else (b : Int)) = (mb : Int) := by split <;> omega
  have la : ma ≤ a := by omega
  have lb : mb ≤ b := by omega
  obtain ⟨x, hx⟩ : ∃ x, fn.extract 0 ma = x := ⟨_, rfl⟩
  obtain ⟨y, hy⟩ : ∃ y, fv.extract 0 mb = y := ⟨_, rfl⟩
  have sx : x.size ≤ 70000 := by rw [← hx, ByteArray.size_extract]; omega
  have sy : y.size ≤ 70000 := by rw [← hy, ByteArray.size_extract]; omega
  obtain ⟨L1, l1, L2, l2, o1, o2, hcs⟩ := short3 (f := ⟨x, y, false⟩) hh2 rfl
  have hOk1 : Ok statL h l1 := by have := hOk.one ⟨x, y, false⟩; rw [o1] at this; exact this
  have e1 := blockE_one o1
  have e2 := blockE_one o2
  obtain ⟨N1, hN1⟩ : ∃ N, L1.length = N := ⟨_, rfl⟩
  obtain ⟨N2, hN2⟩ : ∃ N, L2.length = N := ⟨_, rfl⟩
  obtain ⟨M, hM⟩ : ∃ M, x.size + y.size + 32 = M := ⟨_, rfl⟩
  have hsz : sz ⟨x, y, false⟩ = M := hM
  have b1 : N1 ≤ 1048576 := by
    have h1 := oneE_len hOk (f := ⟨x, y, false⟩) (by show x.size ≤ _; omega) (by show y.size ≤ _; omega)
    rw [o1] at h1
    have h2 : L1.length ≤ 18 + x.size + y.size := h1
    omega
  have b2 : N2 ≤ 1048576 := by
    have h1 := oneE_len hOk1 (f := ⟨x, y, false⟩) (by show x.size ≤ _; omega) (by show y.size ≤ _; omega)
    rw [o2] at h1
    have h2 : L2.length ≤ 18 + x.size + y.size := h1
    omega
  obtain ⟨T1, hT1⟩ : ∃ T, ofB L1 = T := ⟨_, rfl⟩
  obtain ⟨T2, hT2⟩ : ∃ T, ofB L2 = T := ⟨_, rfl⟩
  obtain ⟨z, hz⟩ : ∃ z, szs l2 = z := ⟨_, rfl⟩
  have hcs : (⟨x, y, false⟩ ∈ statL ∧ N1 = 1 ∧ T1 = T2 ∧ z = 0) ∨ (¬ ⟨x, y, false⟩ ∈ statL ∧ h < M ∧ T1 = T2 ∧ 1 < N1 ∧ z = 0) ∨ (¬ ⟨x, y, false⟩ ∈ statL ∧ ¬ h < M ∧ T2 = ⟨#[190]⟩ ∧ 1 < N1 ∧ z = M) := by
    rw [hN1, hz, hsz] at hcs
    rcases hcs with ⟨a1, a2, a3, a4⟩ | ⟨a1, a2, a3, a4, a5⟩ | ⟨a1, a2, a3, a4, a5⟩
    · exact .inl ⟨a1, a2, by rw [← hT1, ← hT2, a3], a4⟩
    · exact .inr (.inl ⟨a1, a2, by rw [← hT1, ← hT2, a3], a4, a5⟩)
    · exact .inr (.inr ⟨a1, a2, by rw [← hT2, a3]; rfl, a4, a5⟩)
  have hbig : ∀ g ∈ [(⟨x, y, false⟩ : Fld)], g.n.size ≤ 16777216 ∧ g.v.size ≤ 16777216 := fun g hg => by
    rw [List.mem_singleton.1 hg]
    exact ⟨by show x.size ≤ _; omega, by show y.size ≤ _; omega⟩
  have Hbig := Lib.hid hbig
  have E1 := Lib.hid e1
  have E2 := Lib.hid e2
  have HN1 := Lib.hid hN1
  have HN2 := Lib.hid hN2
  have HT1 := Lib.hid hT1
  have HT2 := Lib.hid hT2
  have HZ := Lib.hid hz
  have HM := Lib.hid hM
  have Hcs := Lib.hid hcs
  clear hbig e1 e2 hN1 hN2 hT1 hT2 hz hM hcs o1 o2 hOk1 hsz
  have HC := Lib.hid hC
  have Hm := Lib.hid hm
  have Hh := Lib.hid hh
  have HOk := Lib.hid hOk
  clear hC hm hh hOk hma hmb
  go_enter Tryd.func11, Tryd.ntmps11
  go_wp2_with (first
    | (go_at_call 12; (with_reducible refine (shown5 _ (cnt_st HC.out (St.alloc (St.nil NoS w) _))).mono ?_); rintro e w1 ⟨rfl, hb1⟩
       have S1 : Hid (St NoS w w1 [BLo w.heap.size 38 [.string fn, .string fv, .bool fnv]]) := ((St.nil NoS w).block 38 [.string fn, .string fv, .bool fnv]).next hb1
       clear hb1)
    | (go_at_call 13; (with_reducible refine (lNewE S1.out m Hm.out h Hh.out).mono ?_); rintro e w2 ⟨p, rfl, s2⟩
       have S2 : Hid (St NoS w w2 [BLo w.heap.size 38 [.string fn, .string fv, .bool fnv], PEo p h [] none]) := s2
       have X2 := S2.out.blk0
       have z0 := X2.cell 0
       have z1 := X2.cell 1
       have z2 := X2.cell 2
       have zf := X2.frozen
       simp only [List.getElem?_cons_zero, List.getElem?_cons_succ] at z0 z1 z2
       have S3 : Hid (St NoS w ((((w2.setCell ⟨w.heap.size, 2, none⟩ (.bool false)).setCell ⟨w.heap.size, 0, none⟩ (.string x)).setCell ⟨w.heap.size, 1, none⟩ (.string y)).alloc (.cells #[.string x, .string y, .bool false] 38)) [BLo w.heap.size 38 [.string x, .string y, .bool false], PEo p h [] none, FSo w.heap.size (some ⟨w2.heap.size, 0, none⟩) 1 1 [⟨x, y, false⟩]]) := by
         have q := st_fld (((s2.set0 2 (.bool false)).set0 0 (.string x)).set0 1 (.string y)) x y false
         have e : (((w2.setCell ⟨w.heap.size, 2, none⟩ (.bool false)).setCell ⟨w.heap.size, 0, none⟩ (.string x)).setCell ⟨w.heap.size, 1, none⟩ (.string y)).heap.size = w2.heap.size := by simp [World.setCell]
         rw [e] at q
         exact q
       clear s2 X2)
    | (go_at_call 18; (with_reducible refine (lEncode1 (n0 := 1) S5.out HC.out (List.Mem.tail _ (List.Mem.tail _ (List.Mem.head _))) rfl (by omega) Hbig.out L2 h l2 E2.out N2 HN2.out (by omega)).mono ?_); rintro e w6 ⟨A6, c6, rfl, s6⟩
       have S6 : Hid (St NoS w w6 [BLo w.heap.size 38 [.string x, .string y, .bool false], PEo p h l2 none, BSo w.heap.size A4 c4 N1 L1, BSo w.heap.size A6 c6 N2 L2]) := s6.drop3
       clear s6)
    | (go_at_call 18; (with_reducible refine (lEncode1 (n0 := 1) S3.out HC.out (List.Mem.tail _ (List.Mem.head _)) rfl (by omega) Hbig.out L1 h l1 E1.out N1 HN1.out (by omega)).mono ?_); rintro e w4 ⟨A4, c4, rfl, s4⟩
       have S4 : Hid (St NoS w w4 [BLo w.heap.size 38 [.string x, .string y, .bool false], PEo p h l1 none, BSo w.heap.size A4 c4 N1 L1]) := s4.drop2
       have X4 := S4.out.blk0
       have u0 := X4.cell 0
       have u1 := X4.cell 1
       have u2 := X4.cell 2
       simp only [List.getElem?_cons_zero, List.getElem?_cons_succ] at u0 u1 u2
       have S5 : Hid (St NoS w (w4.alloc (.cells #[.string x, .string y, .bool false] 38)) [BLo w.heap.size 38 [.string x, .string y, .bool false], PEo p h l1 none, BSo w.heap.size A4 c4 N1 L1, FSo w.heap.size (some ⟨w4.heap.size, 0, none⟩) 1 1 [⟨x, y, false⟩]]) := st_fld S4.out x y false
       clear s4 X4 z0 z1 z2 zf)
    | (go_at_call 34; (with_reducible refine (rStatics_w _).mono ?_); rintro e w7 ⟨g, rfl, ho7, hg7, b7⟩
       have S7 : Hid (St NoS w w7 [BLo w.heap.size 38 [.string x, .string y, .bool false], PEo p h l2 none, BSo w.heap.size A4 c4 N1 L1, BSo w.heap.size A6 c6 N2 L2, FSo w.heap.size (some ⟨g, 0, none⟩) 61 61 statL]) := (S6.out.add (St.made_own ho7 b7)).floor4 S6.out.size
       clear ho7 hg7 b7 u0 u1 u2))
  go_loopg [11, 9] 61 (fun gh i u w' => ∃ (k : Nat) (β : Bool), gh + k = 61 ∧ i = .int .i64 (k : Int) ∧ u = .bool β ∧ Flag β ((⟨x, y, false⟩ : Fld) ∈ statL.take k) ∧ St NoS w w' [BLo w.heap.size 38 [.string x, .string y, .bool false], PEo p h l2 none, BSo w.heap.size A4 c4 N1 L1, BSo w.heap.size A6 c6 N2 L2, FSo w.heap.size (some ⟨g, 0, none⟩) 61 61 statL])
  case atStart => exact ⟨0, false, by omega, rfl, rfl, ⟨fun h => (by cases h), fun h => (by simp at h)⟩, S7.out⟩
  case round =>
    obtain ⟨k, β, hk, rfl, rfl, hβ, s⟩ := hrel
    have X8 := s.blk0
    have u0 := X8.cell 0
    have u1 := X8.cell 1
    have u2 := X8.cell 2
    simp only [List.getElem?_cons_zero, List.getElem?_cons_succ] at u0 u1 u2
    cases gk with
    | succ g1 =>
      have hk61 : k < 61 := by omega
      obtain ⟨gf, hgf⟩ : ∃ gf, statL[k]? = some gf := ⟨_, List.getElem?_eq_getElem (by rw [statL_length]; exact hk61)⟩
      have hgnv : gf.nv = false := statL_nv gf (List.mem_of_getElem? hgf)
      have htk : statL.take (k + 1) = statL.take k ++ [gf] := by rw [List.take_add_one, hgf]; rfl
      obtain ⟨bb, oo, hA, d0, d1, d2⟩ := rd_fld (Rd.of_own s.own4) hgf
      cases hA
      rw [hgnv] at d2
      simp only [Nat.zero_add] at d0 d1 d2
      have k1 : (k : Int) < 61 := by omega
      have S8 := Lib.hid s
      have Hβ := Lib.hid hβ
      have Htk := Lib.hid htk
      clear s hβ hgf htk X8
      cases β with
      | true =>
        have hb2 : Hid (Flag true ((⟨x, y, false⟩ : Fld) ∈ statL.take (k + 1))) := by
          rw [Htk.out]
          exact ⟨fun _ => List.mem_append_left _ ((Iff.mp Hβ.out rfl)), fun _ => rfl⟩
        go_wp2
        go_quiet (fail)
        have S9 := Lib.hid (S8.out.drewN nq)
        clear S8 u0 u1 u2 d0 d1 d2
        try simp only [Exit.then]
        go_wp2
        go_roundg g1
        case measure => omega
        case rel => exact ⟨k + 1, _, by omega, by go_num, rfl, hb2.out, S9.out⟩
      | false =>
        have hno : ¬ (⟨x, y, false⟩ : Fld) ∈ statL.take k := fun hm => by have := Iff.mpr Hβ.out hm; cases this
        by_cases hn : gf.n = x
        · by_cases hv : gf.v = y
          · have hb2 : Hid (Flag true ((⟨x, y, false⟩ : Fld) ∈ statL.take (k + 1))) := by
              rw [Htk.out]
              refine ⟨fun _ => List.mem_append_right _ (List.mem_singleton.2 ?_), fun _ => rfl⟩
              rw [← hn, ← hv, ← hgnv]
            rw [hn] at d0
            rw [hv] at d1
            clear hn hv hgnv hno
            go_wp2
            go_quiet (fail)
            have S9 := Lib.hid (S8.out.drewN nq)
            clear S8 u0 u1 u2 d0 d1 d2
            try simp only [Exit.then]
            go_wp2
            go_roundg g1
            case measure => omega
            case rel => exact ⟨k + 1, _, by omega, by go_num, rfl, hb2.out, S9.out⟩
          · have hb2 : Hid (Flag false ((⟨x, y, false⟩ : Fld) ∈ statL.take (k + 1))) := by
              rw [Htk.out]
              refine ⟨fun h => (by cases h), fun hm => ?_⟩
              rcases List.mem_append.1 hm with hm | hm
              · exact absurd hm hno
              · rw [← List.mem_singleton.1 hm] at hv
                exact absurd rfl hv
            have kv := ba_ne hv
            rw [hn] at d0
            clear hn hv hgnv hno
            go_wp2
            go_quiet (fail)
            have S9 := Lib.hid (S8.out.drewN nq)
            clear S8 u0 u1 u2 d0 d1 d2
            try simp only [Exit.then]
            go_wp2
            go_roundg g1
            case measure => omega
            case rel => exact ⟨k + 1, _, by omega, by go_num, rfl, hb2.out, S9.out⟩
        · have hb2 : Hid (Flag false ((⟨x, y, false⟩ : Fld) ∈ statL.take (k + 1))) := by
            rw [Htk.out]
            refine ⟨fun h => (by cases h), fun hm => ?_⟩
            rcases List.mem_append.1 hm with hm | hm
            · exact absurd hm hno
            · rw [← List.mem_singleton.1 hm] at hn
              exact absurd rfl hn
          have kn := ba_ne hn
          clear hn hgnv hno
          go_wp2
          go_quiet (fail)
          have S9 := Lib.hid (S8.out.drewN nq)
          clear S8 u0 u1 u2 d0 d1 d2
          try simp only [Exit.then]
          go_wp2
          go_roundg g1
          case measure => omega
          case rel => exact ⟨k + 1, _, by omega, by go_num, rfl, hb2.out, S9.out⟩
    | zero =>
      obtain rfl : k = 61 := by omega
      have hst : statL.take 61 = statL := by rw [← statL_length, List.take_length]
      rw [hst] at hβ
      have hMb : M ≤ 140032 := by have := HM.out; omega
      have S8 := Lib.hid s
      clear s hst X8
      rcases Hcs.out with ⟨hm, hn1, ht, hz0⟩ | ⟨hm, hs, ht, hn1, hz0⟩ | ⟨hm, hs, ht, hn1, hz0⟩
      · obtain rfl : β = true := Iff.mpr hβ hm
        subst hn1 ht hz0
        have q1 := cv5 (w0 := w) S8.out.own2 _ HT1.out
        have q2 := cv5 (w0 := w) S8.out.own3 _ HT2.out
        clear hβ hm
        go_wp2_with (first
          | (go_at_call 21; (with_reducible refine (lSizeE1 S8.out 0 HZ.out).mono ?_); rintro e wc ⟨rfl, rfl⟩))
        go_ret
        exact ⟨rfl, S8.out.below⟩
      · have hβf : β = false := by
          cases β with
          | false => rfl
          | true => exact absurd (Iff.mp hβ rfl) hm
        subst hβf ht hz0
        have ks : (h : Int) < (M : Int) := by omega
        have kn : (1 : Int) < (N1 : Int) := by omega
        have S8d : Hid (St NoS w wr.drew _) := S8.out.drew
        have v0 : wr.drew.cell? ⟨w.heap.size, 0, none⟩ = some (.string x) := u0
        have v1 : wr.drew.cell? ⟨w.heap.size, 1, none⟩ = some (.string y) := u1
        have v2 : wr.drew.cell? ⟨w.heap.size, 2, none⟩ = some (.bool false) := u2
        clear hβ hm hs hn1
        go_wp2
        go_region_with (first
          | (go_at_call 33; (with_reducible refine (rFSize_c x y false (by omega) (by omega) M HM.out _).mono ?_); rintro e w8 ⟨rfl, hb⟩
             have S9 := Lib.hid (S8d.out.next hb)
             clear hb)
          | (go_at_call 23; (with_reducible refine (lMaxE1 S9.out).mono ?_); rintro e wd ⟨rfl, rfl⟩)
          | (go_at_call 23; (with_reducible refine (lMaxE1 S8d.out).mono ?_); rintro e wd ⟨rfl, rfl⟩))
        all_goals
          clear u0 u1 u2 v0 v1 v2
          have q1 := cv5 (w0 := w) S9.out.own2 _ HT1.out
          have q2 := cv5 (w0 := w) S9.out.own3 _ HT2.out
          go_wp2_with (first
            | (go_at_call 21; (with_reducible refine (lSizeE1 S9.out 0 HZ.out).mono ?_); rintro e wc ⟨rfl, rfl⟩))
          go_ret
          exact ⟨rfl, S9.out.below⟩
      · have hβf : β = false := by
          cases β with
          | false => rfl
          | true => exact absurd (Iff.mp hβ rfl) hm
        subst hβf ht hz0
        have ks : ¬ (h : Int) < (z : Int) := by omega
        have kn : (1 : Int) < (N1 : Int) := by omega
        have S8d : Hid (St NoS w wr.drew _) := S8.out.drew
        have v0 : wr.drew.cell? ⟨w.heap.size, 0, none⟩ = some (.string x) := u0
        have v1 : wr.drew.cell? ⟨w.heap.size, 1, none⟩ = some (.string y) := u1
        have v2 : wr.drew.cell? ⟨w.heap.size, 2, none⟩ = some (.bool false) := u2
        clear hβ hm hs hn1
        go_wp2
        go_region_with (first
          | (go_at_call 33; (with_reducible refine (rFSize_c x y false (by omega) (by omega) z HM.out _).mono ?_); rintro e w8 ⟨rfl, hb⟩
             have S9 := Lib.hid (S8d.out.next hb)
             clear hb)
          | (go_at_call 23; (with_reducible refine (lMaxE1 S9.out).mono ?_); rintro e wd ⟨rfl, rfl⟩)
          | (go_at_call 23; (with_reducible refine (lMaxE1 S8d.out).mono ?_); rintro e wd ⟨rfl, rfl⟩))
        all_goals
          clear u0 u1 u2 v0 v1 v2
          have X9 := S9.out.blk0
          have u0 := X9.cell 0
          have u1 := X9.cell 1
          have u2 := X9.cell 2
          simp only [List.getElem?_cons_zero, List.getElem?_cons_succ] at u0 u1 u2
          have v0 := dr_cell u0
          have v1 := dr_cell u1
          have v2 := dr_cell u2
          have S9d := Lib.hid S9.out.drew
          have q1 := cv5 (w0 := w) S9.out.own3 _ HT2.out
          have q2 := cv5 (w0 := w) S9d.out.own3 _ HT2.out
          clear X9
          go_wp2
          go_still_tail 17, (by kernel_rfl)
          still_call (lSizeE1 S9d.out z HZ.out)
          repeat still_step
          refine wpStill_nil ?_
          change wpList _ _ _ _ _ (World.drew _)
          clear q1 q2 u0 u1 u2 v0 v1 v2
          go_wp2_with (first
            | (go_at_call 33; (with_reducible refine (rFSize_c x y false (by omega) (by omega) z HM.out _).mono ?_); rintro e wc ⟨rfl, hb⟩
               have Sa := Lib.hid (S9d.out.next hb)
               clear hb))
          go_ret
          exact ⟨rfl, Sa.out.below⟩
end Go.Proofs.YtinieljgcenemaaDoor
