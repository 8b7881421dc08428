/- The law FrameHeld: the walk. -/
import Derived.Test.YtokbdkbljgdcpaaDoorYSLwI
import Derived.Test.YtokbdkbljgdcpaaDoorY1
import Derived.Deep.DeepCutAuto
namespace Go.Proofs.YtokbdkbljgdcpaaDoor
open Go.RowKit Go.Own Go.Frm
set_option linter.unusedVariables false
set_option maxRecDepth 100000
theorem feed_len (m : Nat) (st : Pst) (ys : List UInt8) (nb : Nat) (h : ys.length = nb) : (feedP m st ys).held.length = st.held.length + feedN m st nb ∧ (feedP m st ys).done = st.done := by
  subst h
  refine ⟨?_, rfl⟩
  unfold feedP
  have : feedN m st ys.length ≤ ys.length := by
    unfold feedN
    cases st.done
    · exact Nat.min_le_left _ _
    · exact Nat.zero_le _
  simp only [List.length_append, List.length_take]
  omega
/-- the ways of Next, as the law sees them -/
theorem next_see (m : Nat) (st : Pst) (hok : st.ok) :
    (nextP m st = (⟨zeroF, ⟨false, 0, 0⟩, false⟩, st)) ∨
    (∃ f c, nextP m st = (⟨f, ⟨true, c, 0⟩, true⟩, ⟨[], true⟩) ∧ st.done = false) ∨
    (∃ f c z st', nextP m st = (⟨f, ⟨false, c, z⟩, true⟩, st') ∧ st'.done = false ∧ st.done = false ∧ st'.held.length + 9 ≤ st.held.length) ∨
    (∃ f c z st', nextP m st = (⟨f, ⟨true, c, z⟩, true⟩, st') ∧ (z == 0) = false ∧ st'.done = false ∧ st.done = false ∧ st'.held.length + 9 ≤ st.held.length) := by
  rcases next_ways m st with ⟨_, h⟩ | ⟨hd, h9, h1, h⟩ | ⟨_, _, _, _, h⟩ | ⟨hd, h9, h1, h⟩
  · exact .inl h
  · exact .inr (.inl ⟨zeroF, 6, h, hd⟩)
  · exact .inl h
  · obtain ⟨f, ⟨b, c, z⟩, hp⟩ : ∃ f x, parseP (hdK st.held) (hdF st.held) (hdS st.held) ((st.held.drop 9).take (hdN st.held)) = (f, x) := ⟨_, _, rfl⟩
    rw [hp] at h
    cases b with
    | false => exact .inr (.inr (.inl ⟨f, c, z, ⟨st.held.drop (9 + hdN st.held), false⟩, h, rfl, hd, by simp only [List.length_drop]; omega⟩))
    | true =>
      cases hz : (z == 0) with
      | true =>
        have hz0 : z = 0 := by simpa using hz
        subst hz0
        exact .inr (.inl ⟨f, c, h, hd⟩)
      | false =>
        have e : Go.Frm.settle (f, ⟨true, c, z⟩) (st.held.drop (9 + hdN st.held)) = (⟨f, ⟨true, c, z⟩, true⟩, ⟨st.held.drop (9 + hdN st.held), false⟩) := by
          show (_, bif (true && z == 0) then _ else _) = _
          rw [hz]; rfl
        rw [e] at h
        exact .inr (.inr (.inr ⟨f, c, z, ⟨st.held.drop (9 + hdN st.held), false⟩, h, hz, rfl, hd, by simp only [List.length_drop]; omega⟩))
set_option maxHeartbeats 8000000 in
theorem lawHeld {w : World} (z : Int) (hz : -9223372036854775808 ≤ z ∧ z ≤ 9223372036854775807) {A : Option Addr} {n c : Nat} (hl : HoldsT Tryd.prog w 3 62 [.slice A n c]) {B : Option Addr} {n2 c2 : Nat} (hl2 : HoldsT Tryd.prog w 3 67 [.slice B n2 c2]) (hG : Gl w) :
    Calls Tryd.prog 8 #[.int .i64 z, .slice A n c, .slice B n2 c2] w fun e w' => e = .returned (.bool true) ∧ Below w.heap.size w w' := by
  obtain ⟨m, hm⟩ : ∃ m, clampM z = m := ⟨_, rfl⟩
  have hmb := clampM_bd z
  rw [hm] at hmb
  obtain ⟨hmb1, hmb2⟩ := hmb
  have hm0 : (min (max z 16384) 16777215) = (m : Int) := by unfold clampM at hm; omega
  have HG := Lib.hid hG
  have HL := Lib.hid hl
  have HL2 := Lib.hid hl2
  have HM := Lib.hid hm
  have HM0 := Lib.hid hm0
  have HZ := Lib.hid hz
  clear hG hl hl2 hm hm0 hz
  go_enter Tryd.func8, Tryd.ntmps8
  go_upto_region 6 with (first
    | (go_at_call 12; (with_reducible refine (shown_c HG.out).mono ?_); rintro e w1 ⟨rfl, hb1⟩
       have HB1 := Lib.hid hb1
       have HG1 := Lib.hid (HG.out.below HB1.out)
       clear hb1)
    | (go_at_call 17; (with_reducible refine (new_c z HZ.out).mono ?_); rintro e w3 ⟨p, rfl, s3⟩
       rw [HM.out] at s3
       have S3 := Lib.hid s3
       clear s3))
  go_upto_if 25 with (fail)
  go_cut [9] (fun s wx => s = .int .i64 (max z 16384) ∧ wx = w3)
  case first =>
    by_cases h : z < 16384
    · go_wp2
      go_meet
      case rel => exact ⟨congrArg (Value.int .i64) (by omega), rfl⟩
    · go_wp2
      go_meet
      case rel => exact ⟨congrArg (Value.int .i64) (by omega), rfl⟩
  case rest =>
    obtain ⟨rfl, rfl⟩ := hcut
    go_upto_if 27 with (fail)
    go_cut [9] (fun s wx => s = .int .i64 (m : Int) ∧ wx = wc)
    case first =>
      have h0 := HM0.out
      by_cases h : 16777215 < max z 16384
      · have e : (m : Int) = 16777215 := by omega
        go_wp2
        go_meet
        case rel => exact ⟨congrArg (Value.int .i64) e.symm, rfl⟩
      · have e : max z 16384 = (m : Int) := by omega
        rw [e] at h ⊢
        go_wp2
        go_meet
        case rel => exact ⟨rfl, rfl⟩
    case rest =>
      obtain ⟨rfl, rfl⟩ := hcut
      have Hn60 : Hid (n ≤ c) := (HL.out.slice Tryd.underlying62).1
      clear HZ HM HM0
      go_wp2
      go_loopg [10, 11] 60 (fun gh d i w' => ∃ (j : Nat) (st : Pst), gh + j = 60 ∧ i = .int .i64 (j : Int) ∧ d = .bool st.done ∧ j ≤ n ∧ st.held.length ≤ m + 9 ∧ St (fun _ => False) w1 w' [PFo p m st])
      case atStart => exact ⟨0, ⟨[], false⟩, by omega, rfl, rfl, by omega, by show 0 ≤ m + 9; omega, S3.out⟩
      case round =>
        obtain ⟨j, st, hj, rfl, rfl, hjn, hhl, s4⟩ := hrel
        cases gk with
        | succ g1 =>
          have hj60 : j < 60 := by omega
          have hB4 := HB1.out.trans (s4.below.mono HB1.out.size)
          by_cases hjl : j < n
          · have k1 : (j : Int) < (n : Int) := by omega
            have k2 : (j : Int) < 60 := by omega
            obtain ⟨b, o, D, nb, cb, ys, rfl, hc0, hrd, hnb, hcb⟩ := byt_at HL.out hjl
            have hyl : ys.length = nb := by simpa using hrd.1
            obtain ⟨q, hq⟩ : ∃ q, feedN m st nb = q := ⟨_, rfl⟩
            obtain ⟨st2, hst2⟩ : ∃ st2, feedP m st ys = st2 := ⟨_, rfl⟩
            obtain ⟨hf1, hf2⟩ := feed_len m st ys nb hyl
            rw [hst2, hq] at hf1
            rw [hst2] at hf2
            obtain ⟨was, hwas⟩ : ∃ n, st.held.length = n := ⟨_, rfl⟩
            obtain ⟨n3, hn3⟩ : ∃ n, st2.held.length = n := ⟨_, rfl⟩
            rw [hwas, hn3] at hf1
            rw [hwas] at hhl
            obtain ⟨hsok, _, hm16, _⟩ := par_ok s4
            have hqle : q ≤ nb ∧ q ≤ m + 9 - was ∧ (st.done = false → q = min nb (m + 9 - was)) ∧ (st.done = true → q = 0 ∧ was = 0) := by
              rw [← hq, ← hwas]
              unfold feedN
              cases hd : st.done
              · exact ⟨Nat.min_le_left _ _, Nat.min_le_right _ _, fun _ => rfl, fun h => by cases h⟩
              · exact ⟨Nat.zero_le _, Nat.zero_le _, fun h => (by cases h), fun _ => ⟨rfl, by rw [hsok hd]; rfl⟩⟩
            obtain ⟨hq1, hq2, hq3, hq4⟩ := hqle
            have hc4 : wr.cell? ⟨b, o + j, none⟩ = some (.slice D nb cb) := (hB4.cell (World.block_lt_of_cell? _ _ hc0)).trans hc0
            have hbl := World.block_lt_of_cell? _ _ hc4
            have hR1 : Rd w1 1 D nb (ys.map BV) := hrd.below HB1.out
            have S4 := Lib.hid s4
            have HC0 := Lib.hid hc0
            have HB4 := Lib.hid hB4
            have HR1 := Lib.hid hR1
            have HQ := Lib.hid hq
            have HST2 := Lib.hid hst2
            have HWAS := Lib.hid hwas
            have HN3 := Lib.hid hn3
            have HF2 := Lib.hid hf2
            have HF1 := Lib.hid hf1
            have HSOK := Lib.hid hsok
            have HQ3 := Lib.hid hq3
            have HQ4 := Lib.hid hq4
            obtain ⟨m9, hm9⟩ : ∃ x, m + 9 = x := ⟨_, rfl⟩
            have wm : IntKind.i64.wrap ((m : Int) + 9) = (m9 : Int) := by rw [IntKind.wrap_i64]; omega
            obtain ⟨r, hr⟩ : ∃ x, m9 - was = x := ⟨_, rfl⟩
            have wr9 : IntKind.i64.wrap ((m9 : Int) - (was : Int)) = (r : Int) := by rw [IntKind.wrap_i64]; omega
            obtain ⟨v0, hv0⟩ : ∃ x, min nb r = x := ⟨_, rfl⟩
            have i1 : (if (nb : Int) < (r : Int) then (nb : Int) else (r : Int)) = (v0 : Int) := by split <;> omega
            have i2 : (if (r : Int) < (nb : Int) then (r : Int) else (nb : Int)) = (v0 : Int) := by split <;> omega
            have i3 : (if nb < r then (nb : Int) else (r : Int)) = (v0 : Int) := by split <;> omega
            have i4 : (if r < nb then (r : Int) else (nb : Int)) = (v0 : Int) := by split <;> omega
            have i5 : (if (nb : Int) ≤ (r : Int) then (nb : Int) else (r : Int)) = (v0 : Int) := by split <;> omega
            have i6 : (if nb ≤ r then (nb : Int) else (r : Int)) = (v0 : Int) := by split <;> omega
            have ws : IntKind.i64.wrap ((was : Int) + (q : Int)) = (n3 : Int) := by rw [IntKind.wrap_i64]; omega
            have hn3m : n3 ≤ m + 9 := by omega
            have d3 : ¬ m9 < n3 := by omega
            have d3' : ¬ (m9 : Int) < (n3 : Int) := by omega
            have hok2 : st2.ok := fun h => by
              rw [HF2.out] at h
              have h0 := HQ4.out h
              have : st2.held.length = 0 := by rw [HN3.out]; omega
              exact List.eq_nil_of_length_eq_zero this
            have HOK2 := Lib.hid hok2
            cases hd : st.done with
            | false =>
              have hv0q : q = v0 := by have := HQ3.out hd; omega
              subst hv0q
              rw [hd] at HF2
              clear hq hst2 hwas hn3 hf1 hf2 hsok hm9 hr hv0 hq1 hq2 hq3 hq4 hok2 hrd hc0 hB4 hR1 s4 hyl
              go_upto_region 21 with (first
                | (go_at_call 25; (with_reducible refine (size_n S4.out was HWAS.out).mono ?_); rintro e w5 ⟨rfl, rfl⟩)
                | (go_at_call 23; (with_reducible refine (feed_in_n S4.out HR1.out hnb (by omega) q HQ.out st2 HST2.out).mono ?_); rintro e w6 ⟨rfl, s6⟩
                   have S6 := Lib.hid s6
                   have HB6 := Lib.hid (HB1.out.trans (s6.below.mono HB1.out.size))
                   have hc6 := (HB6.out.cell (World.block_lt_of_cell? _ _ HC0.out)).trans HC0.out
                   have hl6 := World.block_lt_of_cell? _ _ hc6
                   clear s6)
                | (go_at_call 25; (with_reducible refine (size_n S6.out n3 HN3.out).mono ?_); rintro e w5 ⟨rfl, rfl⟩))
              by_cases hj2 : j < n2
              · have k4 : (j : Int) < (n2 : Int) := by omega
                obtain ⟨b2, o2, v, rfl, hv0⟩ := bool_at HL2.out hj2
                have hv6 := (HB6.out.cell (World.block_lt_of_cell? _ _ hv0)).trans hv0
                have hvl := World.block_lt_of_cell? _ _ hv6
                clear hv0
                cases v
                · go_wp2
                  go_roundg g1
                  case measure => omega
                  case rel => exact ⟨j + 1, st2, by omega, by go_num, by rw [HF2.out], by omega, by rw [HN3.out]; omega, S6.out⟩
                · rcases next_see m st2 HOK2.out with hx | ⟨f, cc, hx, hdd⟩ | ⟨f, cc, zz, st3, hx, hd3, hdd, hl3⟩ | ⟨f, cc, zz, st3, hx, hz3, hd3, hdd, hl3⟩
                  · as_aux_lemma =>
                      have HNX := Lib.hid hx
                      clear hx
                      go_wp2_with (first
                        | (go_at_call 21; (with_reducible refine (next_n S6.out HG1.out HNX.out).mono ?_); rintro e w7 ⟨pv, lv, rfl, o7, s7, z7⟩
                           obtain ⟨Af, cf, Bf, df, rfl, rfl, _, _⟩ := o7
                           have S7 := Lib.hid (shB s7 (.cells #[.int .i64 zeroF.kind, .int .i64 zeroF.stream, .bool zeroF.fin, .bool zeroF.eh, .bool zeroF.ack, .bool zeroF.prio, .slice Af zeroF.pay.length cf, .int .i64 zeroF.flags, .int .i64 zeroF.pad, .int .i64 zeroF.depend, .bool zeroF.excl, .int .i64 zeroF.weight, .int .u32 (zeroF.code : Int), .slice Bf zeroF.list.length df, .int .i64 zeroF.last, .int .i64 zeroF.inc] 27) 46 [.bool false, .int .u32 0, .int .i64 0])
                           clear s7)
                        | (go_at_call 25; (with_reducible refine (size_n S7.out n3 HN3.out).mono ?_); rintro e w8 ⟨rfl, rfl⟩))
                      go_roundg g1
                      case measure => omega
                      case rel => exact ⟨j + 1, st2, by omega, by go_num, by rw [HF2.out], by omega, by rw [HN3.out]; omega, S7.out.drop [PFo p m st2] _ []⟩
                  · as_aux_lemma =>
                      have HNX := Lib.hid hx
                      clear hx
                      go_wp2_with (first
                        | (go_at_call 21; (with_reducible refine (next_n S6.out HG1.out HNX.out).mono ?_); rintro e w7 ⟨pv, lv, rfl, o7, s7, z7⟩
                           obtain ⟨Af, cf, Bf, df, rfl, rfl, _, _⟩ := o7
                           have S7 := Lib.hid (shB s7 (.cells #[.int .i64 f.kind, .int .i64 f.stream, .bool f.fin, .bool f.eh, .bool f.ack, .bool f.prio, .slice Af f.pay.length cf, .int .i64 f.flags, .int .i64 f.pad, .int .i64 f.depend, .bool f.excl, .int .i64 f.weight, .int .u32 (f.code : Int), .slice Bf f.list.length df, .int .i64 f.last, .int .i64 f.inc] 27) 46 [.bool true, .int .u32 (cc : Int), .int .i64 0])
                           clear s7)
                        | (go_at_call 25; (with_reducible refine (size_n S7.out 0 rfl).mono ?_); rintro e w8 ⟨rfl, rfl⟩))
                      go_roundg g1
                      case measure => omega
                      case rel => exact ⟨j + 1, ⟨[], true⟩, by omega, by go_num, rfl, by omega, by show 0 ≤ m + 9; omega, S7.out.drop [PFo p m ⟨[], true⟩] _ []⟩
                  · as_aux_lemma =>
                      have HNX := Lib.hid hx
                      obtain ⟨n4, hn4⟩ : ∃ x, st3.held.length = x := ⟨_, rfl⟩
                      rw [hn4, HN3.out] at hl3
                      obtain ⟨n39, hn39⟩ : ∃ x, n3 - 9 = x := ⟨_, rfl⟩
                      have w9 : IntKind.i64.wrap ((n3 : Int) - 9) = (n39 : Int) := by rw [IntKind.wrap_i64]; omega
                      have d9 : ¬ n39 < n4 := by omega
                      have d9' : ¬ (n39 : Int) < (n4 : Int) := by omega
                      have hn4m : n4 ≤ m + 9 := by omega
                      have HN4 := Lib.hid hn4
                      have HD3 := Lib.hid hd3
                      clear hn4 hn39 hd3 hl3
                      clear hx
                      go_wp2_with (first
                        | (go_at_call 21; (with_reducible refine (next_n S6.out HG1.out HNX.out).mono ?_); rintro e w7 ⟨pv, lv, rfl, o7, s7, z7⟩
                           obtain ⟨Af, cf, Bf, df, rfl, rfl, _, _⟩ := o7
                           have S7 := Lib.hid (shB s7 (.cells #[.int .i64 f.kind, .int .i64 f.stream, .bool f.fin, .bool f.eh, .bool f.ack, .bool f.prio, .slice Af f.pay.length cf, .int .i64 f.flags, .int .i64 f.pad, .int .i64 f.depend, .bool f.excl, .int .i64 f.weight, .int .u32 (f.code : Int), .slice Bf f.list.length df, .int .i64 f.last, .int .i64 f.inc] 27) 46 [.bool false, .int .u32 (cc : Int), .int .i64 zz])
                           clear s7)
                        | (go_at_call 25; (with_reducible refine (size_n S7.out n4 HN4.out).mono ?_); rintro e w8 ⟨rfl, rfl⟩))
                      go_roundg g1
                      case measure => omega
                      case rel => exact ⟨j + 1, st3, by omega, by go_num, by rw [HD3.out], by omega, by rw [HN4.out]; omega, S7.out.drop [PFo p m st3] _ []⟩
                  · as_aux_lemma =>
                      have HNX := Lib.hid hx
                      obtain ⟨n4, hn4⟩ : ∃ x, st3.held.length = x := ⟨_, rfl⟩
                      rw [hn4, HN3.out] at hl3
                      obtain ⟨n39, hn39⟩ : ∃ x, n3 - 9 = x := ⟨_, rfl⟩
                      have w9 : IntKind.i64.wrap ((n3 : Int) - 9) = (n39 : Int) := by rw [IntKind.wrap_i64]; omega
                      have d9 : ¬ n39 < n4 := by omega
                      have d9' : ¬ (n39 : Int) < (n4 : Int) := by omega
                      have hn4m : n4 ≤ m + 9 := by omega
                      have HN4 := Lib.hid hn4
                      have HD3 := Lib.hid hd3
                      clear hn4 hn39 hd3 hl3
                      clear hx
                      go_wp2_with (first
                        | (go_at_call 21; (with_reducible refine (next_n S6.out HG1.out HNX.out).mono ?_); rintro e w7 ⟨pv, lv, rfl, o7, s7, z7⟩
                           obtain ⟨Af, cf, Bf, df, rfl, rfl, _, _⟩ := o7
                           have S7 := Lib.hid (shB s7 (.cells #[.int .i64 f.kind, .int .i64 f.stream, .bool f.fin, .bool f.eh, .bool f.ack, .bool f.prio, .slice Af f.pay.length cf, .int .i64 f.flags, .int .i64 f.pad, .int .i64 f.depend, .bool f.excl, .int .i64 f.weight, .int .u32 (f.code : Int), .slice Bf f.list.length df, .int .i64 f.last, .int .i64 f.inc] 27) 46 [.bool true, .int .u32 (cc : Int), .int .i64 zz])
                           clear s7)
                        | (go_at_call 25; (with_reducible refine (size_n S7.out n4 HN4.out).mono ?_); rintro e w8 ⟨rfl, rfl⟩))
                      go_roundg g1
                      case measure => omega
                      case rel => exact ⟨j + 1, st3, by omega, by go_num, by rw [HD3.out], by omega, by rw [HN4.out]; omega, S7.out.drop [PFo p m st3] _ []⟩
              · have k4 : ¬ (j : Int) < (n2 : Int) := by omega
                go_wp2
                go_roundg g1
                case measure => omega
                case rel => exact ⟨j + 1, st2, by omega, by go_num, by rw [HF2.out], by omega, by rw [HN3.out]; omega, S6.out⟩
            | true =>
              obtain ⟨hq0, hw0⟩ := HQ4.out hd
              subst hq0 hw0
              obtain rfl : n3 = 0 := by omega
              obtain rfl : r = m9 := by omega
              have wrr : IntKind.i64.wrap (r : Int) = (r : Int) := by rw [IntKind.wrap_i64]; omega
              rw [hd] at HF2
              clear hq hst2 hwas hn3 hf1 hf2 hsok hm9 hr hv0 hq1 hq2 hq3 hq4 hok2 hrd hc0 hB4 hR1 s4 hyl
              go_upto_region 21 with (first
                | (go_at_call 25; (with_reducible refine (size_n S4.out 0 HWAS.out).mono ?_); rintro e w5 ⟨rfl, rfl⟩)
                | (go_at_call 23; (with_reducible refine (feed_in_n S4.out HR1.out hnb (by omega) 0 HQ.out st2 HST2.out).mono ?_); rintro e w6 ⟨rfl, s6⟩
                   have S6 := Lib.hid s6
                   have HB6 := Lib.hid (HB1.out.trans (s6.below.mono HB1.out.size))
                   have hc6 := (HB6.out.cell (World.block_lt_of_cell? _ _ HC0.out)).trans HC0.out
                   have hl6 := World.block_lt_of_cell? _ _ hc6
                   clear s6)
                | (go_at_call 25; (with_reducible refine (size_n S6.out 0 HN3.out).mono ?_); rintro e w5 ⟨rfl, rfl⟩))
              all_goals
                by_cases hj2 : j < n2
                · have k4 : (j : Int) < (n2 : Int) := by omega
                  obtain ⟨b2, o2, v, rfl, hv0⟩ := bool_at HL2.out hj2
                  have hv6 := (HB6.out.cell (World.block_lt_of_cell? _ _ hv0)).trans hv0
                  have hvl := World.block_lt_of_cell? _ _ hv6
                  clear hv0
                  cases v
                  · go_wp2
                    go_roundg g1
                    case measure => omega
                    case rel => exact ⟨j + 1, st2, by omega, by go_num, by rw [HF2.out], by omega, by rw [HN3.out]; omega, S6.out⟩
                  · rcases next_see m st2 HOK2.out with hx | ⟨f, cc, hx, hdd⟩ | ⟨f, cc, zz, st3, hx, hd3, hdd, hl3⟩ | ⟨f, cc, zz, st3, hx, hz3, hd3, hdd, hl3⟩
                    · as_aux_lemma =>
                        have HNX := Lib.hid hx
                        clear hx
                        go_wp2_with (first
                          | (go_at_call 21; (with_reducible refine (next_n S6.out HG1.out HNX.out).mono ?_); rintro e w7 ⟨pv, lv, rfl, o7, s7, z7⟩
                             obtain ⟨Af, cf, Bf, df, rfl, rfl, _, _⟩ := o7
                             have S7 := Lib.hid (shB s7 (.cells #[.int .i64 zeroF.kind, .int .i64 zeroF.stream, .bool zeroF.fin, .bool zeroF.eh, .bool zeroF.ack, .bool zeroF.prio, .slice Af zeroF.pay.length cf, .int .i64 zeroF.flags, .int .i64 zeroF.pad, .int .i64 zeroF.depend, .bool zeroF.excl, .int .i64 zeroF.weight, .int .u32 (zeroF.code : Int), .slice Bf zeroF.list.length df, .int .i64 zeroF.last, .int .i64 zeroF.inc] 27) 46 [.bool false, .int .u32 0, .int .i64 0])
                             clear s7)
                          | (go_at_call 25; (with_reducible refine (size_n S7.out 0 HN3.out).mono ?_); rintro e w8 ⟨rfl, rfl⟩))
                        go_roundg g1
                        case measure => omega
                        case rel => exact ⟨j + 1, st2, by omega, by go_num, by rw [HF2.out], by omega, by rw [HN3.out]; omega, S7.out.drop [PFo p m st2] _ []⟩
                    · rw [HF2.out] at hdd; cases hdd
                    · rw [HF2.out] at hdd; cases hdd
                    · rw [HF2.out] at hdd; cases hdd
                · have k4 : ¬ (j : Int) < (n2 : Int) := by omega
                  go_wp2
                  go_roundg g1
                  case measure => omega
                  case rel => exact ⟨j + 1, st2, by omega, by go_num, by rw [HF2.out], by omega, by rw [HN3.out]; omega, S6.out⟩
          · have k1 : ¬ (j : Int) < (n : Int) := by omega
            have S4 := Lib.hid s4
            have HB4 := Lib.hid hB4
            clear s4 hB4
            go_wp2
            go_ret
            exact ⟨rfl, HB4.out⟩
        | zero =>
          have hB4 := HB1.out.trans (s4.below.mono HB1.out.size)
          have HB4 := Lib.hid hB4
          obtain rfl : j = 60 := by omega
          clear s4 hB4
          by_cases hjl : 60 < n
          · have k1 : (60 : Int) < (n : Int) := by omega
            go_wp2
            go_ret
            exact ⟨rfl, HB4.out⟩
          · have k1 : ¬ (60 : Int) < (n : Int) := by omega
            go_wp2
            go_ret
            exact ⟨rfl, HB4.out⟩
end Go.Proofs.YtokbdkbljgdcpaaDoor
