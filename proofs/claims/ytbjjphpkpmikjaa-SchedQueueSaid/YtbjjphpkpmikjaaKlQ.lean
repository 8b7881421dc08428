/- The law SchedQueue: the walk. -/
import Derived.Test.YtbjjphpkpmikjaaKiX
import Derived.Test.YtbjjphpkpmikjaaKiW
namespace Go.Proofs.Ytbjjphpkpmikjaa
open Go.RowKit Go.Own Go.Sch
set_option linter.unusedVariables false
set_option linter.unusedSimpArgs false
set_option maxRecDepth 100000
set_option maxHeartbeats 32000000 in
theorem lawQueue {w0 : World} {A : Option Addr} {nb c : Nat} {bs : List Bool} (hr : Rd w0 1 A nb (bs.map Value.bool)) (hn : bs.length = nb) (rounds : Int) :
    Calls Try.prog 7 #[.slice A nb c, .int .i64 rounds] w0 fun e w' => e = .returned (.bool true) ∧ Below w0.heap.size w0 w' := by
  obtain ⟨R, hR⟩ : ∃ R, a7 rounds = R := ⟨_, rfl⟩
  have hR2 := a7_eq rounds
  rw [hR] at hR2
  have m1 := hR2.1
  obtain ⟨N, hN⟩ : ∃ N, min nb 10 = N := ⟨_, rfl⟩
  have m2 : (if (10 : Int) < (nb : Int) then 10 else (nb : Int)) = (N : Int) := by split <;> omega
  have HR7 := Lib.hid hR2.2
  have HN := Lib.hid hN
  have HR := Lib.hid hr
  have Hn := Lib.hid hn
  clear hR hR2 hN hr hn
  go_enter Try.func7, Try.ntmps7
  go_wp2_with (first
    | (go_at_call 8; (with_reducible refine (shown_c _).mono ?_); rintro e w1 ⟨rfl, hb1⟩
       have HB1 := Lib.hid hb1
       clear hb1)
    | (go_at_call 13; (with_reducible refine (new_c 1 1 rfl).mono ?_); rintro e w2 ⟨p, rfl, t2⟩
       have nq : St (fun _ => False) w2 w2 [QO 3 1 (.slice none 0 0) 0 []] := St.made (w := w2) (w' := w2) (F := fun _ => False) (framed_QO 3 1 (.slice none 0 0) 0 []) (.inl ⟨rfl, rfl, rfl, rfl⟩) (fun _ h => h.elim) (Below.refl _ _)
       have T2 : Hid (St (fun _ => False) w1 w2 [SO p [] [] 65535 1, QO 3 1 (.slice none 0 0) 0 [], QO 3 1 (.slice none 0 0) 0 []]) := Lib.hid ((t2.add nq).add nq)
       clear t2 nq))
  clear m1 m2
  go_loopg [10, 8, 9] N (fun gh i rv lv w => ∃ (k : Nat) (q : List Fl) (ready late : List Nat) (A1 A2 : Option Addr) (m1 d1 m2 d2 : Nat), gh + k = N ∧ i = .int .i64 k ∧ rv = .slice A1 m1 d1 ∧ lv = .slice A2 m2 d2 ∧ Hid (ready.length = m1 ∧ late.length = m2) ∧ Hid (Sch.Bld k q ready late) ∧
    Hid (St (fun _ => False) w1 w [SO p [] q 65535 1, QO 3 1 (.slice A1 m1 d1) ready.length (ready.map nv), QO 3 1 (.slice A2 m2 d2) late.length (late.map nv)]))
  case atStart => exact ⟨0, [], [], [], none, none, 0, 0, 0, 0, by omega, rfl, rfl, rfl, ⟨rfl, rfl⟩, Bld.start, T2.out⟩
  case round =>
    obtain ⟨k, q, ready, late, A1, A2, m1, d1, m2, d2, hgk, rfl, rfl, rfl, HLn, HBd, HS⟩ := hrel
    clear T2
    cases gk with
    | zero =>
      obtain rfl : k = N := by omega
      have hq := HBd.out.len
      have hN10 : k ≤ 10 := by have := HN.out; omega
      have H0 := Lib.hid HBd.out.rnd
      have HNd := Lib.hid HBd.out.nd
      have HAll := Lib.hid (Sch.Bld.all HBd.out)
      have HId := Lib.hid HBd.out.ids
      have HOk := Lib.hid (Bld.ok HBd.out hN10)
      have HM : Hid (m1 ≤ 10 ∧ m2 ≤ 10) := by have := HLn.out; unfold Hid; omega
      have H50 : Hid ((-9223372036854775808 : Int) ≤ 50 ∧ (50 : Int) ≤ 9223372036854775807) := by unfold Hid; decide
      clear hgk HBd hq
      go_wp2
      go_loopg [12] R (fun gh i w => ∃ (kk : Nat) (q : List Fl) (W : Int), gh + kk = R ∧ i = .int .i64 kk ∧ Hid (Rnd q ready late 0 (99 - (kk : Int)) (49 - kk)) ∧ Hid (q.map Fl.id = if kk = 0 then (List.range k).map (· + 1) else late ++ ready) ∧ Hid (SdOk q W 1 ∧ 65535 - 10 * (kk : Int) ≤ W ∧ W ≤ 65535) ∧
        Hid (St (fun _ => False) w1 w [SO p [] q W 1, QO 3 1 (.slice A1 m1 d1) ready.length (ready.map nv), QO 3 1 (.slice A2 m2 d2) late.length (late.map nv)]))
      case atStart => exact ⟨0, q, 65535, by omega, rfl, H0.out, by rw [if_pos rfl]; exact HId.out, ⟨HOk.out, by omega, by omega⟩, HS.out⟩
      case round =>
        clear HS H0 HId HOk
        obtain ⟨kk, q2, W, hgkk, rfl, HRn, HQi, HOk, HS⟩ := hrel
        cases gk with
        | zero =>
          obtain rfl : kk = R := by omega
          clear hgkk
          have hnd : (q2.map Fl.id).Nodup := by
            rw [HQi.out]
            split
            · exact nodup_ids _
            · exact HNd.out
          obtain ⟨ids, hids⟩ : ∃ ids, q2.map Fl.id = ids := ⟨_, rfl⟩
          rw [hids] at hnd
          have HG := Lib.hid (Gr.start HRn.out (by have := HR7.out; omega) (by have := HR7.out; omega) hids hnd)
          have HIds : Hid (ids = if kk = 0 then (List.range k).map (· + 1) else late ++ ready) := by unfold Hid; rw [← hids]; exact HQi.out
          have HO := Lib.hid HOk.out.1
          have HWb : Hid (65535 - 70 ≤ W ∧ W ≤ 65535) := by have := HOk.out.2; have := HR7.out; unfold Hid; omega
          clear hnd hids HRn HQi HOk HNd
          go_wp2
          go_loopg [16] m2 (fun gh i w => ∃ (y : Nat) (q : List Fl), gh + y = m2 ∧ i = .int .i64 y ∧ Hid (Gr y q ids late) ∧ Hid (SdOk q W 1) ∧
            Hid (St (fun _ => False) w1 w [SO p [] q W 1, QO 3 1 (.slice A1 m1 d1) ready.length (ready.map nv), QO 3 1 (.slice A2 m2 d2) late.length (late.map nv)]))
          case atStart => exact ⟨0, q2, by omega, rfl, HG.out, HO.out, HS.out⟩
          case round =>
            clear HS HG HO
            obtain ⟨y, q3, hgy, rfl, HG, HO, HS⟩ := hrel
            cases gk with
            | zero =>
              obtain rfl : y = m2 := by omega
              clear hgy
              have hg := HG.out
              rw [← HLn.out.2] at hg
              have HD := Lib.hid hg.done
              have HLen3 : Hid (ids.length = q3.length) := by unfold Hid; rw [← HG.out.idq, List.length_map]
              clear hg
              obtain ⟨A', c', he, hrdL, _⟩ := ints_see [SO p [] q3 W 1, QO 3 1 (.slice A1 m1 d1) ready.length (ready.map nv)] [] HS.out
              rw [HLn.out.2] at he hrdL
              injection he with he1 _ he2
              subst he1 he2
              have s2 : St (fun _ => False) w1 (wr.alloc (.cells #[] 3)) [SO p [] q3 W 1, QO 3 1 (.slice A1 m1 d1) ready.length (ready.map nv), QO 3 1 (.slice A2 y d2) late.length (late.map nv), QO 3 1 (.slice (some ⟨wr.heap.size, 0, none⟩) 0 0) ([] : List Nat).length (([] : List Nat).map nv)] := new_ints HS.out
              obtain ⟨A3, d3, w3, hrun, h3⟩ := append_i [SO p [] q3 W 1, QO 3 1 (.slice A1 m1 d1) ready.length (ready.map nv), QO 3 1 (.slice A2 y d2) late.length (late.map nv)] [] s2 late (c := d2) (hrdL.below ((Below.refl _ _).alloc (Nat.le_refl _) _)) (by have := HM.out.2; simp; omega)
              simp only [List.length_nil, Nat.zero_add, List.nil_append] at hrun h3
              have HRun := Lib.hid hrun
              have T3 : Hid (St (fun _ => False) w1 w3 [SO p [] q3 W 1, QO 3 1 (.slice A1 m1 d1) ready.length (ready.map nv), QO 3 1 (.slice A2 y d2) late.length (late.map nv), QO 3 1 (.slice A3 y d3) late.length (late.map nv)]) := Lib.hid h3
              clear hrdL s2 hrun h3 HS HG
              go_upto_region 32 with (fail)
              go_cut [17] (fun wv wx => wv = .slice A3 y d3 ∧ wx = w3)
              case first =>
                go_wp2_with (first
                  | (at_builtin
                     refine wpList_app_run rfl (.tmp 113) (.tmp 114) 23 23 rfl _ _ rfl rfl HRun.out ?_))
                go_meet
                exact ⟨rfl, rfl⟩
              case rest =>
                obtain ⟨rfl, rfl⟩ := hcut
                have HI20 : Hid (ids.length ≤ 20) := by
                  unfold Hid
                  rw [HIds.out]
                  have := HM.out
                  have := HLn.out
                  split
                  · simp; omega
                  · rw [List.length_append]; omega
                go_step
                go_step
                go_cut [17] (fun wv wx => ∃ (A5 : Option Addr) (m5 d5 : Nat), wv = .slice A5 m5 d5 ∧ Hid (ids.length = m5) ∧ Hid (St (fun _ => False) w1 wx [SO p [] q3 W 1, QO 3 1 (.slice A5 m5 d5) ids.length (ids.map nv)]))
                case first =>
                  have hways : ((((kk : Int) == 0) = true ∧ ids = (List.range k).map (· + 1)) ∨ (((kk : Int) == 0) = false ∧ ((m1 : Int) == 0) = true ∧ ids = (List.range k).map (· + 1))) ∨ (((kk : Int) == 0) = false ∧ ((m1 : Int) == 0) = false ∧ ids = late ++ ready) := by
                    by_cases h0 : kk = 0
                    · left; left
                      exact ⟨by simp [h0], by rw [HIds.out, if_pos h0]⟩
                    · have h1 : ((kk : Int) == 0) = false := by simpa using h0
                      by_cases h2 : m1 = 0
                      · left; right
                        have hr0 : ready = [] := List.eq_nil_of_length_eq_zero (by rw [HLn.out.1]; exact h2)
                        exact ⟨h1, by simp [h2], by rw [HIds.out, if_neg h0, HAll.out hr0, hr0, List.append_nil]⟩
                      · right
                        exact ⟨h1, by simpa using h2, by rw [HIds.out, if_neg h0]⟩
                  rcases hways with hways | ⟨h1, h2, h3⟩
                  · have h3 : ids = (List.range k).map (· + 1) := by rcases hways with ⟨_, h⟩ | ⟨_, _, h⟩ <;> exact h
                    have H3 := Lib.hid h3
                    have hw2 : (((kk : Int) == 0) = true) ∨ (((kk : Int) == 0) = false ∧ ((m1 : Int) == 0) = true) := by
                      rcases hways with ⟨h, _⟩ | ⟨h, h', _⟩
                      · exact .inl h
                      · exact .inr ⟨h, h'⟩
                    have s5 : St (fun _ => False) w1 wc [SO p [] q3 W 1] := St.drop1 (St.drop1 (St.drop1 T3.out))
                    have nq : St (fun _ => False) wc wc [QO 3 1 (.slice none 0 0) ([] : List Nat).length (([] : List Nat).map nv)] := St.made (w := wc) (w' := wc) (F := fun _ => False) (framed_QO 3 1 (.slice none 0 0) 0 []) (.inl ⟨rfl, rfl, rfl, rfl⟩) (fun _ h => h.elim) (Below.refl _ _)
                    have T5 := Lib.hid (s5.add nq)
                    clear hways h3 s5 nq T3
                    rcases hw2 with h1 | ⟨h1, h2⟩
                    all_goals
                      go_wp2
                      go_loopg [18, 17] k (fun gh i wv w => ∃ (y : Nat) (A6 : Option Addr) (m6 d6 : Nat) (l : List Nat), gh + y = k ∧ i = .int .i64 y ∧ wv = .slice A6 m6 d6 ∧ Hid (l.length = m6 ∧ l = (List.range y).map (· + 1)) ∧ Hid (St (fun _ => False) w1 w [SO p [] q3 W 1, QO 3 1 (.slice A6 m6 d6) l.length (l.map nv)]))
                      case atStart => exact ⟨0, none, 0, 0, [], by omega, rfl, rfl, ⟨rfl, rfl⟩, T5.out⟩
                      case round =>
                        clear T5
                        obtain ⟨y5, A6, m6, d6, l, hgy, rfl, rfl, HL6, HS⟩ := hrel
                        cases gk with
                        | zero =>
                          obtain rfl : y5 = k := by omega
                          clear hgy
                          go_wp2
                          go_meet
                          have e := H3.out.trans HL6.out.2.symm
                          subst e
                          exact ⟨A6, m6, d6, rfl, HL6.out.1, HS.out⟩
                        | succ g2' =>
                          have hy : y5 < k := by omega
                          have i4 : IntKind.i64.wrap ((y5 : Int) + 1) = (y5 : Int) + 1 := w64 (by omega) (by omega)
                          have P2 : (((y5 + 1 : Nat)) : Int) = (y5 : Int) + 1 := by omega
                          obtain ⟨A7, d7, w7, hrun, h7⟩ := append_i [SO p [] q3 W 1] [] (HS.out.alloc (.cells #[.int .i64 (((y5 + 1 : Nat)) : Int)] 3)) [y5 + 1] (c := 1) (rd_nv1 wr (y5 + 1)) (by rw [HL6.out.2]; simp; omega)
                          rw [HL6.out.1, P2] at hrun
                          rw [HL6.out.1] at h7
                          have HRun := Lib.hid hrun
                          have T7 : Hid (St (fun _ => False) w1 w7 [SO p [] q3 W 1, QO 3 1 (.slice A7 (m6 + 1) d7) (l ++ [y5 + 1]).length ((l ++ [y5 + 1]).map nv)]) := Lib.hid h7
                          have HL7 : Hid ((l ++ [y5 + 1]).length = m6 + 1 ∧ l ++ [y5 + 1] = (List.range (y5 + 1)).map (· + 1)) := ⟨by rw [List.length_append, HL6.out.1]; rfl, by rw [HL6.out.2, List.range_succ, List.map_append]; rfl⟩
                          clear hrun h7 P2
                          go_wp2_with (first
                            | (at_builtin
                               refine wpList_app_run rfl (.tmp 128) (.tmp 131) 23 23 rfl _ _ rfl rfl HRun.out ?_))
                          go_roundg g2'
                          case measure => omega
                          case rel => exact ⟨y5 + 1, _, _, _, _, by omega, by go_num, rfl, HL7.out, T7.out⟩
                  · subst h3
                    obtain ⟨A', c', he, hrdR, _⟩ := ints_see [SO p [] q3 W 1] [QO 3 1 (.slice A2 y d2) late.length (late.map nv), QO 3 1 (.slice A3 y d3) late.length (late.map nv)] T3.out
                    rw [HLn.out.1] at he hrdR
                    injection he with he1 _ he2
                    subst he1 he2
                    obtain ⟨A5, d5, w5, hrun, h5⟩ := append_i [SO p [] q3 W 1, QO 3 1 (.slice A1 m1 d1) ready.length (ready.map nv), QO 3 1 (.slice A2 y d2) late.length (late.map nv)] [] T3.out ready (c := d1) hrdR (by have := HM.out; have := HLn.out; omega)
                    rw [HLn.out.2] at hrun h5
                    have HRun := Lib.hid hrun
                    have T5 : Hid (St (fun _ => False) w1 w5 [SO p [] q3 W 1, QO 3 1 (.slice A5 (y + m1) d5) (late ++ ready).length ((late ++ ready).map nv)]) := Lib.hid (St.drop1 (St.drop1 h5))
                    have HL5 : Hid ((late ++ ready).length = y + m1) := by unfold Hid; rw [List.length_append, HLn.out.1, HLn.out.2]
                    clear hrdR hrun h5 T3
                    go_wp2_with (first
                      | (at_builtin
                         refine wpList_app_run rfl (.tmp 133) (.tmp 134) 23 23 rfl _ _ rfl rfl HRun.out ?_))
                    go_meet
                    exact ⟨A5, _, d5, rfl, HL5.out, T5.out⟩
                case rest =>
                  obtain ⟨A5, m5, d5, rfl, HL5, HS5⟩ := hcut
                  have H10 : Hid ((-9223372036854775808 : Int) ≤ 10 ∧ (10 : Int) ≤ 9223372036854775807) := by unfold Hid; decide
                  clear T3
                  go_wp2
                  go_loopg [19] 3 (fun gh i w => ∃ (kz : Nat) (q : List Fl) (W : Int), gh + kz = 3 ∧ i = .int .i64 kz ∧ Hid (Rnd q ids [] 0 (92 - (kz : Int)) (42 - kz)) ∧ Hid (SdOk q W 1 ∧ 65535 - 70 - 20 * (kz : Int) ≤ W ∧ W ≤ 65535) ∧
                    Hid (St (fun _ => False) w1 w [SO p [] q W 1, QO 3 1 (.slice A5 m5 d5) ids.length (ids.map nv)]))
                  case atStart => exact ⟨0, q3, W, by omega, rfl, HD.out, ⟨HO.out, by have := HWb.out; omega, HWb.out.2⟩, HS5.out⟩
                  case round =>
                    clear HS5 HD
                    obtain ⟨kz, q6, W6, hgkz, rfl, HRn, HOk, HS⟩ := hrel
                    cases gk with
                    | zero =>
                      obtain rfl : kz = 3 := by omega
                      clear hgkz
                      go_wp2
                      go_ret
                      exact ⟨rfl, HB1.out.trans (HS.out.below.mono HB1.out.size)⟩
                    | succ g1 =>
                      have hkz : kz < 3 := by omega
                      have hkzd : decide ((kz : Int) < 3) = true := decide_eq_true (by omega)
                      have hkzI : (kz : Int) < 3 := by omega
                      have i3 : IntKind.i64.wrap ((kz : Int) + 1) = (kz : Int) + 1 := w64 (by omega) (by omega)
                      go_wp2
                      go_loopg [20] m5 (fun gh i w => ∃ (y : Nat) (q : List Fl) (W : Int), gh + y = m5 ∧ i = .int .i64 y ∧ Hid (Rnd q ids [] y (92 - (kz : Int)) (42 - kz)) ∧ Hid (SdOk q W 1 ∧ 65535 - 70 - 20 * (kz : Int) - (y : Int) ≤ W ∧ W ≤ 65535) ∧
                        Hid (St (fun _ => False) w1 w [SO p [] q W 1, QO 3 1 (.slice A5 m5 d5) ids.length (ids.map nv)]))
                      case atStart => exact ⟨0, q6, W6, by omega, rfl, HRn.out, ⟨HOk.out.1, by have := HOk.out.2.1; omega, HOk.out.2.2⟩, HS.out⟩
                      case round =>
                        clear HS HRn HOk
                        obtain ⟨y6, q7, W7, hgy, rfl, HRn, HOk, HS⟩ := hrel
                        cases gk with
                        | zero =>
                          obtain rfl : y6 = m5 := by omega
                          clear hgy
                          have hrn := HRn.out
                          have e1 : (92 - (kz : Int)) = (92 - ((kz + 1 : Nat) : Int)) + 1 := by omega
                          have e2 : 42 - kz = (42 - (kz + 1)) + 1 := by omega
                          rw [e1, e2, ← HL5.out] at hrn
                          obtain ⟨t1, t2⟩ := hrn.turn (by omega)
                          have HT := Lib.hid t2
                          clear e1 e2 hrn t1 t2
                          go_wp2
                          go_roundg g1
                          case measure => omega
                          case rel => exact ⟨kz + 1, q7, W7, by omega, by go_num, HT.out, ⟨HOk.out.1, by have := HOk.out.2.1; have := HI20.out; have := HL5.out; omega, HOk.out.2.2⟩, HS.out⟩
                        | succ g2' =>
                          have hy : y6 < m5 := by omega
                          obtain ⟨id, hid⟩ : ∃ id, ids[y6]? = some id := ⟨_, List.getElem?_eq_getElem (by rw [HL5.out]; omega)⟩
                          have hm1 := HI20.out
                          rw [HL5.out] at hm1
                          have hW3 := HOk.out.2
                          obtain ⟨q4, hnx, hr4⟩ := HRn.out.next (W := W7) (cap := (10 : Int).toNat) hid (by omega) (by decide) (by omega) (by omega)
                          obtain ⟨W4, hW4⟩ : ∃ W4, W7 - ((1 : Nat) : Int) = W4 := ⟨_, rfl⟩
                          have HOk4 : Hid (SdOk q4 W4 1 ∧ 65535 - 70 - 20 * (kz : Int) - ((y6 + 1 : Nat) : Int) ≤ W4 ∧ W4 ≤ 65535) := by
                            have := HOk.out.1.next hnx (by omega)
                            rw [hW4] at this
                            exact ⟨this, by omega, by omega⟩
                          have HNx := Lib.hid hnx
                          have HR4 := Lib.hid hr4
                          have HW4 := Lib.hid hW4
                          have i4 : IntKind.i64.wrap ((y6 : Int) + 1) = (y6 : Int) + 1 := w64 (by omega) (by omega)
                          obtain ⟨b, o, rfl⟩ := int_from11 [SO p [] q7 W7 1] [] HS.out (by rw [HL5.out]; omega)
                          have HOn' := Lib.hid HOk.out.1
                          have HI := Lib.hid hid
                          clear hid hm1 hW3 hnx hr4 hW4
                          go_upto_region 47 with (first
                            | (go_at_call 11; (with_reducible refine (nextI HS.out HOn'.out 10 H10.out id 1 false q4 HNx.out W4 HW4.out (id : Int) 1 rfl rfl).mono ?_); rintro e w5 ⟨rfl, t5⟩
                               have t5' : St _ _ _ [SO p [] q4 W4 1, QO 3 1 (.slice (some ⟨b, o, none⟩) m5 d5) ids.length (ids.map nv), BLo w5.heap.size 35 [.slice none 0 0, .int .i64 (id : Int), .int .i64 1, .bool false]] := St.block t5 35 [.slice none 0 0, .int .i64 (id : Int), .int .i64 1, .bool false]
                               have T5 := Lib.hid t5'
                               clear t5 t5'))
                          obtain ⟨rp, hrp⟩ : ∃ rp, w5.heap.size = rp := ⟨_, rfl⟩
                          rw [hrp] at T5 ⊢
                          obtain ⟨W5, hW5⟩ : ∃ W5, w5.alloc (.cells #[.slice none 0 0, .int .i64 (id : Int), .int .i64 1, .bool false] 35) = W5 := ⟨_, rfl⟩
                          rw [hW5] at T5 ⊢
                          obtain ⟨c1', l1⟩ := int_at11 [SO p [] q4 W4 1] [BLo rp 35 [.slice none 0 0, .int .i64 (id : Int), .int .i64 1, .bool false]] T5.out HL5.out HI.out
                          have bp := St.blk2 T5.out
                          have p1 := bp.cell 1
                          have p2 := bp.cell 2
                          have pl := bp.lt
                          simp only [List.getElem?_cons_zero, List.getElem?_cons_succ] at p1 p2
                          clear bp hrp hW5
                          go_quiet (fail)
                          have T6 := Lib.hid (St.drop2 (T5.out.drewN nq))
                          go_wp2
                          go_roundg g2'
                          case measure => omega
                          case rel => exact ⟨y6 + 1, q4, W4, by omega, by go_num, HR4.out, HOk4.out, T6.out⟩
            | succ g2' =>
              have hy : y < m2 := by omega
              have hm2 := HM.out.2
              obtain ⟨id, hid⟩ : ∃ id, late[y]? = some id := ⟨_, List.getElem?_eq_getElem (by rw [HLn.out.2]; omega)⟩
              obtain ⟨a, f, b, hq, hfid, hf0, hna, hg4⟩ := HG.out.next hid
              have hfl := HO.out.fl f (by rw [hq]; simp)
              have hok4 := (hq ▸ HO.out : SdOk (a ++ f :: b) W 1).grant (n := 100) (by omega) (by omega)
              have i4 : IntKind.i64.wrap ((y : Int) + 1) = (y : Int) + 1 := w64 (by omega) (by omega)
              obtain ⟨bb, o, rfl⟩ := int_from11 [SO p [] q3 W 1, QO 3 1 (.slice A1 m1 d1) ready.length (ready.map nv)] [] HS.out (by rw [HLn.out.2]; omega)
              obtain ⟨c1, l1⟩ := int_at11 [SO p [] q3 W 1, QO 3 1 (.slice A1 m1 d1) ready.length (ready.map nv)] [] HS.out HLn.out.2 hid
              have HLq := Lib.hid HO.out.len
              have HQ := Lib.hid hq
              have Hid1 : Hid ((f.id : Int) = (id : Int)) := by unfold Hid; rw [hfid]
              have Hid0 : Hid (¬ (id : Int) = 0) := by unfold Hid; omega
              have HNa : Hid (∀ g ∈ a, (g.id : Int) ≠ (id : Int)) := fun g hg e => hna g hg (by omega)
              have HB4 : Hid (-2147483647 ≤ f.win ∧ f.win ≤ 2147483647 ∧ -2147483647 - f.win ≤ 100 ∧ (100 : Int) ≤ 2147483647 - f.win) := by unfold Hid; omega
              have HG4 := Lib.hid hg4
              have HO4 := Lib.hid hok4
              clear hid hq hfid hf0 hna hg4 hfl hok4 hm2
              go_wp2_with (first
                | (go_at_call 10; (with_reducible refine (grantS_ok HS.out HLq.out _ Hid0.out HQ.out Hid1.out HNa.out 100 HB4.out.1 HB4.out.2.1 HB4.out.2.2.1 HB4.out.2.2.2).mono ?_); rintro e w5 ⟨rfl, t5⟩
                   have T5 := Lib.hid t5
                   clear t5))
              go_roundg g2'
              case measure => omega
              case rel => exact ⟨y + 1, _, by omega, by go_num, HG4.out, HO4.out, T5.out⟩
        | succ g1 =>
          have hkk : kk < R := by omega
          have hkk7 : kk ≤ 6 := by have := HR7.out; omega
          have i3 : IntKind.i64.wrap ((kk : Int) + 1) = (kk : Int) + 1 := w64 (by omega) (by omega)
          go_wp2
          clear hkk
          go_loopg [13] m1 (fun gh i w => ∃ (y : Nat) (q : List Fl) (W : Int), gh + y = m1 ∧ i = .int .i64 y ∧ Hid (Rnd q ready late y (99 - (kk : Int)) (49 - kk)) ∧ Hid (SdOk q W 1 ∧ 65535 - 10 * (kk : Int) - (y : Int) ≤ W ∧ W ≤ 65535) ∧
            Hid (St (fun _ => False) w1 w [SO p [] q W 1, QO 3 1 (.slice A1 m1 d1) ready.length (ready.map nv), QO 3 1 (.slice A2 m2 d2) late.length (late.map nv)]))
          case atStart => exact ⟨0, q2, W, by omega, rfl, HRn.out, ⟨HOk.out.1, by have := HOk.out.2.1; omega, HOk.out.2.2⟩, HS.out⟩
          case round =>
            clear HS HRn HOk HQi
            obtain ⟨y, q3, W3, hgy, rfl, HRn, HOk, HS⟩ := hrel
            cases gk with
            | zero =>
              obtain rfl : y = m1 := by omega
              clear hgy
              have hrn := HRn.out
              have e1 : (99 - (kk : Int)) = (99 - ((kk + 1 : Nat) : Int)) + 1 := by omega
              have e2 : 49 - kk = (49 - (kk + 1)) + 1 := by omega
              rw [e1, e2, ← HLn.out.1] at hrn
              obtain ⟨t1, t2⟩ := hrn.turn (by omega)
              have HT := Lib.hid (And.intro t1 t2)
              clear e1 e2 hrn t1 t2
              go_wp2
              go_roundg g1
              case measure => omega
              case rel => exact ⟨kk + 1, q3, W3, by omega, by go_num, HT.out.2, by rw [if_neg (by omega)]; exact HT.out.1, ⟨HOk.out.1, by have := HOk.out.2.1; have := HM.out.1; omega, HOk.out.2.2⟩, HS.out⟩
            | succ g2' =>
              have hy : y < m1 := by omega
              obtain ⟨id, hid⟩ : ∃ id, ready[y]? = some id := ⟨_, List.getElem?_eq_getElem (by rw [HLn.out.1]; omega)⟩
              have hm1 := HM.out.1
              have hW3 := HOk.out.2
              obtain ⟨q4, hnx, hr4⟩ := HRn.out.next (W := W3) (cap := (50 : Int).toNat) hid (by omega) (by decide) (by omega) (by omega)
              obtain ⟨W4, hW4⟩ : ∃ W4, W3 - ((1 : Nat) : Int) = W4 := ⟨_, rfl⟩
              have HOk4 : Hid (SdOk q4 W4 1 ∧ 65535 - 10 * (kk : Int) - ((y + 1 : Nat) : Int) ≤ W4 ∧ W4 ≤ 65535) := by
                have := HOk.out.1.next hnx (by omega)
                rw [hW4] at this
                exact ⟨this, by omega, by omega⟩
              have HNx := Lib.hid hnx
              have HR4 := Lib.hid hr4
              have HW4 := Lib.hid hW4
              have i4 : IntKind.i64.wrap ((y : Int) + 1) = (y : Int) + 1 := w64 (by omega) (by omega)
              obtain ⟨b, o, rfl⟩ := int_from11 [SO p [] q3 W3 1] [QO 3 1 (.slice A2 m2 d2) late.length (late.map nv)] HS.out (by rw [HLn.out.1]; omega)
              have HOn := HOk.out.1
              have HOn' := Lib.hid HOn
              have HI := Lib.hid hid
              clear hid hm1 hW3 hnx hr4 hW4 HOn
              go_upto_region 25 with (first
                | (go_at_call 11; (with_reducible refine (nextI HS.out HOn'.out 50 H50.out id 1 false q4 HNx.out W4 HW4.out (id : Int) 1 rfl rfl).mono ?_); rintro e w5 ⟨rfl, t5⟩
                   have t5' : St _ _ _ [SO p [] q4 W4 1, QO 3 1 (.slice (some ⟨b, o, none⟩) m1 d1) ready.length (ready.map nv), QO 3 1 (.slice A2 m2 d2) late.length (late.map nv), BLo w5.heap.size 35 [.slice none 0 0, .int .i64 (id : Int), .int .i64 1, .bool false]] := St.block t5 35 [.slice none 0 0, .int .i64 (id : Int), .int .i64 1, .bool false]
                   have T5 := Lib.hid t5'
                   clear t5 t5'))
              obtain ⟨rp, hrp⟩ : ∃ rp, w5.heap.size = rp := ⟨_, rfl⟩
              rw [hrp] at T5 ⊢
              obtain ⟨W5, hW5⟩ : ∃ W5, w5.alloc (.cells #[.slice none 0 0, .int .i64 (id : Int), .int .i64 1, .bool false] 35) = W5 := ⟨_, rfl⟩
              rw [hW5] at T5 ⊢
              obtain ⟨c1', l1⟩ := int_at11 [SO p [] q4 W4 1] [QO 3 1 (.slice A2 m2 d2) late.length (late.map nv), BLo rp 35 [.slice none 0 0, .int .i64 (id : Int), .int .i64 1, .bool false]] T5.out HLn.out.1 HI.out
              have bp := St.blk3 T5.out
              have p1 := bp.cell 1
              have p2 := bp.cell 2
              have p3 := bp.cell 3
              have pl := bp.lt
              simp only [List.getElem?_cons_zero, List.getElem?_cons_succ] at p1 p2 p3
              clear bp hrp hW5
              go_quiet (fail)
              have T6 := Lib.hid (St.drop3 (T5.out.drewN nq))
              go_wp2
              go_roundg g2'
              case measure => omega
              case rel => exact ⟨y + 1, q4, W4, by omega, by go_num, HR4.out, HOk4.out, T6.out⟩
    | succ g1 =>
      have hkN : k < N := by omega
      have hkn : k < nb := by have := HN.out; omega
      have hk10 : k < 10 := by have := HN.out; omega
      obtain ⟨b, hb⟩ : ∃ b, bs[k]? = some b := ⟨bs[k]'(by rw [Hn.out]; exact hkn), List.getElem?_eq_getElem _⟩
      have hrw := HS.out.rd (HR.out.below HB1.out) (fun _ _ h => h)
      obtain ⟨bb, o, rfl, hc⟩ := hrw.2 (by omega)
      have c1 : wr.cell? ⟨bb, o + k, none⟩ = some (.bool b) := hc _ _ (by rw [List.getElem?_map, hb]; rfl)
      have gl : bb < wr.heap.size := World.block_lt_of_cell? _ _ c1
      have i3 : IntKind.i64.wrap ((k : Int) + 1) = (k : Int) + 1 := w64 (by omega) (by omega)
      have hq := HBd.out.len
      have P1 : Hid (q.length < 1000) := by unfold Hid; omega
      have P2 : Hid ((((k + 1 : Nat)) : Int) = (k : Int) + 1) := by unfold Hid; omega
      have P3 : Hid (∀ f ∈ q, f.id ≠ k + 1) := fun f hf e => by have := HBd.out.ids_lt f hf; omega
      have P4 : Hid (1 ≤ k + 1 ∧ k + 1 ≤ 2147483647) := by unfold Hid; omega
      have P6 : Hid (∀ g ∈ q, (g.id : Int) ≠ (k : Int) + 1) := fun g hg e => by have := HBd.out.ids_lt g hg; omega
      have P7 : Hid (0 + 50 ≤ 2147483647) := by unfold Hid; decide
      have P9 : Hid (ready.length + 1 ≤ 1000000 ∧ late.length + 1 ≤ 1000000) := by unfold Hid; omega
      clear hrw hc hb
      cases b with
      | true =>
        have F1 := Lib.hid HBd.out.put1
        have P5 : Hid ((q ++ [(⟨k + 1, 100, 0, false⟩ : Fl)]).length ≤ 1000) := by unfold Hid; rw [List.length_append]; simp; omega
        obtain ⟨A4, d4, w4, hrun, h4⟩ := append_i [SO p [] q 65535 1] [QO 3 1 (.slice A2 m2 d2) late.length (late.map nv)] (HS.out.alloc (.cells #[.int .i64 (((k + 1 : Nat)) : Int)] 3)) [k + 1] (c := 1) (rd_nv1 wr (k + 1)) P9.out.1
        rw [HLn.out.1, P2.out] at hrun
        rw [HLn.out.1] at h4
        have HRun := Lib.hid hrun
        have T4 : Hid (St (fun _ => False) w1 w4 [SO p [] q 65535 1, QO 3 1 (.slice A4 (m1 + 1) d4) (ready ++ [k + 1]).length ((ready ++ [k + 1]).map nv), QO 3 1 (.slice A2 m2 d2) late.length (late.map nv)]) := Lib.hid h4
        have HLn2 : Hid ((ready ++ [k + 1]).length = m1 + 1 ∧ late.length = m2) := ⟨by rw [List.length_append, HLn.out.1]; rfl, HLn.out.2⟩
        clear hq hrun h4
        go_wp2_with (first
          | (at_builtin
             refine wpList_app_run rfl (.tmp 41) (.tmp 44) 23 23 rfl _ _ rfl rfl HRun.out ?_)
          | (go_at_call 14; (with_reducible refine (openI T4.out P1.out (k + 1) _ 100 P2.out P4.out.1 P4.out.2 (by decide) (by decide) P3.out _ rfl).mono ?_); rintro e w6 ⟨rfl, t6⟩
             have T6 := Lib.hid t6
             clear t6)
          | (go_at_call 15; (with_reducible refine (putI (a := q) (f := ⟨k + 1, 100, 0, false⟩) (b := []) T6.out P5.out _ rfl P2.out P6.out 50 50 rfl false rfl P7.out _ rfl).mono ?_); rintro e w7 ⟨rfl, t7⟩
             have T7 := Lib.hid t7
             clear t7))
        go_roundg g1
        case measure => omega
        case rel => exact ⟨k + 1, _, _, _, _, _, _, _, _, _, by omega, by go_num, rfl, rfl, HLn2.out, F1.out, T7.out⟩
      | false =>
        have F1 := Lib.hid HBd.out.put0
        have P5 : Hid ((q ++ [(⟨k + 1, 0, 0, false⟩ : Fl)]).length ≤ 1000) := by unfold Hid; rw [List.length_append]; simp; omega
        obtain ⟨A4, d4, w4, hrun, h4⟩ := append_i [SO p [] q 65535 1, QO 3 1 (.slice A1 m1 d1) ready.length (ready.map nv)] [] (HS.out.alloc (.cells #[.int .i64 (((k + 1 : Nat)) : Int)] 3)) [k + 1] (c := 1) (rd_nv1 wr (k + 1)) P9.out.2
        rw [HLn.out.2, P2.out] at hrun
        rw [HLn.out.2] at h4
        have HRun := Lib.hid hrun
        have T4 : Hid (St (fun _ => False) w1 w4 [SO p [] q 65535 1, QO 3 1 (.slice A1 m1 d1) ready.length (ready.map nv), QO 3 1 (.slice A4 (m2 + 1) d4) (late ++ [k + 1]).length ((late ++ [k + 1]).map nv)]) := Lib.hid h4
        have HLn2 : Hid (ready.length = m1 ∧ (late ++ [k + 1]).length = m2 + 1) := ⟨HLn.out.1, by rw [List.length_append, HLn.out.2]; rfl⟩
        clear hq hrun h4
        go_wp2_with (first
          | (at_builtin
             refine wpList_app_run rfl (.tmp 46) (.tmp 49) 23 23 rfl _ _ rfl rfl HRun.out ?_)
          | (go_at_call 14; (with_reducible refine (openI T4.out P1.out (k + 1) _ 0 P2.out P4.out.1 P4.out.2 (by decide) (by decide) P3.out _ rfl).mono ?_); rintro e w6 ⟨rfl, t6⟩
             have T6 := Lib.hid t6
             clear t6)
          | (go_at_call 15; (with_reducible refine (putI (a := q) (f := ⟨k + 1, 0, 0, false⟩) (b := []) T6.out P5.out _ rfl P2.out P6.out 50 50 rfl false rfl P7.out _ rfl).mono ?_); rintro e w7 ⟨rfl, t7⟩
             have T7 := Lib.hid t7
             clear t7))
        go_roundg g1
        case measure => omega
        case rel => exact ⟨k + 1, _, _, _, _, _, _, _, _, _, by omega, by go_num, rfl, rfl, HLn2.out, F1.out, T7.out⟩
theorem lawQueueH {w : World} {A : Option Addr} {n c : Nat} (h : HoldsT Try.prog w 9 54 [.slice A n c]) (rounds : Int) :
    Calls Try.prog 7 #[.slice A n c, .int .i64 rounds] w fun e w' => e = .returned (.bool true) ∧ Below w.heap.size w w' := by
  obtain ⟨l, hr, hn, _⟩ := bools_arg h
  exact lawQueue hr hn rounds
end Go.Proofs.Ytbjjphpkpmikjaa
