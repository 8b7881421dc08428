/- The law StreamRises: the walk. -/
import Derived.Test.YtdpheliekdgnhaaNiN
import Derived.Test.YtdpheliekdgnhaaNiI
namespace Go.Proofs.Ytdpheliekdgnhaa
open Go.RowKit Go.Own Go.Sm
set_option linter.unusedVariables false
set_option linter.unusedSimpArgs false
set_option maxRecDepth 100000
/-- behind a step -/
theorem class_last {x : Idv} {k : Nat} (h : IdOk x k) (h0 : 0 < x.last) : classV x x.last = 2 := by
  obtain ⟨a, b⟩ := h.l0
  unfold classV
  rw [if_neg (by omega), h.lp h0]
  simp
theorem class_own {x : Idv} {k : Nat} (h : IdOk x k) (h1 : x.next ≤ 2147483647) : classV { x with next := x.next + 2, ou := x.ou ++ [x.next] } x.next = 4 := by
  obtain ⟨a, b, c⟩ := h.nx
  unfold classV
  rw [if_neg (by omega)]
  simp only [c, cond_false]
  rw [if_neg (by omega)]
theorem class_own2 {x : Idv} {k : Nat} (h : IdOk x k) (h1 : x.next + 2 ≤ 2147483647) : classV { x with next := x.next + 2, ou := x.ou ++ [x.next] } (x.next + 2) = 3 := by
  obtain ⟨a, b, c⟩ := h.nx
  have e : thB x.srv (x.next + 2) = false := by rw [thB_two (by omega)]; exact c
  unfold classV
  rw [if_neg (by omega)]
  simp only [e, cond_false]
  rw [if_pos (by omega)]
theorem last_l {S : Nat → Prop} {w0 w : World} {L : List Ob} {p b1 b2 : Nat} {x : Idv} (s : St S w0 w (IdL p b1 b2 x L)) (z : Int) (hz : x.last = z) : Calls Try.prog 29 #[.pointer (some ⟨p, 0, none⟩)] w fun e w' => e = .returned (.int .i64 z) ∧ w' = w := by
  subst hz
  exact last_c s
set_option maxHeartbeats 8000000 in
theorem lawRises {w : World} (b : Bool) {A : Option Addr} {n c : Nat} (hl : HoldsT Try.prog w 9 42 [.slice A n c]) :
    Calls Try.prog 7 #[.bool b, .slice A n c] w fun e w' => e = .returned (.bool true) ∧ Below w.heap.size w w' := by
  have HN : Hid (newI b 1000 = ⟨b, 0, bif b then 2 else 1, 1000, 2147483647, [], []⟩) := rfl
  obtain ⟨nx, hnx⟩ : ∃ z : Int, (bif b then 2 else 1) = z := ⟨_, rfl⟩
  have h0 := newI_ok b 1000
  rw [HN.out, hnx] at h0
  have hn2 : nx ≤ 2 := by subst hnx; cases b <;> decide
  have HN2 : Hid (newI b 1000 = ⟨b, 0, nx, 1000, 2147483647, [], []⟩) := by unfold Hid; rw [HN.out, hnx]
  have H0 := Lib.hid h0
  have HL := Lib.hid hl
  obtain ⟨hnc, hcm, _⟩ := HoldsT.slice (d := 8) Try.underlying42 hl
  have hcases : (b = true ∧ nx = 2) ∨ (b = false ∧ nx = 1) := by subst hnx; cases b; exact .inr ⟨rfl, rfl⟩; exact .inl ⟨rfl, rfl⟩
  clear hl h0 HN hnx
  go_enter Try.func7, Try.ntmps7
  go_upto_if 21 with (first
    | (go_at_call 9; (with_reducible refine (shown_c _).mono ?_); rintro e w1 ⟨rfl, b1⟩; have B1 := Lib.hid b1; clear b1)
    | (go_at_call 13; (with_reducible refine (new_c _ b 1000 _ HN2.out).mono ?_); rintro e w2 ⟨p, s1, s2, rfl, t1⟩
       have T1 := Lib.hid t1
       clear t1))
  go_cut [7] (fun s wx => s = .int .i64 nx ∧ wx = w2)
  case first =>
    rcases hcases with ⟨rfl, rfl⟩ | ⟨rfl, rfl⟩
    all_goals
      go_wp2
      go_meet
      exact ⟨rfl, rfl⟩
  case rest =>
    obtain ⟨rfl, rfl⟩ := hcut
    clear hcases
    go_wp2
    go_loopg [9, 7, 8] (min n 100) (fun gh i ow la w' => ∃ (k : Nat) (x : Idv), gh + k = min n 100 ∧ i = .int .i64 (k : Int) ∧ ow = .int .i64 x.next ∧ la = .int .i64 x.last ∧ IdOk x k ∧ x.srv = b ∧ x.most = 1000 ∧ x.lim = 2147483647 ∧ x.next ≤ 2 + 2 * (k : Int) ∧ St (fun _ => False) w1 w' (IdL p s1 s2 x []))
    case atStart => exact ⟨0, _, by omega, rfl, rfl, rfl, H0.out, rfl, rfl, rfl, by show nx ≤ _; omega, T1.out⟩
    case round =>
      obtain ⟨k, x, hk, rfl, rfl, rfl, hok, hsrv, hmost, hlim, hnx2, hs⟩ := hrel
      have HS := Lib.hid hs
      have b2 := B1.out.trans (hs.below.mono B1.out.size)
      have B2 := Lib.hid b2
      clear hs
      cases gk with
      | zero =>
        have hk2 : (k = n ∧ ¬ k < n) ∨ (k < n ∧ k = 100) := by omega
        clear hk b2 hok hsrv hmost hlim hnx2
        rcases hk2 with ⟨rfl, h1⟩ | ⟨h1, rfl⟩
        all_goals
          go_wp2
          go_ret
          exact ⟨rfl, B2.out⟩
      | succ g1 =>
        have k1 : k < n := by omega
        have k2 : k < 100 := by omega
        obtain ⟨bl, o, kd, z, rfl, d0, d1, hkd, hz⟩ := op_at HL.out (i := k) k1
        have e0 := cell_to b2 d0
        have e1 := cell_to b2 d1
        have HZ := Lib.hid hz
        have HO := Lib.hid hok
        have HT : Hid (x.th.length < 1000000) := by unfold Hid; have := hok.sz; omega
        have HU : Hid (x.ou.length < 1000000) := by unfold Hid; have := hok.sz; omega
        obtain ⟨j1, j2⟩ := hok.l0
        have jn := hok.nx.1
        clear hz hkd d0 d1
        have endw : ∀ (y : Idv) (k' : Nat), IdOk y k' → (0 < y.last ∧ classV y y.last = 2) ∨ ¬ 0 < y.last := fun y k' hy => by
          by_cases h : 0 < y.last
          · exact .inl ⟨h, class_last hy h⟩
          · exact .inr h
        have hkd : kd = 1 ∨ (¬ kd = 1 ∧ kd = 2) ∨ (¬ kd = 1 ∧ ¬ kd = 2 ∧ kd = 3) ∨ (¬ kd = 1 ∧ ¬ kd = 2 ∧ ¬ kd = 3) := by omega
        rcases hkd with rfl | ⟨h1, rfl⟩ | ⟨h1, h2, rfl⟩ | ⟨h1, h2, h3⟩
        · -- Open
          obtain ⟨cl, hcl⟩ : ∃ c, classV x z = c := ⟨_, rfl⟩
          have HC := Lib.hid hcl
          have HNW : Hid (classV x z = 1 → ¬ z ∈ x.th) := fun h => HO.out.openNew h
          have ways : (x.last < z ∧ z ≤ 2147483647 ∧ ((z.tmod 2 == 1) == b) = true ∧ cl = 1) ∨
              (((¬ x.last < z) ∨ (x.last < z ∧ ¬ z ≤ 2147483647) ∨ (x.last < z ∧ z ≤ 2147483647 ∧ ((z.tmod 2 == 1) == b) = false)) ∧ (cl == 1) = false ∧ ¬ cl = 1) := by
            by_cases hc1 : cl = 1
            · rw [hc1] at hcl
              obtain ⟨u1, u2, u3, u4⟩ := class_one hcl
              refine .inl ⟨u4, u2, ?_, hc1⟩
              rw [thB_pos (by omega), ← hsrv]
              exact u3
            · refine .inr ⟨?_, by simpa using hc1, hc1⟩
              by_cases u1 : x.last < z
              · by_cases u2 : z ≤ 2147483647
                · right; right
                  refine ⟨u1, u2, ?_⟩
                  rcases hb : ((z.tmod 2 == 1) == b) with _ | _
                  · rfl
                  · exfalso
                    rw [thB_pos (by omega), ← hsrv] at hb
                    rw [class_mk (by omega) u2 hb u1] at hcl
                    exact hc1 hcl.symm
                · exact .inr (.inl ⟨u1, u2⟩)
              · exact .inl u1
          clear hcl
          have em : ∀ t, ((z.tmod 2 == 1) == b) = t → x.last < z → ((z % 2 == 1) == b) = t := fun t h h' => by
            rw [Int.tmod_eq_emod_of_nonneg (by omega)] at h
            exact h
          rcases ways with ⟨u1, u2, u3, rfl⟩ | ⟨u, u4, u5⟩
          · have u3' := em _ u3 u1
            clear em
            obtain ⟨y, hy⟩ : ∃ y, openS x z = y := ⟨_, rfl⟩
            have hf : openF x z = (false, 0, 0) := by
              have := hok.sz
              unfold openF
              rw [if_pos HC.out, if_neg (by rw [hmost]; omega)]
            have hy2 : y = { x with last := z, th := x.th ++ [z] } := by
              have := hok.sz
              rw [← hy]
              unfold openS
              rw [if_pos HC.out, if_neg (by rw [hmost]; omega)]
            have hoy := (HO.out.open_ z).1
            rw [hy] at hoy
            have HF := Lib.hid hf
            have HY := Lib.hid hy
            have hyl : y.last = z := by rw [hy2]
            have hyn : y.next = x.next := by rw [hy2]
            have hys : y.srv = b := by rw [hy2]; exact hsrv
            have hym : y.most = 1000 := by rw [hy2]; exact hmost
            have hyk : y.lim = 2147483647 := by rw [hy2]; exact hlim
            have h4 : 0 < z := by omega
            have HC2 : Hid (classV y z = 2) := by
              have := class_last hoy (by rw [hyl]; exact h4)
              rw [hyl] at this
              exact this
            have HYL := Lib.hid hyl
            have HOY := Lib.hid hoy
            have HR := Lib.hid (And.intro hyn (And.intro hys (And.intro hym hyk)))
            clear hf hy hy2 hoy hyl hyn hys hym hyk endw hok hsrv hmost hlim
            go_wp2_with (first
              | (go_at_call 25; (with_reducible refine (class_c HS.out _ _ HC.out).mono ?_); rintro e w3 ⟨rfl, rfl⟩)
              | (go_at_call 15; (with_reducible refine (open_l HS.out z HZ.out _ _ _ _ HF.out HY.out HT.out HNW.out).mono ?_); rintro e w4 ⟨rfl, t4⟩
                 have S4 := Lib.hid (St.alloc t4 (.cells #[.bool false, .int .u32 0, .int .i64 0] 50))
                 clear t4)
              | (go_at_call 29; (with_reducible refine (last_l S4.out _ HYL.out).mono ?_); rintro e w5 ⟨rfl, rfl⟩)
              | (go_at_call 25; (with_reducible refine (class_c S4.out _ _ HC2.out).mono ?_); rintro e w5 ⟨rfl, rfl⟩))
            obtain ⟨hyn, hys, hym, hyk⟩ := HR.out
            go_roundg g1
            case measure => omega
            case rel => exact ⟨k + 1, y, by omega, by go_num, by rw [hyn], by rw [HYL.out], HOY.out, hys, hym, hyk, by rw [hyn]; omega, S4.out⟩
          · have u' : (¬ x.last < z) ∨ (x.last < z ∧ ¬ z ≤ 2147483647) ∨ (x.last < z ∧ z ≤ 2147483647 ∧ ((z.tmod 2 == 1) == b) = false ∧ ((z % 2 == 1) == b) = false) := u.imp id (fun h => h.imp id (fun h => ⟨h.1, h.2.1, h.2.2, em _ h.2.2 h.1⟩))
            clear u em
            have hf : openF x z = (true, 1, 0) := by
              unfold openF
              rw [if_neg (by rw [HC.out]; exact u5)]
            have hy : openS x z = x := by
              unfold openS
              rw [if_neg (by rw [HC.out]; exact u5)]
            have HF := Lib.hid hf
            have HY := Lib.hid hy
            have hw := endw x k HO.out
            clear hf hy endw hok
            rcases hw with ⟨h4, h5⟩ | h4
            · have HC2 := Lib.hid h5
              clear h5
              rcases u' with u1 | ⟨u1, u2⟩ | ⟨u1, u2, u3, u3'⟩
              all_goals
                go_wp2_with (first
                  | (go_at_call 25; (with_reducible refine (class_c HS.out _ _ HC.out).mono ?_); rintro e w3 ⟨rfl, rfl⟩)
                  | (go_at_call 15; (with_reducible refine (open_l HS.out z HZ.out _ _ _ _ HF.out HY.out HT.out HNW.out).mono ?_); rintro e w4 ⟨rfl, t4⟩
                     have S4 := Lib.hid (St.alloc t4 (.cells #[.bool true, .int .u32 1, .int .i64 0] 50))
                     clear t4)
                  | (go_at_call 29; (with_reducible refine (last_l S4.out _ rfl).mono ?_); rintro e w5 ⟨rfl, rfl⟩)
                  | (go_at_call 25; (with_reducible refine (class_c S4.out _ _ HC2.out).mono ?_); rintro e w5 ⟨rfl, rfl⟩))
                go_roundg g1
                case measure => omega
                case rel => exact ⟨k + 1, x, by omega, by go_num, rfl, rfl, HO.out.mono (by omega), hsrv, hmost, hlim, by omega, S4.out⟩
            · rcases u' with u1 | ⟨u1, u2⟩ | ⟨u1, u2, u3, u3'⟩
              all_goals
                go_wp2_with (first
                  | (go_at_call 25; (with_reducible refine (class_c HS.out _ _ HC.out).mono ?_); rintro e w3 ⟨rfl, rfl⟩)
                  | (go_at_call 15; (with_reducible refine (open_l HS.out z HZ.out _ _ _ _ HF.out HY.out HT.out HNW.out).mono ?_); rintro e w4 ⟨rfl, t4⟩
                     have S4 := Lib.hid (St.alloc t4 (.cells #[.bool true, .int .u32 1, .int .i64 0] 50))
                     clear t4)
                  | (go_at_call 29; (with_reducible refine (last_l S4.out _ rfl).mono ?_); rintro e w5 ⟨rfl, rfl⟩))
                go_roundg g1
                case measure => omega
                case rel => exact ⟨k + 1, x, by omega, by go_num, rfl, rfl, HO.out.mono (by omega), hsrv, hmost, hlim, by omega, S4.out⟩
        · -- Next
          have hn := hok.nx
          have hsz := hok.sz
          have hf : nextV x = (x.next, 0) := by
            unfold nextV
            rw [if_neg (by rw [hlim]; omega), if_neg (by omega)]
          have hy : nextS x = { x with next := x.next + 2, ou := x.ou ++ [x.next] } := by
            unfold nextS
            rw [if_neg (by rw [hlim]; omega), if_neg (by omega)]
          have hoy := (HO.out.next_).1
          rw [hy] at hoy
          have C4 := Lib.hid (class_own HO.out (by omega))
          have C3 := Lib.hid (class_own2 HO.out (by omega))
          have HF := Lib.hid hf
          have HY := Lib.hid hy
          have HOY := Lib.hid hoy
          have HNN := Lib.hid hok.nextNew
          have HN0 : Hid (0 ≤ x.next) := by unfold Hid; omega
          have ew : IntKind.i64.wrap (x.next + 2) = x.next + 2 := by rw [IntKind.wrap_i64]; omega
          have hw := endw _ _ hoy
          clear hf hy hoy endw hok hn hsz
          rcases hw with ⟨h4, h5⟩ | h4
          · have HC2 := Lib.hid h5
            simp only at h4
            clear h5
            go_wp2_with (first
              | (go_at_call 17; (with_reducible refine (next_c HS.out _ _ _ HF.out HY.out HU.out HNN.out HN0.out).mono ?_); rintro e w4 ⟨rfl, t4⟩
                 have S4 := Lib.hid t4
                 clear t4)
              | (go_at_call 25; (with_reducible refine (class_c S4.out _ _ C4.out).mono ?_); rintro e w5 ⟨rfl, rfl⟩)
              | (go_at_call 25; (with_reducible refine (class_c S4.out _ _ C3.out).mono ?_); rintro e w5 ⟨rfl, rfl⟩)
              | (go_at_call 29; (with_reducible refine (last_l S4.out x.last rfl).mono ?_); rintro e w5 ⟨rfl, rfl⟩)
              | (go_at_call 25; (with_reducible refine (class_c S4.out x.last _ HC2.out).mono ?_); rintro e w5 ⟨rfl, rfl⟩))
            go_roundg g1
            case measure => omega
            case rel => exact ⟨k + 1, { x with next := x.next + 2, ou := x.ou ++ [x.next] }, by omega, by go_num, rfl, rfl, HOY.out, hsrv, hmost, hlim, by show x.next + 2 ≤ _; omega, S4.out⟩
          · simp only at h4
            go_wp2_with (first
              | (go_at_call 17; (with_reducible refine (next_c HS.out _ _ _ HF.out HY.out HU.out HNN.out HN0.out).mono ?_); rintro e w4 ⟨rfl, t4⟩
                 have S4 := Lib.hid t4
                 clear t4)
              | (go_at_call 25; (with_reducible refine (class_c S4.out _ _ C4.out).mono ?_); rintro e w5 ⟨rfl, rfl⟩)
              | (go_at_call 25; (with_reducible refine (class_c S4.out _ _ C3.out).mono ?_); rintro e w5 ⟨rfl, rfl⟩)
              | (go_at_call 29; (with_reducible refine (last_l S4.out x.last rfl).mono ?_); rintro e w5 ⟨rfl, rfl⟩))
            go_roundg g1
            case measure => omega
            case rel => exact ⟨k + 1, { x with next := x.next + 2, ou := x.ou ++ [x.next] }, by omega, by go_num, rfl, rfl, HOY.out, hsrv, hmost, hlim, by show x.next + 2 ≤ _; omega, S4.out⟩
        · -- Close
          obtain ⟨y, hy⟩ : ∃ y, closeS x z = y := ⟨_, rfl⟩
          obtain ⟨E, hE⟩ : ∃ E, closeE x z = E := ⟨_, rfl⟩
          have hc := HO.out.close_ z
          rw [hy] at hc
          obtain ⟨hoy, c1, c2, c3, c4, c5⟩ := hc
          have HY := Lib.hid hy
          have HE := Lib.hid hE
          have HOY := Lib.hid hoy
          have HYL := Lib.hid c2
          have HR := Lib.hid (And.intro c1 (And.intro c3 (And.intro c4 c5)))
          have hw := endw _ _ hoy
          rw [c2] at hw
          clear hy hE hoy endw hok c1 c2 c3 c4 c5
          rcases hw with ⟨h4, h5⟩ | h4
          · have HC2 := Lib.hid h5
            clear h5
            go_wp2_with (first
              | (go_at_call 19; (with_reducible refine (close_c HS.out z HZ.out _ _ HE.out HY.out).mono ?_); rintro e w4 ⟨rfl, t4⟩
                 have S4 := Lib.hid t4
                 clear t4)
              | (go_at_call 29; (with_reducible refine (last_l S4.out _ HYL.out).mono ?_); rintro e w5 ⟨rfl, rfl⟩)
              | (go_at_call 25; (with_reducible refine (class_c S4.out _ _ HC2.out).mono ?_); rintro e w5 ⟨rfl, rfl⟩))
            obtain ⟨c1, c3, c4, c5⟩ := HR.out
            go_roundg g1
            case measure => omega
            case rel => exact ⟨k + 1, y, by omega, by go_num, by rw [c3], by rw [HYL.out], HOY.out.mono (by omega), by rw [c1]; exact hsrv, by rw [c4]; exact hmost, by rw [c5]; exact hlim, by rw [c3]; omega, S4.out⟩
          · go_wp2_with (first
              | (go_at_call 19; (with_reducible refine (close_c HS.out z HZ.out _ _ HE.out HY.out).mono ?_); rintro e w4 ⟨rfl, t4⟩
                 have S4 := Lib.hid t4
                 clear t4)
              | (go_at_call 29; (with_reducible refine (last_l S4.out _ HYL.out).mono ?_); rintro e w5 ⟨rfl, rfl⟩))
            obtain ⟨c1, c3, c4, c5⟩ := HR.out
            go_roundg g1
            case measure => omega
            case rel => exact ⟨k + 1, y, by omega, by go_num, by rw [c3], by rw [HYL.out], HOY.out.mono (by omega), by rw [c1]; exact hsrv, by rw [c4]; exact hmost, by rw [c5]; exact hlim, by rw [c3]; omega, S4.out⟩
        · rcases endw x k HO.out with ⟨h4, h5⟩ | h4
          · have HC := Lib.hid h5
            clear h5 endw
            go_wp2_with (first
              | (go_at_call 29; (with_reducible refine (last_l HS.out _ rfl).mono ?_); rintro e w3 ⟨rfl, rfl⟩)
              | (go_at_call 25; (with_reducible refine (class_c HS.out _ _ HC.out).mono ?_); rintro e w3 ⟨rfl, rfl⟩))
            go_roundg g1
            case measure => omega
            case rel => exact ⟨k + 1, x, by omega, by go_num, rfl, rfl, HO.out.mono (by omega), hsrv, hmost, hlim, by omega, HS.out⟩
          · clear endw
            go_wp2_with (first
              | (go_at_call 29; (with_reducible refine (last_l HS.out _ rfl).mono ?_); rintro e w3 ⟨rfl, rfl⟩))
            go_roundg g1
            case measure => omega
            case rel => exact ⟨k + 1, x, by omega, by go_num, rfl, rfl, HO.out.mono (by omega), hsrv, hmost, hlim, by omega, HS.out⟩
end Go.Proofs.Ytdpheliekdgnhaa
