/- The law SchedFair: the walk. -/
import Derived.Test.YtbjjphpkpmikjaaKiU
import Derived.Test.YtbjjphpkpmikjaaKiW
namespace Go.Proofs.Ytbjjphpkpmikjaa
open Go.RowKit Go.Own Go.Sch
set_option linter.unusedVariables false
set_option linter.unusedSimpArgs false
set_option maxRecDepth 100000
set_option maxHeartbeats 16000000 in
theorem lawFair {w0 : World} {A : Option Addr} {n c : Nat} {l : List Rw} (most : Int) (hr : Rd w0 3 A n (rcells l)) (hn : l.length = n) :
    Calls Try.prog 4 #[.int .i64 most, .slice A n c] w0 fun e w' => e = .returned (.bool true) ∧ Below w0.heap.size w0 w' := by
  obtain ⟨x, hx⟩ : ∃ x, a14 most = x := ⟨_, rfl⟩
  have hx2 := a14_eq most
  rw [hx] at hx2
  have m1 := hx2.1
  have m2 : IntKind.i64.wrap (1 + (x : Int)) = 1 + (x : Int) := w64 (by omega) (by omega)
  obtain ⟨F, hF⟩ : ∃ F, frV (1 + (x : Int)) = F := ⟨_, rfl⟩
  have hF1 : 1 ≤ F ∧ F ≤ 16777215 := by rw [← hF]; exact frV_ok _
  have HF := Lib.hid hF
  have HF1 := Lib.hid hF1
  have HR := Lib.hid hr
  have Hn := Lib.hid hn
  have G1 : Hid ((65535 : Int) + 1073741824 = 1073807359) := by unfold Hid; decide
  have G2 : Hid (-2147483647 ≤ (65535 : Int) ∧ (65535 : Int) ≤ 2147483647 ∧ -2147483647 - (65535 : Int) ≤ 1073741824 ∧ (1073741824 : Int) ≤ 2147483647 - 65535) := by unfold Hid; decide
  clear hx hx2 hF hF1 hr hn
  go_enter Try.func4, Try.ntmps4
  go_upto_region 7 with (first
    | (go_at_call 8; (with_reducible refine (shown_c _).mono ?_); rintro e w1 ⟨rfl, hb1⟩
       have HB1 := Lib.hid hb1
       clear hb1)
    | (go_at_call 13; (with_reducible refine (new_c _ F HF.out).mono ?_); rintro e w2 ⟨p, rfl, t2⟩
       have T2 := Lib.hid t2
       clear t2)
    | (go_at_call 10; (with_reducible refine (grant0I T2.out 1073741824 1073807359 G1.out G2.out.1 G2.out.2.1 G2.out.2.2.1 G2.out.2.2.2).mono ?_); rintro e w3 ⟨rfl, t3⟩
       have T3 := Lib.hid t3
       clear t3))
  obtain ⟨r, hr⟩ : ∃ r, w3.heap.size = r := ⟨_, rfl⟩
  have t4 : St (fun _ => False) w1 ((w3.alloc (.cells zz30 41)).alloc (.cells zz30 41)) [SO p [] [] 1073807359 F, BLo r 41 ((List.replicate 30 0).map nv), BLo (r + 1) 41 ((List.replicate 30 0).map nv)] := by
    have h1 := St.block T3.out 41 ((List.replicate 30 0).map nv)
    have h2 := St.block h1 41 ((List.replicate 30 0).map nv)
    rw [World.size_alloc, hr] at h2
    exact h2
  rw [hr]
  obtain ⟨W4, hW4⟩ : ∃ W4, ((w3.alloc (.cells zz30 41)).alloc (.cells zz30 41)) = W4 := ⟨_, rfl⟩
  rw [hW4] at t4 ⊢
  have T4 := Lib.hid t4
  have HB := HB1
  clear t4 hW4 hr T2 T3 G1 G2 m1 m2 HF
  obtain ⟨N, hN⟩ : ∃ N, min 30 n = N := ⟨_, rfl⟩
  have HN := Lib.hid hN
  have FS := Lib.hid (Sch.Fair.start 1073807359 (by decide))
  clear hN
  go_upto_block 0 with (fail)
  go_cut [9] (fun nn wx => ∃ (q : List Fl) (left : List Nat), nn = .int .i64 N ∧ Hid (F2 N q left (List.replicate 30 0) 1073807359 F 30720) ∧ Hid (St (fun _ => False) w1 wx [SO p [] q 1073807359 F, BLo r 41 (left.map nv), BLo (r + 1) 41 ((List.replicate 30 0).map nv)]))
  case first =>
    go_wp2
    go_loopg [10, 9] N (fun gh i nn wr => ∃ (k : Nat) (q : List Fl) (left : List Nat), gh + k = N ∧ i = .int .i64 k ∧ nn = .int .i64 k ∧ Hid (Sch.Fair q left (List.replicate 30 0) 1073807359) ∧ Hid (q.length = k ∧ left.sum ≤ 1024 * k ∧ (∀ f ∈ q, f.id < 2 * k + 1) ∧ (∀ j : Nat, k ≤ j → j < 30 → left[j]? = some 0) ∧ ∀ f ∈ q, f.wait ≤ 1024 ∧ f.win = 1048576) ∧
      Hid (St (fun _ => False) w1 wr [SO p [] q 1073807359 F, BLo r 41 (left.map nv), BLo (r + 1) 41 ((List.replicate 30 0).map nv)]))
    case atStart => exact ⟨0, [], List.replicate 30 0, by omega, rfl, rfl, FS.out, ⟨rfl, by rw [sum_rep0]; omega, fun f hf => (by cases hf), fun j _ hj => by rw [List.getElem?_replicate, if_pos hj], fun f hf => (by cases hf)⟩, T4.out⟩
    case round =>
      obtain ⟨k, q, left, hgk, rfl, rfl, HFa, HI, HS⟩ := hrel
      clear T4 FS
      have hN := HN.out
      cases gk with
      | zero =>
        obtain rfl : k = N := by omega
        have hend : ¬ k < n ∨ (k < n ∧ ¬ k < 30) := by omega
        obtain ⟨u1, u2, u3, u4, u5⟩ := HI.out
        have H2 := Lib.hid (F2.start (N := k) HFa.out rfl (by omega) u2 u3 u4 u5 u1 (by decide) (by decide) HF1.out.1 HF1.out.2)
        clear hN hgk HFa HI u1 u2 u3 u4 u5
        rcases hend with h1 | ⟨h1, h2⟩
        all_goals
          go_wp2
          go_meet
          exact ⟨_, _, rfl, H2.out, HS.out⟩
      | succ g1 =>
        have hkn : k < n := by omega
        have hk30 : k < 30 := by omega
        obtain ⟨r', hr'⟩ : ∃ r', l[k]? = some r' := ⟨l[k]'(by rw [Hn.out]; exact hkn), List.getElem?_eq_getElem _⟩
        have hrw := HS.out.rd (HR.out.below HB1.out) (fun _ _ h => h)
        obtain ⟨b, o, rfl, hc⟩ := hrw.2 (by omega)
        have c1 : wr.cell? ⟨b, o + k * 3 + 1, none⟩ = some (.int .i64 r'.o) := by
          rw [Nat.add_assoc]
          exact hc _ _ (by rw [rcells_at l k r' 1 hr' (by omega)]; rfl)
        have gl : b < wr.heap.size := World.block_lt_of_cell? _ _ c1
        obtain ⟨ro, hro⟩ : ∃ ro, r'.o = ro := ⟨_, rfl⟩
        rw [hro] at c1
        obtain ⟨y, hy⟩ : ∃ y, a10 ro = y := ⟨_, rfl⟩
        have hy2 := a10_eq ro
        rw [hy] at hy2
        have m1 := hy2.1
        have m2 : IntKind.i64.wrap (1 + (y : Int)) = ((1 + y : Nat) : Int) := by rw [w64 (by omega) (by omega)]; omega
        obtain ⟨z, hz⟩ : ∃ z, 1 + y = z := ⟨_, rfl⟩
        rw [hz] at m2
        have i1 : IntKind.i64.wrap (2 * (k : Int)) = 2 * (k : Int) := w64 (by omega) (by omega)
        have i2 : IntKind.i64.wrap (2 * (k : Int) + 1) = 2 * (k : Int) + 1 := w64 (by omega) (by omega)
        have i3 : IntKind.i64.wrap ((k : Int) + 1) = (k : Int) + 1 := w64 (by omega) (by omega)
        obtain ⟨u1, u2, u3, u4, u5⟩ := HI.out
        obtain ⟨f1, f2⟩ := HFa.out.put (x := z) hk30 (u4 k (Nat.le_refl _) hk30) (by omega) (by omega) u3 (by omega)
        have bx := St.blk1 HS.out
        have b0 := bx.cell k
        rw [nv_at (u4 k (Nat.le_refl _) hk30)] at b0
        have bl := bx.lt
        have bf := bx.frozen k
        have t5 := St.set1 HS.out k (.int .i64 (z : Int))
        rw [nv_set] at t5
        have T5 := Lib.hid t5
        have F1 := Lib.hid f1
        have P1 : Hid (q.length < 1000) := by unfold Hid; omega
        have P2 : Hid ((((2 * k + 1 : Nat)) : Int) = 2 * (k : Int) + 1) := by unfold Hid; omega
        have P3 : Hid (∀ f ∈ q, f.id ≠ 2 * k + 1) := fun f hf e => by have := u3 f hf; omega
        have P4 : Hid (1 ≤ 2 * k + 1 ∧ 2 * k + 1 ≤ 2147483647 ∧ -2147483647 ≤ (1048576 : Int) ∧ (1048576 : Int) ≤ 2147483647) := by unfold Hid; omega
        have P5 : Hid ((q ++ [(⟨2 * k + 1, 1048576, 0, false⟩ : Fl)]).length ≤ 1000) := by unfold Hid; rw [List.length_append]; simp; omega
        have P6 : Hid (∀ g ∈ q, (g.id : Int) ≠ 2 * (k : Int) + 1) := fun g hg e => by have := u3 g hg; omega
        have P7 : Hid (0 + z ≤ 2147483647) := by unfold Hid; omega
        have P8 : Hid (q ++ (⟨2 * k + 1, 1048576, 0 + z, true⟩ : Fl) :: [] = q ++ [⟨2 * k + 1, 1048576, z, true⟩]) := by unfold Hid; rw [Nat.zero_add]
        have HI2 : Hid ((q ++ [(⟨2 * k + 1, 1048576, z, true⟩ : Fl)]).length = k + 1 ∧ (left.set k z).sum ≤ 1024 * (k + 1) ∧ (∀ f ∈ q ++ [(⟨2 * k + 1, 1048576, z, true⟩ : Fl)], f.id < 2 * (k + 1) + 1) ∧ (∀ j : Nat, k + 1 ≤ j → j < 30 → (left.set k z)[j]? = some 0) ∧ ∀ f ∈ q ++ [(⟨2 * k + 1, 1048576, z, true⟩ : Fl)], f.wait ≤ 1024 ∧ f.win = 1048576) := by
          refine ⟨by rw [List.length_append, u1]; rfl, by omega, fun f hf => ?_, fun j h1 h2 => by rw [List.getElem?_set_ne (by omega)]; exact u4 j (by omega) h2, fun f hf => ?_⟩
          · rcases List.mem_append.1 hf with hf | hf
            · have := u3 f hf; omega
            · rw [List.mem_singleton.1 hf]; show 2 * k + 1 < _; omega
          · rcases List.mem_append.1 hf with hf | hf
            · exact u5 f hf
            · rw [List.mem_singleton.1 hf]; exact ⟨by show z ≤ 1024; omega, rfl⟩
        clear hrw hc hr' hro hy hy2 hz u1 u2 u3 u4 u5 f1 f2 t5 bx hN
        go_upto_region 12 with (fail)
        obtain ⟨W5, hW5⟩ : ∃ W5, wr.setCell ⟨r, k, none⟩ (.int .i64 (z : Int)) = W5 := ⟨_, rfl⟩
        rw [hW5] at T5 ⊢
        clear c1 gl b0 bl bf hW5 m1 m2
        go_wp2_with (first
          | (go_at_call 14; (with_reducible refine (openI T5.out P1.out (2 * k + 1) _ 1048576 P2.out P4.out.1 P4.out.2.1 P4.out.2.2.1 P4.out.2.2.2 P3.out _ rfl).mono ?_); rintro e w6 ⟨rfl, t6⟩
             have T6 := Lib.hid t6
             have bx := St.blk1 t6
             have b0 := bx.cell k
             rw [nv_at (l := left.set k z) (x := z) (by rw [List.getElem?_set_self (by rw [HFa.out.ll]; omega)])] at b0
             have bl := bx.lt
             clear t6 bx)
          | (go_at_call 15; (with_reducible refine (putI (a := q) (f := ⟨2 * k + 1, 1048576, 0, false⟩) (b := []) T6.out P5.out _ rfl P2.out P6.out z _ rfl true rfl P7.out _ P8.out).mono ?_); rintro e w7 ⟨rfl, t7⟩
             have T7 := Lib.hid t7
             clear t7 b0 bl))
        go_roundg g1
        case measure => omega
        case rel => exact ⟨k + 1, _, _, by omega, by go_num, by go_num, F1.out, HI2.out, T7.out⟩

  case rest =>
    obtain ⟨q0, left0, rfl, H2, HS⟩ := hcut
    have hN30 : N ≤ 30 := by have := HN.out; omega
    clear T4 FS
    go_upto_block 2 with (fail)
    go_cut [11] (fun _ wx => ∃ (left turn : List Nat) (W : Int), Hid (left.length = 30 ∧ ∀ (j x : Nat), left[j]? = some x → x = 0) ∧ Hid (St (fun _ => False) w1 wx [SO p [] [] W F, BLo r 41 (left.map nv), BLo (r + 1) 41 (turn.map nv)]))
    case first =>
      go_wp2
      go_loopg [11] 30720 (fun gh i w => ∃ (j : Nat) (q : List Fl) (left turn : List Nat) (W : Int), gh + j = 30720 ∧ i = .int .i64 j ∧ Hid (F2 N q left turn W F gh) ∧ Hid (St (fun _ => False) w1 w [SO p [] q W F, BLo r 41 (left.map nv), BLo (r + 1) 41 (turn.map nv)]))
      case atStart => exact ⟨0, _, _, _, _, rfl, rfl, H2.out, HS.out⟩
      case round =>
        clear HS H2
        obtain ⟨j, q, left, turn, W, hgj, rfl, H2, HS⟩ := hrel
        have HCap : Hid ((-9223372036854775808 : Int) ≤ 100000 ∧ (100000 : Int) ≤ 9223372036854775807) := by unfold Hid; decide
        cases q with
        | nil =>
          have HD : Hid (left.length = 30 ∧ ∀ (j x : Nat), left[j]? = some x → x = 0) := ⟨H2.out.fair.ll, H2.out.fair.done⟩
          have HOk := Lib.hid H2.out.ok
          have HNq : Hid (nextQ W F (100000 : Int).toNat [] = none) := rfl
          clear H2
          cases gk with
          | zero =>
            obtain rfl : j = 30720 := by omega
            clear hgj
            go_wp2
            go_meet
            exact ⟨left, turn, W, HD.out, HS.out⟩
          | succ g1 =>
            have hj : (j : Int) < 30720 := by omega
            go_upto_region 18 with (fail)
            clear hj hgj
            go_wp2_with (first
              | (go_at_call 11; (with_reducible refine (next_none HS.out HOk.out 100000 HCap.out HNq.out).mono ?_); rintro e w5 ⟨rfl, t5⟩
                 have T5 := Lib.hid (St.alloc t5 (.cells #[.slice none 0 0, .int .i64 0, .int .i64 0, .bool false] 35))
                 clear t5))
            go_meet
            exact ⟨left, turn, W, HD.out, T5.out⟩
        | cons f rr =>
          obtain ⟨k, m, t, wt, lm, q', g1', g2, g3, g4, g5, g6, g7, g8, g9, g10, g11, g12, g13⟩ := H2.out.next
          cases gk with
          | zero => omega
          | succ g1 =>
            have hj : (j : Int) < 30720 := by omega
            have i3 : IntKind.i64.wrap ((j : Int) + 1) = (j : Int) + 1 := w64 (by omega) (by omega)
            obtain ⟨idI, hid⟩ : ∃ idI, ((2 * k + 1 : Nat) : Int) = idI := ⟨_, rfl⟩
            obtain ⟨W', hW'⟩ : ∃ W', W - (m : Int) = W' := ⟨_, rfl⟩
            obtain ⟨ze, hze⟩ : ∃ ze, decide (lm = 0) = ze := ⟨_, rfl⟩
            obtain ⟨t1, ht1⟩ : ∃ t1, t + 1 = t1 := ⟨_, rfl⟩
            rw [hze] at g11
            rw [hW', ht1] at g12
            rw [ht1] at g13
            have q1 : idI.tdiv 2 = (k : Int) := by rw [Int.tdiv_eq_ediv_of_nonneg (by omega)]; omega
            have q2 : idI / 2 = (k : Int) := by omega
            have q3 : ¬ idI < 1 := by omega
            have q4 : ¬ (m : Int) < 1 := by omega
            have q5 : ¬ (N : Int) ≤ (k : Int) := by omega
            have q6 : IntKind.i64.wrap (k : Int) = (k : Int) := w64 (by omega) (by omega)
            have q7 : IntKind.i64.wrap ((t : Int) + 1) = (t1 : Int) := by rw [w64 (by omega) (by omega)]; omega
            have q8 : IntKind.i64.wrap ((wt : Int) - (m : Int)) = (lm : Int) := by rw [w64 (by omega) (by omega)]; omega
            have q9 : ((lm : Int) == 0) = ze := by rw [← hze, Bool.eq_iff_iff]; simp
            have HN1 := Lib.hid g11
            have HI1 := Lib.hid hid
            have HOk := Lib.hid H2.out.ok
            have HWW := Lib.hid hW'
            have H12 : Hid (F2 N q' (left.set k lm) (turn.set k t1) W' F g1) := g12
            have H13 := Lib.hid g13
            have H3 := Lib.hid g3
            have H8 := Lib.hid g8
            have HL30 := Lib.hid (And.intro H2.out.fair.ll H2.out.fair.lt)
            have hgg : g1 + (j + 1) = 30720 := by omega
            clear H2 g1' g3 g4 g5 g6 g7 g8 g9 g10 g11 g12 g13 hid hW' hze hgj ht1
            go_upto_region 18 with (fail)
            clear hj
            go_upto_region 23 with (first
              | (go_at_call 11; (with_reducible refine (nextI HS.out HOk.out 100000 HCap.out (2 * k + 1) m ze q' HN1.out W' HWW.out idI _ HI1.out rfl).mono ?_); rintro e w5 ⟨rfl, t5⟩
                 have t5' : St _ _ _ [SO p [] q' W' F, BLo r 41 (left.map nv), BLo (r + 1) 41 (turn.map nv), BLo w5.heap.size 35 [.slice none 0 0, .int .i64 idI, .int .i64 (m : Int), .bool ze]] := St.block t5 35 [.slice none 0 0, .int .i64 idI, .int .i64 (m : Int), .bool ze]
                 have T5 := Lib.hid t5'
                 have r5 : w5.heap.size < w5.heap.size + 1 := by omega
                 clear t5 t5'))
            obtain ⟨rp, hrp⟩ : ∃ rp, w5.heap.size = rp := ⟨_, rfl⟩
            rw [hrp] at T5 ⊢
            obtain ⟨W5, hW5⟩ : ∃ W5, w5.alloc (.cells #[.slice none 0 0, .int .i64 idI, .int .i64 (m : Int), .bool ze] 35) = W5 := ⟨_, rfl⟩
            rw [hW5] at T5 ⊢
            clear r5 hrp hW5 q1 q2 q3 q4 q5 q6
            have bt := St.blk2 T5.out
            have b0 := bt.cell k
            rw [nv_at H8.out] at b0
            have bl := bt.lt
            have bf := bt.frozen k
            have T6 : Hid (St _ _ _ _) := Lib.hid (St.set2 T5.out k (.int .i64 (t1 : Int)))
            rw [nv_set] at T6
            clear bt T5
            go_upto_region 24 with (fail)
            obtain ⟨W6, hW6⟩ : ∃ W6, W5.setCell ⟨r + 1, k, none⟩ (.int .i64 (t1 : Int)) = W6 := ⟨_, rfl⟩
            rw [hW6] at T6 ⊢
            clear b0 bl bf hW6 q7
            have bt := St.blk1 T6.out
            have b0 := bt.cell k
            rw [nv_at H3.out] at b0
            have bl := bt.lt
            have bf := bt.frozen k
            have bp := St.blk3 T6.out
            have p2 := bp.cell 2
            have p3 := bp.cell 3
            have pl := bp.lt
            simp only [List.getElem?_cons_zero, List.getElem?_cons_succ] at p2 p3
            have T7 : Hid (St _ _ _ _) := Lib.hid (St.set1 T6.out k (.int .i64 (lm : Int))).drew
            rw [nv_set] at T7
            clear bt T6 bp
            go_cut [107] (fun _ wx => wx = (W6.setCell ⟨r, k, none⟩ (.int .i64 (lm : Int))).drew)
            case first =>
              go_region_with (fail)
              all_goals
                go_wp2
                go_meet
                rfl
            case rest =>
              subst hcut
              obtain ⟨W7, hW7⟩ : ∃ W7, (W6.setCell ⟨r, k, none⟩ (.int .i64 (lm : Int))).drew = W7 := ⟨_, rfl⟩
              rw [hW7] at T7 ⊢
              clear b0 bl bf p2 p3 pl hW7 q8
              have bt := St.blk1 T7.out
              have b0 := bt.cell k
              rw [nv_at (l := left.set k lm) (x := lm) (List.getElem?_set_self (by rw [HL30.out.1]; exact g2))] at b0
              have bl := bt.lt
              have bp := St.blk3 T7.out
              have p3 := bp.cell 3
              have pl := bp.lt
              simp only [List.getElem?_cons_zero, List.getElem?_cons_succ] at p3
              clear bt bp
              go_upto_region 25 with (fail)
              have q10 : (k : Int) < 30 := by omega
              refine wp_region_still_lit (by kernel_rfl) (by kernel_rfl) ?_
              iterate 7 still_step
              refine wpStill_nil ?_
              go_wp2
              clear b0 bl p3 pl q9 q10
              have T8 := Lib.hid T7.out.drew
              go_loopg [15] N (fun gh i w => ∃ (y : Nat), gh + y = N ∧ i = .int .i64 y ∧ Hid (St (fun _ => False) w1 w [SO p [] q' W' F, BLo r 41 ((left.set k lm).map nv), BLo (r + 1) 41 ((turn.set k t1).map nv), BLo rp 35 [.slice none 0 0, .int .i64 idI, .int .i64 (m : Int), .bool ze]]))
              case atStart => exact ⟨0, by omega, rfl, T8.out⟩
              case round =>
                clear T7 T8
                obtain ⟨y, hgy, rfl, HS9⟩ := hrel
                cases gk with
                | zero =>
                  obtain rfl : y = N := by omega
                  clear hgy
                  go_wp2
                  go_roundg g1
                  case measure => omega
                  case rel => exact ⟨j + 1, q', _, _, W', hgg, by go_num, H12.out, St.drop3 HS9.out⟩
                | succ g2' =>
                  have hyN : y < N := by omega
                  have hy30 : (y : Int) < 30 := by omega
                  have hk30 : (k : Int) < 30 := by omega
                  obtain ⟨a, ha⟩ : ∃ a, (left.set k lm)[y]? = some a := ⟨_, List.getElem?_eq_getElem (by rw [List.length_set, HL30.out.1]; omega)⟩
                  obtain ⟨b, hb⟩ : ∃ b, (turn.set k t1)[y]? = some b := ⟨_, List.getElem?_eq_getElem (by rw [List.length_set, HL30.out.2]; omega)⟩
                  have hb9 := H12.out.tb y b hb
                  have hab := H13.out y a b ha
                  have b1 := St.blk1 HS9.out
                  have b2 := St.blk2 HS9.out
                  have c0 := b1.cell y
                  rw [nv_at ha] at c0
                  have c1 := b2.cell k
                  rw [nv_at (l := turn.set k t1) (x := t1) (List.getElem?_set_self (by rw [HL30.out.2]; exact g2))] at c1
                  have c2 := b2.cell y
                  rw [nv_at hb] at c2
                  have l1 := b1.lt
                  have l2 := b2.lt
                  have w1' : IntKind.i64.wrap ((b : Int) + 1) = (b : Int) + 1 := w64 (by omega) (by omega)
                  have w2' : IntKind.i64.wrap ((y : Int) + 1) = (y : Int) + 1 := w64 (by omega) (by omega)
                  have HS10 := Lib.hid HS9.out.drew
                  have key : a = 0 ∨ (0 < a ∧ ¬ ((b : Int) + 1 < (t1 : Int))) := by
                    rcases Nat.eq_zero_or_pos a with h | h
                    · exact .inl h
                    · right
                      have := hab h hb
                      exact ⟨h, by omega⟩
                  clear hab hb9 ha hb b1 b2
                  rcases key with rfl | ⟨ha, hlt⟩
                  all_goals
                    go_upto_region 30 with (fail)
                    go_quiet (fail)
                    have HS11 := Lib.hid (HS9.out.drewN nq)
                    go_wp2
                    go_roundg g2'
                    case measure => omega
                    case rel => exact ⟨y + 1, by omega, by go_num, HS11.out⟩
    case rest =>
      obtain ⟨left, turn, W, HD, HS3⟩ := hcut
      clear H2 HS
      go_wp2
      go_loopg [16] N (fun gh i w => ∃ (y : Nat), gh + y = N ∧ i = .int .i64 y ∧ Hid (St (fun _ => False) w1 w [SO p [] [] W F, BLo r 41 (left.map nv), BLo (r + 1) 41 (turn.map nv)]))
      case atStart => exact ⟨0, by omega, rfl, HS3.out⟩
      case round =>
        clear HS3
        obtain ⟨y, hgy, rfl, HS9⟩ := hrel
        cases gk with
        | zero =>
          obtain rfl : y = N := by omega
          clear hgy
          go_wp2_with (first
            | (go_at_call 16; (with_reducible refine (len_c HS9.out).mono ?_); rintro e w5 ⟨rfl, hw5⟩; subst hw5))
          go_ret
          exact ⟨rfl, HB.out.trans ((HS9.out.drew).below.mono HB.out.size)⟩
        | succ g2' =>
          have hyN : y < N := by omega
          have hy30 : (y : Int) < 30 := by omega
          obtain ⟨a, ha⟩ : ∃ a, left[y]? = some a := ⟨_, List.getElem?_eq_getElem (by rw [HD.out.1]; omega)⟩
          have ha0 := HD.out.2 y a ha
          subst ha0
          have b1 := St.blk1 HS9.out
          have c0 := b1.cell y
          rw [nv_at ha] at c0
          have l1 := b1.lt
          have w2' : IntKind.i64.wrap ((y : Int) + 1) = (y : Int) + 1 := w64 (by omega) (by omega)
          clear ha b1
          go_wp2
          go_roundg g2'
          case measure => omega
          case rel => exact ⟨y + 1, by omega, by go_num, HS9.out⟩
theorem lawFairH {w : World} {A : Option Addr} {n c : Nat} (most : Int) (h : HoldsT Try.prog w 9 22 [.slice A n c]) :
    Calls Try.prog 4 #[.int .i64 most, .slice A n c] w fun e w' => e = .returned (.bool true) ∧ Below w.heap.size w w' := by
  obtain ⟨l, hr, hn, _⟩ := flows_arg h
  exact lawFair most hr hn
end Go.Proofs.Ytbjjphpkpmikjaa
