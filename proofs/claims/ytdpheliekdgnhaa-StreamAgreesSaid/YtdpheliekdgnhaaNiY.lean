/- The law StreamAgrees: the walk. -/
import Derived.Test.YtdpheliekdgnhaaNiX
import Derived.Deep.RegionHeld
namespace Go.Proofs.Ytdpheliekdgnhaa
open Go.RowKit Go.Own Go.Sm
set_option linter.unusedVariables false
set_option linter.unusedSimpArgs false
set_option maxRecDepth 100000
abbrev cq (q : List (Int × Bool)) : List Cl := q.map fun f => cls f.1 f.2
theorem ofInt64y (n : Nat) (h : n < 18446744073709551616) : (BitVec.ofInt 64 (n : Int)).toNat = n := by
  rw [BitVec.toNat_ofInt]; omega
theorem and_one9 (j : Nat) (hj : j < 1000) : bits .and .i64 (j : Int) 1 = ((j % 2 : Nat) : Int) := by
  have e : bits .and .i64 (j : Int) 1 = IntKind.i64.wrap ((BitVec.ofInt 64 (j : Int) &&& BitVec.ofInt 64 ((1 : Nat) : Int)).toNat : Int) := rfl
  rw [e, BitVec.toNat_and, ofInt64y j (by omega), ofInt64y 1 (by omega), Nat.and_one_is_mod, IntKind.wrap_i64]
  omega
theorem cls_r (k : Int) (e : Bool) : (cls k e == .r) = (k == 3) := by
  by_cases h : k = 3
  · subst h; rfl
  · have h1 : (k == 3) = false := by simpa using h
    rw [h1]
    unfold cls
    cases e <;> (repeat' split) <;> first | rfl | (exfalso; exact h (by assumption))
theorem info9 : (Try.prog.info? 39).map (fun i => (i.zero, i.size, i.bytes)) = some (some (.agg #[.int .i64 0, .bool false]), 2, 16) := by kernel_rfl
theorem rd_one_s {w : World} {g : Nat} {k : Int} {e : Bool} (h : Blk w g 39 [.int .i64 k, .bool e]) : Rd w 2 (some ⟨g, 0, none⟩) 1 (qC [(k, e)]) := by
  have := Rd.of_blk (n := 1) (size := 2) h (by simp)
  simpa [qC] using this
theorem step_append_q {w : World} {ops : Array Oper} {o : Oper} {a : Act} {K : Act → World → Prop} {Q : Exit → Act → World → Prop} {E' : Prop} (hgd : o.guard = none) (s x : Operand)
    (ho : o.op = .call { callee := .builtin .append, args := #[s, x], argTypes := #[31, 31] }) {v : Value} {F : Nat → Prop} {q : List (Int × Bool)} (hs : a.eval s = v) (hq : Qu 39 2 w v F q.length (qC q))
    (g c : Nat) (k : Int) (e : Bool) (hx : a.eval x = .slice (some ⟨g, 0, none⟩) 1 c) (hr : Rd w 2 (some ⟨g, 0, none⟩) 1 (qC [(k, e)])) (hl : q.length < 1000)
    (h : ∀ A' c' w' F', Qu 39 2 w' (.slice A' (q.length + 1) c') F' (q ++ [(k, e)]).length (qC (q ++ [(k, e)])) → Fr F w w' → (∀ i, F' i → F i ∨ w.heap.size ≤ i) → K (a.put o.dst (.slice A' (q.length + 1) c')) w') :
    if Region.wanted o (yielded ops a.tmps) = true then Oper.wp Try.prog o a w K Q else E' := by
  have hw : Region.wanted o (yielded ops a.tmps) = true := by simp [Region.wanted, hgd]
  rw [if_pos hw]
  have hone : ∀ u, u ∈ qC [(k, e)] → u.oneCell' = true := by
    intro u hu
    simp [qC] at hu
    rcases hu with rfl | rfl <;> rfl
  obtain ⟨A', c', w', F', hrun, h2, h3, h4⟩ := run_append_qu (ty := o.type) (c := c) Try.underlying31 info9 rfl (by omega) (by intro u hu; simp [Value.cells] at hu; rcases hu with rfl | rfl <;> rfl) hq hr hone (by omega) (by omega)
  unfold Oper.wp execOp
  simp only [ho, resolve, invoke, builtin, Sem.run_bind, Sem.run_pure, Result.andThen_ok, List.map_toArray, List.map_cons, List.map_nil, hs, hx, hrun]
  refine h A' c' w' F' ?_ h3 h4
  rw [List.length_append, qC_app]
  exact h2
theorem rd_new_s {S : Nat → Prop} {w0 W : World} {L : List Ob} {k : Int} {e : Bool} (s : St S w0 (W.alloc (.cells #[.int .i64 k, .bool e] 39)).drew L) : Rd (W.alloc (.cells #[.int .i64 k, .bool e] 39)).drew 2 (some ⟨W.heap.size, 0, none⟩) 1 (qC [(k, e)]) := rd_one_s (Blk.drew (Blk.new W 39 [.int .i64 k, .bool e]))
section
variable {S : Nat → Prop} {w0 w w' : World} {L : List Ob} {p : Nat} {a b : S7} {v0 v1 : Value} {q0 q1 : List (Int × Bool)}
theorem app0 {F F' : Nat → Prop} {V : Value} {n : Nat} {xs : List Value} (s : St S w0 w (BLo p 34 [.int .i64 a.num, .int .i64 b.num, v0, v1] :: QO 39 2 v0 q0.length (qC q0) :: L)) (hF : ∀ G, Qu 39 2 w v0 G q0.length (qC q0) → ∀ i, F i → G i) (h2 : Qu 39 2 w' V F' n xs) (hf : Fr F w w') (h4 : ∀ i, F' i → F i ∨ w.heap.size ≤ i) :
    St S w0 w' (BLo p 34 [.int .i64 a.num, .int .i64 b.num, v0, v1] :: QO 39 2 V n xs :: L) := by
  obtain ⟨G, hG, _, _, go⟩ := St.focus1 s
  have := go w' (QO 39 2 V n xs) [] (St.changed (framed_QO ..) h2 (fun i hi => (h4 i hi).imp (hF G hG i) id) (hf.mono fun i _ hi => hF G hG i hi))
  rwa [List.append_nil] at this
theorem app1 {F F' : Nat → Prop} {V : Value} {n : Nat} {xs : List Value} {O : Ob} (s : St S w0 w (BLo p 34 [.int .i64 a.num, .int .i64 b.num, v0, v1] :: O :: QO 39 2 v1 q1.length (qC q1) :: L)) (hF : ∀ G, Qu 39 2 w v1 G q1.length (qC q1) → ∀ i, F i → G i) (h2 : Qu 39 2 w' V F' n xs) (hf : Fr F w w') (h4 : ∀ i, F' i → F i ∨ w.heap.size ≤ i) :
    St S w0 w' (BLo p 34 [.int .i64 a.num, .int .i64 b.num, v0, v1] :: O :: QO 39 2 V n xs :: L) := by
  obtain ⟨G, hG, _, _, go⟩ := St.focus2 s
  have := go w' (QO 39 2 V n xs) [] (St.changed (framed_QO ..) h2 (fun i hi => (h4 i hi).imp (hF G hG i) id) (hf.mono fun i _ hi => hF G hG i hi))
  rwa [List.append_nil] at this
end
theorem qu_same {w : World} {v : Value} {G F : Nat → Prop} {n : Nat} {xs : List Value} (h : Qu 39 2 w v F n xs) (k : Qu 39 2 w v G n xs) : ∀ i, F i → G i := by
  rcases h with ⟨rfl, _, _, rfl⟩ | ⟨g, o, c, cur, rfl, _, _, _, _, _, _, _, rfl⟩
  · exact fun i h => h.elim
  · rcases k with ⟨h, _⟩ | ⟨g', o', c', cur', h, _, _, _, _, _, _, _, rfl⟩
    · cases h
    · injection h with h
      injection h with h
      injection h with h
      subst h
      exact fun i h => h
set_option maxHeartbeats 16000000 in
theorem lawAgrees {w : World} {A : Option Addr} {n c : Nat} (hl : HoldsT Try.prog w 9 28 [.slice A n c]) :
    Calls Try.prog 4 #[.slice A n c] w fun e w' => e = .returned (.bool true) ∧ Below w.heap.size w w' := by
  have HL := Lib.hid hl
  obtain ⟨hnc, hcm, _⟩ := HoldsT.slice (d := 8) Try.underlying28 hl
  clear hl
  go_enter Try.func4, Try.ntmps4
  go_wp2_with (first
    | (go_at_call 9; (with_reducible refine (shown_c _).mono ?_); rintro e w1 ⟨rfl, b1⟩
       have B1 := Lib.hid b1
       have t1 : St (fun _ => False) w1 (w1.alloc (.cells #[.int .i64 0, .int .i64 0, .slice none 0 0, .slice none 0 0] 34)) (LnL w1.heap.size .idle .idle (.slice none 0 0) (.slice none 0 0) [] [] []) := by
         refine St.add (St.block (St.nil (fun _ => False) w1) 34 [.int .i64 S7.idle.num, .int .i64 S7.idle.num, .slice none 0 0, .slice none 0 0]) (M := [QO 39 2 (.slice none 0 0) 0 [], QO 39 2 (.slice none 0 0) 0 []]) ?_
         have hq : ∀ W, Qu 39 2 W (.slice none 0 0) (fun _ => False) 0 [] := fun W => .inl ⟨rfl, rfl, rfl, rfl⟩
         exact ⟨⟨_, ⟨_, _, framed_QO .., hq _, ⟨_, _, framed_QO .., hq _, rfl, fun _ h => h.elim, rfl⟩, fun _ h => h.elim, rfl⟩, fun i hi => by rcases hi with hi | hi | hi <;> exact hi.elim⟩, Fr.refl _ _⟩
       have T1 := Lib.hid t1
       clear b1 t1))
  go_loopg [6, 5] (min n 200) (fun gh i rs w' => ∃ (k : Nat) (a b : S7) (v0 v1 : Value) (q0 q1 : List (Int × Bool)) (r : Bool), gh + k = min n 200 ∧ i = .int .i64 (k : Int) ∧ rs = .bool r ∧ LOk a b (cq q0) (cq q1) r ∧ q0.length + q1.length ≤ k ∧ St (fun _ => False) w1 w' (LnL w1.heap.size a b v0 v1 q0 q1 []))
  case atStart => exact ⟨0, .idle, .idle, _, _, [], [], false, by omega, rfl, rfl, LOk.first, Nat.le_refl _, T1.out⟩
  case round =>
    obtain ⟨k, a, b, v0, v1, q0, q1, r, hk, rfl, rfl, hok, hlen, hs⟩ := hrel
    have HS := Lib.hid hs
    have HO := Lib.hid hok
    have HG := Lib.hid hlen
    have b2 := B1.out.trans (hs.below.mono B1.out.size)
    have B2 := Lib.hid b2
    clear hs hok hlen
    cases gk with
    | zero =>
      have hk2 : (k = n ∧ ¬ k < n) ∨ (k < n ∧ k = 200) := by omega
      have HK : Hid (k ≤ 200) := by unfold Hid; omega
      clear hk b2
      rcases hk2 with ⟨rfl, h1⟩ | ⟨h1, rfl⟩
      all_goals
        go_wp2
        go_loopg [11] 400 (fun gh i w' => ∃ (j : Nat) (a b : S7) (v0 v1 : Value) (q0 q1 : List (Int × Bool)), gh + j = 400 ∧ i = .int .i64 (j : Int) ∧ LOk a b (cq q0) (cq q1) r ∧ q0.length ≤ 200 - (j + 1) / 2 ∧ q1.length ≤ 200 - j / 2 ∧ St (fun _ => False) w1 w' (LnL w1.heap.size a b v0 v1 q0 q1 []))
        case atStart => exact ⟨0, a, b, v0, v1, q0, q1, by omega, rfl, HO.out, by have := HG.out; have := HK.out; omega, by have := HG.out; have := HK.out; omega, HS.out⟩
        case round =>
          obtain ⟨j, a, b, v0, v1, q0, q1, hj, rfl, hok, hl0, hl1, hs⟩ := hrel
          have HS := Lib.hid hs
          have HO := Lib.hid hok
          have B3 := Lib.hid (B1.out.trans (hs.below.mono B1.out.size))
          obtain ⟨hl, z0, z1, z2, z3, _⟩ := see_l hs
          clear hs hok
          cases gk with
          | zero =>
            obtain rfl : j = 400 := by omega
            obtain rfl : q0 = [] := List.eq_nil_of_length_eq_zero (by omega)
            obtain rfl : q1 = [] := List.eq_nil_of_length_eq_zero (by omega)
            have he := HO.out.end_
            clear hj hl0 hl1
            rcases he with ⟨rfl, h4, h5⟩ | ⟨rfl, h4, h5, rfl⟩
            · have h6 : a.num ≤ 6 := by cases a <;> decide
              have h7 : b.num ≤ 6 := by cases b <;> decide
              go_wp2
              go_ret
              exact ⟨rfl, B3.out.alloc B3.out.size _⟩
            · cases a
              case co => exact absurd h5 (by decide)
              case ct => exact absurd h5 (by decide)
              all_goals
                simp only [S7.num, mir] at z0 z1
                clear h4 h5
                go_wp2
                go_ret
                exact ⟨rfl, B3.out.alloc B3.out.size _⟩
          | succ g1 =>
            have hpar : (j % 2 = 0 ∧ bits .and .i64 (j : Int) 1 = 0) ∨ (j % 2 = 1 ∧ bits .and .i64 (j : Int) 1 = 1) := by
              have e := and_one9 j (by omega)
              have : j % 2 = 0 ∨ j % 2 = 1 := by omega
              rcases this with h | h <;> rw [h] at e
              · exact .inl ⟨h, e⟩
              · exact .inr ⟨h, e⟩
            have hj400 : j < 400 := by omega
            clear z0 z1 z2 z3 hl
            rcases hpar with ⟨hp2, hb⟩ | ⟨hp2, hb⟩
            · cases q0 with
              | nil =>
                go_wp2_with (first
                  | (go_at_call 12; (with_reducible refine (get0_none HS.out).mono ?_); rintro e w4 ⟨rfl, hw⟩; rw [hw]; clear hw))
                go_roundg g1
                case measure => omega
                case rel => exact ⟨j + 1, a, b, _, _, [], q1, by omega, by go_num, HO.out, by simp, by omega, HS.out⟩
              | cons f q =>
                have hgg := (HO.out.swap).get
                have HGG := Lib.hid hgg.1
                have HO2 := Lib.hid hgg.2.swap
                simp only [List.length_cons] at hl0
                clear hgg
                go_wp2_with (first
                  | (go_at_call 12; (with_reducible refine (get0_some HS.out HGG.out).mono ?_); rintro e w4 ⟨rfl, v', s4⟩
                     have S4 := Lib.hid s4
                     clear s4))
                go_roundg g1
                case measure => omega
                case rel => exact ⟨j + 1, _, _, _, _, q, q1, by omega, by go_num, HO2.out, by omega, by omega, S4.out⟩
            · cases q1 with
              | nil =>
                go_wp2_with (first
                  | (go_at_call 12; (with_reducible refine (get1_none HS.out).mono ?_); rintro e w4 ⟨rfl, hw⟩; rw [hw]; clear hw))
                go_roundg g1
                case measure => omega
                case rel => exact ⟨j + 1, a, b, _, _, q0, [], by omega, by go_num, HO.out, by omega, by simp, HS.out⟩
              | cons f q =>
                have hgg := HO.out.get
                have HGG := Lib.hid hgg.1
                have HO2 := Lib.hid hgg.2
                simp only [List.length_cons] at hl1
                clear hgg
                go_wp2_with (first
                  | (go_at_call 12; (with_reducible refine (get1_some HS.out HGG.out).mono ?_); rintro e w4 ⟨rfl, v', s4⟩
                     have S4 := Lib.hid s4
                     clear s4))
                go_roundg g1
                case measure => omega
                case rel => exact ⟨j + 1, _, _, _, _, q0, q, by omega, by go_num, HO2.out, by omega, by omega, S4.out⟩
    | succ g1 =>
      have k1 : k < n := by omega
      have k2 : k < 200 := by omega
      obtain ⟨bl, o, f, m, e, kd, rfl, d0, d1, d2, d3, hkd⟩ := act_at HL.out (i := k) k1
      have e0 := cell_to b2 d0
      have e1 := cell_to b2 d1
      have e2 := cell_to b2 d2
      have e3 := cell_to b2 d3
      have hlq0 : q0.length < 1000 := by have := HG.out; omega
      have hlq1 : q1.length < 1000 := by have := HG.out; omega
      have HQ0 := Lib.hid hlq0
      have HQ1 := Lib.hid hlq1
      have HD2 := Lib.hid d2
      have HD3 := Lib.hid d3
      clear hkd d0 d1 d2 d3 b2 hlq0 hlq1
      cases m
      · cases f
        · have hss := step_send b kd e
          obtain ⟨hl, z0, z1, z2, z3, zf0⟩ := see_l HS.out
          rcases hss with ⟨hs2, hst⟩ | ⟨hs2, hst⟩
          · have hok2 := (HO.out.swap).send hs2
            obtain ⟨a', ha⟩ : ∃ a', (stepA b true (cls kd e)).1 = a' := ⟨_, rfl⟩
            rw [ha] at hst hok2
            rw [cls_r] at hok2
            obtain ⟨t, ht⟩ : ∃ t, (kd == 3) = t := ⟨_, rfl⟩
            rw [ht] at hok2
            have HX := Lib.hid hst
            have HOK := Lib.hid hok2
            have zg := zf0 1
            have T2 := Lib.hid (St.drew (St.set0 HS.out 1 (.int .i64 a'.num)))
            clear hst hok2 hs2 ha zf0
            go_wp2
            refine wp_region_still_lit (by kernel_rfl) (by kernel_rfl) ?_
            iterate 16 still_step
            still_call (step_l _ _ _ _ _ _ _ HX.out)
            iterate 7 still_step
            refine wpStill_nil ?_
            go_upto_region 18 with (fail)
            generalize (wr.setCell ⟨w1.heap.size, 1, none⟩ (.int .i64 a'.num)).drew = W3 at T2 ⊢
            clear z0 z1 z2 z3 hl zg e0 e1 e2 e3
            have u2 := cell_to (B1.out.trans (T2.out.below.mono B1.out.size)) HD2.out
            have u3 := cell_to (B1.out.trans (T2.out.below.mono B1.out.size)) HD3.out
            go_cut [5] (fun s wx => s = .bool (r || t) ∧ wx = W3)
            case first =>
              cases r
              all_goals
                go_wp2
                go_meet
                exact ⟨rfl, rfl⟩
            case rest =>
              obtain ⟨rfl, rfl⟩ := hcut
              have hw0 : IntKind.i64.wrap 0 = 0 := by decide
              have hw1 : IntKind.i64.wrap 1 = 1 := by decide
              have hbl := World.block_lt_of_cell? _ _ u2
              obtain ⟨hl, z0, z1, z2, z3, zf0⟩ := see_l T2.out
              have zg := zf0 2
              have T3 := Lib.hid (St.drew T2.out)
              have T4 := Lib.hid (St.drew (St.alloc T2.out (.cells #[.int .i64 kd, .bool e] 39)))
              obtain ⟨F4, hq4⟩ := qu0 T4.out
              obtain ⟨A7, c7, hv7, _⟩ := hq4.rd
              subst hv7
              have HQ4 := Lib.hid hq4
              have X4 := Lib.hid (rd_new_s T4.out)
              clear hq4 zf0 ht
              go_upto_region 19 with (fail)
              go_region_law (first
                | (refine step_append_q rfl (.tmp 106) (.tmp 118) rfl rfl HQ4.out _ _ kd e rfl X4.out HQ0.out ?_
                   intro A6 c6 w6 F6 h2 h3 h4
                   have t6 := app0 T4.out (fun G hG => qu_same HQ4.out hG) h2 h3 h4
                   have t7 := St.set0 t6 2 (.slice A6 (q0.length + 1) c6)
                   have T7 : Hid (St (fun _ => False) w1 (w6.setCell ⟨w1.heap.size, 2, none⟩ (.slice A6 (q0.length + 1) c6)) (LnL w1.heap.size a a' (.slice A6 (q0.length + 1) c6) v1 (q0 ++ [(kd, e)]) q1 [])) := t7
                   have hb6 := St.blk0 t6
                   have hl6 := hb6.lt
                   have zh := hb6.frozen 2
                   have zi := hb6.cell 2
                   simp only [List.getElem?_cons_zero, List.getElem?_cons_succ] at zi
                   clear h2 h3 h4 t6 t7 hb6))
              all_goals
                go_wp2
                go_roundg g1
                case measure => omega
                case rel => exact ⟨k + 1, _, _, _, _, q0 ++ [(kd, e)], q1, r || t, by omega, by go_num, rfl, by have h := HOK.out.swap; simpa [cq] using h, by have := HG.out; simp only [List.length_append, List.length_cons, List.length_nil]; omega, T7.out⟩
          · have HX := Lib.hid hst
            have zg := zf0 1
            clear hst hs2 zf0
            go_wp2
            refine wp_region_still_lit (by kernel_rfl) (by kernel_rfl) ?_
            iterate 16 still_step
            still_call (step_l _ _ _ _ _ _ _ HX.out)
            iterate 7 still_step
            refine wpStill_nil ?_
            go_wp2
            go_roundg g1
            case measure => omega
            case rel => exact ⟨k + 1, a, b, v0, v1, q0, q1, r, by omega, by go_num, rfl, HO.out, by have := HG.out; omega, St.drew HS.out⟩
        · have hss := step_send a kd e
          obtain ⟨hl, z0, z1, z2, z3, zf0⟩ := see_l HS.out
          rcases hss with ⟨hs2, hst⟩ | ⟨hs2, hst⟩
          · have hok2 := (HO.out).send hs2
            obtain ⟨a', ha⟩ : ∃ a', (stepA a true (cls kd e)).1 = a' := ⟨_, rfl⟩
            rw [ha] at hst hok2
            rw [cls_r] at hok2
            obtain ⟨t, ht⟩ : ∃ t, (kd == 3) = t := ⟨_, rfl⟩
            rw [ht] at hok2
            have HX := Lib.hid hst
            have HOK := Lib.hid hok2
            have zg := zf0 0
            have T2 := Lib.hid (St.drew (St.set0 HS.out 0 (.int .i64 a'.num)))
            clear hst hok2 hs2 ha zf0
            go_wp2
            refine wp_region_still_lit (by kernel_rfl) (by kernel_rfl) ?_
            iterate 16 still_step
            still_call (step_l _ _ _ _ _ _ _ HX.out)
            iterate 7 still_step
            refine wpStill_nil ?_
            go_upto_region 18 with (fail)
            generalize (wr.setCell ⟨w1.heap.size, 0, none⟩ (.int .i64 a'.num)).drew = W3 at T2 ⊢
            clear z0 z1 z2 z3 hl zg e0 e1 e2 e3
            have u2 := cell_to (B1.out.trans (T2.out.below.mono B1.out.size)) HD2.out
            have u3 := cell_to (B1.out.trans (T2.out.below.mono B1.out.size)) HD3.out
            go_cut [5] (fun s wx => s = .bool (r || t) ∧ wx = W3)
            case first =>
              cases r
              all_goals
                go_wp2
                go_meet
                exact ⟨rfl, rfl⟩
            case rest =>
              obtain ⟨rfl, rfl⟩ := hcut
              have hw0 : IntKind.i64.wrap 0 = 0 := by decide
              have hw1 : IntKind.i64.wrap 1 = 1 := by decide
              have hbl := World.block_lt_of_cell? _ _ u2
              obtain ⟨hl, z0, z1, z2, z3, zf0⟩ := see_l T2.out
              have zg := zf0 3
              have T3 := Lib.hid (St.drew T2.out)
              have T4 := Lib.hid (St.drew (St.alloc T2.out (.cells #[.int .i64 kd, .bool e] 39)))
              obtain ⟨F4, hq4⟩ := qu1 T4.out
              obtain ⟨A7, c7, hv7, _⟩ := hq4.rd
              subst hv7
              have HQ4 := Lib.hid hq4
              have X4 := Lib.hid (rd_new_s T4.out)
              clear hq4 zf0 ht
              go_upto_region 19 with (fail)
              go_region_law (first
                | (refine step_append_q rfl (.tmp 106) (.tmp 118) rfl rfl HQ4.out _ _ kd e rfl X4.out HQ1.out ?_
                   intro A6 c6 w6 F6 h2 h3 h4
                   have t6 := app1 T4.out (fun G hG => qu_same HQ4.out hG) h2 h3 h4
                   have t7 := St.set0 t6 3 (.slice A6 (q1.length + 1) c6)
                   have T7 : Hid (St (fun _ => False) w1 (w6.setCell ⟨w1.heap.size, 3, none⟩ (.slice A6 (q1.length + 1) c6)) (LnL w1.heap.size a' b v0 (.slice A6 (q1.length + 1) c6) q0 (q1 ++ [(kd, e)]) [])) := t7
                   have hb6 := St.blk0 t6
                   have hl6 := hb6.lt
                   have zh := hb6.frozen 3
                   have zi := hb6.cell 3
                   simp only [List.getElem?_cons_zero, List.getElem?_cons_succ] at zi
                   clear h2 h3 h4 t6 t7 hb6))
              all_goals
                go_wp2
                go_roundg g1
                case measure => omega
                case rel => exact ⟨k + 1, _, _, _, _, q0, q1 ++ [(kd, e)], r || t, by omega, by go_num, rfl, by have h := HOK.out; simpa [cq] using h, by have := HG.out; simp only [List.length_append, List.length_cons, List.length_nil]; omega, T7.out⟩
          · have HX := Lib.hid hst
            have zg := zf0 0
            clear hst hs2 zf0
            go_wp2
            refine wp_region_still_lit (by kernel_rfl) (by kernel_rfl) ?_
            iterate 16 still_step
            still_call (step_l _ _ _ _ _ _ _ HX.out)
            iterate 7 still_step
            refine wpStill_nil ?_
            go_wp2
            go_roundg g1
            case measure => omega
            case rel => exact ⟨k + 1, a, b, v0, v1, q0, q1, r, by omega, by go_num, rfl, HO.out, by have := HG.out; omega, St.drew HS.out⟩
      · cases f
        · cases q1 with
          | nil =>
            go_wp2_with (first
              | (go_at_call 12; (with_reducible refine (get1_none HS.out).mono ?_); rintro e w4 ⟨rfl, hw⟩; rw [hw]; clear hw))
            go_roundg g1
            case measure => omega
            case rel => exact ⟨k + 1, a, b, _, _, q0, [], r, by omega, by go_num, rfl, HO.out, by have := HG.out; simp at this ⊢; omega, HS.out⟩
          | cons g q =>
            have hgg := HO.out.get
            have HGG := Lib.hid hgg.1
            have HO2 := Lib.hid hgg.2
            clear hgg
            go_wp2_with (first
              | (go_at_call 12; (with_reducible refine (get1_some HS.out HGG.out).mono ?_); rintro e w4 ⟨rfl, v', s4⟩
                 have S4 := Lib.hid s4
                 clear s4))
            go_roundg g1
            case measure => omega
            case rel => exact ⟨k + 1, _, _, _, _, q0, q, r, by omega, by go_num, rfl, HO2.out, by have := HG.out; simp at this ⊢; omega, S4.out⟩
        · cases q0 with
          | nil =>
            go_wp2_with (first
              | (go_at_call 12; (with_reducible refine (get0_none HS.out).mono ?_); rintro e w4 ⟨rfl, hw⟩; rw [hw]; clear hw))
            go_roundg g1
            case measure => omega
            case rel => exact ⟨k + 1, a, b, _, _, [], q1, r, by omega, by go_num, rfl, HO.out, by have := HG.out; simp at this ⊢; omega, HS.out⟩
          | cons g q =>
            have hgg := (HO.out.swap).get
            have HGG := Lib.hid hgg.1
            have HO2 := Lib.hid hgg.2.swap
            clear hgg
            go_wp2_with (first
              | (go_at_call 12; (with_reducible refine (get0_some HS.out HGG.out).mono ?_); rintro e w4 ⟨rfl, v', s4⟩
                 have S4 := Lib.hid s4
                 clear s4))
            go_roundg g1
            case measure => omega
            case rel => exact ⟨k + 1, _, _, _, _, q, q1, r, by omega, by go_num, rfl, HO2.out, by have := HG.out; simp at this ⊢; omega, S4.out⟩
end Go.Proofs.Ytdpheliekdgnhaa
