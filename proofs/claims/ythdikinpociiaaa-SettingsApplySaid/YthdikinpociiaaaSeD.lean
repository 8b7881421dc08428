/- Stage 8: Apply, the document's. -/
import Derived.Test.YthdikinpociiaaaSeC
namespace Go.Proofs.Ythdikinpociiaaa
open Go.RowKit Go.Own Go.Set8
set_option linter.unusedVariables false
set_option maxRecDepth 100000
theorem rapply_ways {v : Va} {a : Int} {n : Nat} {srv : Bool} {x : Va} {g : Ga} (h : applyV v (a, n) srv = (x, g)) :
    (a = 1 ∧ x = { v with tab := n } ∧ g = ⟨false, 0⟩) ∨
    (a = 2 ∧ 1 < n ∧ x = v ∧ g = ⟨true, 1⟩) ∨ (a = 2 ∧ n = 1 ∧ srv = true ∧ x = v ∧ g = ⟨true, 1⟩) ∨ (a = 2 ∧ n = 1 ∧ srv = false ∧ x = { v with push := true } ∧ g = ⟨false, 0⟩) ∨ (a = 2 ∧ n = 0 ∧ x = { v with push := false } ∧ g = ⟨false, 0⟩) ∨
    (a = 3 ∧ x = { v with str := n } ∧ g = ⟨false, 0⟩) ∨
    (a = 4 ∧ 2147483647 < n ∧ x = v ∧ g = ⟨true, 3⟩) ∨ (a = 4 ∧ n ≤ 2147483647 ∧ x = { v with win := n } ∧ g = ⟨false, 0⟩) ∨
    (a = 5 ∧ n < 16384 ∧ x = v ∧ g = ⟨true, 1⟩) ∨ (a = 5 ∧ 16777215 < n ∧ x = v ∧ g = ⟨true, 1⟩) ∨ (a = 5 ∧ 16384 ≤ n ∧ n ≤ 16777215 ∧ x = { v with frm := n } ∧ g = ⟨false, 0⟩) ∨
    (a = 6 ∧ x = { v with lst := n } ∧ g = ⟨false, 0⟩) ∨
    (a ≠ 1 ∧ a ≠ 2 ∧ a ≠ 3 ∧ a ≠ 4 ∧ a ≠ 5 ∧ a ≠ 6 ∧ x = v ∧ g = ⟨false, 0⟩) := by
  obtain ⟨c, hc⟩ : ∃ c, wrong a n srv = c := ⟨_, rfl⟩
  obtain ⟨y, hy⟩ : ∃ y, withV v a n = y := ⟨_, rfl⟩
  have k1 := wrong_ways hc
  have k2 := with_ways hy
  have k3 := apply_ways h
  simp only [hc, hy] at k3
  clear h hc hy
  rcases k3 with ⟨rfl, rfl, rfl⟩ | ⟨h0, rfl, rfl⟩
  · rcases k2 with ⟨rfl, rfl⟩ | ⟨rfl, rfl, rfl⟩ | ⟨rfl, h1, rfl⟩ | ⟨rfl, rfl⟩ | ⟨rfl, rfl⟩ | ⟨rfl, rfl⟩ | ⟨rfl, rfl⟩ | ⟨h1, h2, h3, h4, h5, h6, rfl⟩
    · simp
    · simp at k1 ⊢; cases srv <;> simp_all
    · have : n = 0 := by simp at k1; omega
      subst this; simp
    · simp
    · have : n ≤ 2147483647 := by simp at k1; omega
      simp [this]
    · have : 16384 ≤ n ∧ n ≤ 16777215 := by simp at k1; omega
      simp [this]
    · simp
    · simp [h1, h2, h3, h4, h5, h6]
  · rcases k1 with ⟨rfl, h1, rfl⟩ | ⟨rfl, rfl, rfl, rfl⟩ | ⟨rfl, rfl, rfl, rfl⟩ | ⟨rfl, rfl, rfl⟩ | ⟨rfl, h1, rfl⟩ | ⟨rfl, h1, rfl⟩ | ⟨rfl, h1, rfl⟩ | ⟨rfl, h1, rfl⟩ | ⟨rfl, h1, h2, rfl⟩ | ⟨h1, h2, h3, rfl⟩
    · simp [h1]
    · simp
    · exact absurd rfl h0
    · exact absurd rfl h0
    · simp [h1]
    · exact absurd rfl h0
    · simp [h1]
    · simp [h1]
    · exact absurd rfl h0
    · exact absurd rfl h0
theorem setGV {S : Nat → Prop} {w0 w : World} {A0 A1 : Ob} {p q : Nat} {t u : TypeId} {a b c d e f k l m : Value} (s : St S w0 w [A0, A1, BLo p t [a, b, c, d, e, f], BLo q u [k, l, m]]) (a' b' c' d' e' f' k' l' m' : Value) :
    St S w0 (((((((((w.setCell ⟨q, 0, none⟩ k').setCell ⟨q, 1, none⟩ l').setCell ⟨q, 2, none⟩ m').setCell ⟨p, 0, none⟩ a').setCell ⟨p, 1, none⟩ b').setCell ⟨p, 2, none⟩ c').setCell ⟨p, 3, none⟩ d').setCell ⟨p, 4, none⟩ e').setCell ⟨p, 5, none⟩ f') [A0, A1, BLo p t [a', b', c', d', e', f'], BLo q u [k', l', m']] :=
  St.set2 (St.set2 (St.set2 (St.set2 (St.set2 (St.set2 (St.set3 (St.set3 (St.set3 s 0 k') 1 l') 2 m') 0 a') 1 b') 2 c') 3 d') 4 e') 5 f'
section
variable {w : World}
theorem broken_c (c : Int) : Calls Try.prog 21 #[.int .u32 c] w fun e w' => e = .returned (.agg #[.bool true, .int .u32 c, .int .i64 0]) ∧ Below w.heap.size w w' := by
  go_enter Try.func21, Try.ntmps21
  go_wp2
  exact bodyPost_ret (v := .agg #[.bool true, .int .u32 c, .int .i64 0]) (by simp [results, Try.results21, go_sem]) rfl ⟨rfl, bl1 _ _⟩
set_option maxHeartbeats 4000000 in
theorem rapply_c (v : Va) (a : Int) (n : Nat) (hn : n < 4294967296) (srv : Bool) (x : Va) (g : Ga) (h : applyV v (a, n) srv = (x, g)) : Calls Try.prog 14 #[(.agg #[.int .i64 v.tab, .bool v.push, .int .i64 v.str, .int .i64 v.win, .int .i64 v.frm, .int .i64 v.lst]), (.agg #[.int .i64 a, .int .u32 (n : Int)]), .bool srv] w fun e w' => e = .returned (.tuple #[(.agg #[.int .i64 x.tab, .bool x.push, .int .i64 x.str, .int .i64 x.win, .int .i64 x.frm, .int .i64 x.lst]), (.agg #[.bool g.is, .int .u32 g.code, .int .i64 0])]) ∧ Below w.heap.size w w' := by
  have S4 := Lib.hid (st4 w 23 35 23 29 [.int .i64 v.tab, .bool v.push, .int .i64 v.str, .int .i64 v.win, .int .i64 v.frm, .int .i64 v.lst] [.int .i64 a, .int .u32 (n : Int)] [.int .i64 0, .bool false, .int .i64 0, .int .i64 0, .int .i64 0, .int .i64 0] [.bool false, .int .u32 0, .int .i64 0])
  have S5 := Lib.hid (st4 w 23 35 23 29 [.int .i64 v.tab, .bool v.push, .int .i64 v.str, .int .i64 v.win, .int .i64 v.frm, .int .i64 v.lst] [.int .i64 a, .int .u32 (n : Int)] [.int .i64 v.tab, .bool v.push, .int .i64 v.str, .int .i64 v.win, .int .i64 v.frm, .int .i64 v.lst] [.bool false, .int .u32 0, .int .i64 0])
  have hw : IntKind.i64.wrap (n : Int) = (n : Int) := by rw [IntKind.wrap_i64]; omega
  have key := rapply_ways h
  clear h hn
  rcases key with ⟨rfl, rfl, rfl⟩ | ⟨rfl, h1, rfl, rfl⟩ | ⟨rfl, rfl, rfl, rfl, rfl⟩ | ⟨rfl, rfl, rfl, rfl, rfl⟩ | ⟨rfl, rfl, rfl, rfl⟩ | ⟨rfl, rfl, rfl⟩ | ⟨rfl, h1, rfl, rfl⟩ | ⟨rfl, h1, rfl, rfl⟩ | ⟨rfl, h1, rfl, rfl⟩ | ⟨rfl, h1, rfl, rfl⟩ | ⟨rfl, h1, h2, rfl, rfl⟩ | ⟨rfl, rfl, rfl⟩ | ⟨h1, h2, h3, h4, h5, h6, rfl, rfl⟩
  · go_enter Try.func14, Try.ntmps14
    go_wp2
    exact bodyPost_ret (v := .tuple #[.agg #[.int .i64 (n : Int), .bool v.push, .int .i64 v.str, .int .i64 v.win, .int .i64 v.frm, .int .i64 v.lst], .agg #[.bool false, .int .u32 0, .int .i64 0]]) (by simp [results, Try.results14, go_sem]) rfl ⟨rfl, bl4 _ _ _ _ _⟩
  · have h2 : (1 : Int) < (n : Int) := by omega
    go_enter Try.func14, Try.ntmps14
    go_wp2
    obtain ⟨z0, z1, z2, z3, z4, z5⟩ := cells6 (St.blk0 S4.out.drew)
    go_region_with (first
      | (go_at_call 21; (with_reducible refine (broken_c _).mono ?_); rintro e w1 ⟨rfl, hb⟩
         have S6 := Lib.hid (St.next S4.out.drew hb)
         obtain ⟨z0, z1, z2, z3, z4, z5⟩ := cells6 (St.blk0 S6.out)
         obtain ⟨x0, x1, x2, x3, x4, x5⟩ := cells6 (St.blk2 S6.out)
         obtain ⟨u0, u1, u2⟩ := cells3 (St.blk3 S6.out)
         have f2 := (St.blk2 S6.out).frozen
         have f3 := (St.blk3 S6.out).frozen
         clear hb)
      | (go_at_call 21; (with_reducible refine (broken_c _).mono ?_); rintro e w1 ⟨rfl, hb⟩
         have S6 := Lib.hid (St.next S5.out.drew hb)
         obtain ⟨z0, z1, z2, z3, z4, z5⟩ := cells6 (St.blk0 S6.out)
         obtain ⟨x0, x1, x2, x3, x4, x5⟩ := cells6 (St.blk2 S6.out)
         obtain ⟨u0, u1, u2⟩ := cells3 (St.blk3 S6.out)
         have f2 := (St.blk2 S6.out).frozen
         have f3 := (St.blk3 S6.out).frozen
         clear hb))
    all_goals
      go_wp2
      first
        | exact bodyPost_ret (res_vg (p := 6) (q := 7) rfl rfl rfl (St.blk2 (setVG S6.out _ _ _ _ _ _ _ _ _)) (St.blk3 (setVG S6.out _ _ _ _ _ _ _ _ _))) rfl ⟨rfl, St.below (setVG S6.out _ _ _ _ _ _ _ _ _)⟩
        | exact bodyPost_ret (res_vg (p := 6) (q := 7) rfl rfl rfl (St.blk2 (setGV S6.out _ _ _ _ _ _ _ _ _)) (St.blk3 (setGV S6.out _ _ _ _ _ _ _ _ _))) rfl ⟨rfl, St.below (setGV S6.out _ _ _ _ _ _ _ _ _)⟩
        | exact bodyPost_ret (res_vg (p := 6) (q := 7) rfl rfl rfl (St.blk2 (St.set3 (St.set3 (St.set3 S6.out 0 _) 1 _) 2 _)) (St.blk3 (St.set3 (St.set3 (St.set3 S6.out 0 _) 1 _) 2 _))) rfl ⟨rfl, St.below (St.set3 (St.set3 (St.set3 S6.out 0 _) 1 _) 2 _)⟩
  · go_enter Try.func14, Try.ntmps14
    go_wp2
    obtain ⟨z0, z1, z2, z3, z4, z5⟩ := cells6 (St.blk0 S4.out.drew)
    go_region_with (first
      | (go_at_call 21; (with_reducible refine (broken_c _).mono ?_); rintro e w1 ⟨rfl, hb⟩
         have S6 := Lib.hid (St.next S4.out.drew hb)
         obtain ⟨z0, z1, z2, z3, z4, z5⟩ := cells6 (St.blk0 S6.out)
         obtain ⟨x0, x1, x2, x3, x4, x5⟩ := cells6 (St.blk2 S6.out)
         obtain ⟨u0, u1, u2⟩ := cells3 (St.blk3 S6.out)
         have f2 := (St.blk2 S6.out).frozen
         have f3 := (St.blk3 S6.out).frozen
         clear hb)
      | (go_at_call 21; (with_reducible refine (broken_c _).mono ?_); rintro e w1 ⟨rfl, hb⟩
         have S6 := Lib.hid (St.next S5.out.drew hb)
         obtain ⟨z0, z1, z2, z3, z4, z5⟩ := cells6 (St.blk0 S6.out)
         obtain ⟨x0, x1, x2, x3, x4, x5⟩ := cells6 (St.blk2 S6.out)
         obtain ⟨u0, u1, u2⟩ := cells3 (St.blk3 S6.out)
         have f2 := (St.blk2 S6.out).frozen
         have f3 := (St.blk3 S6.out).frozen
         clear hb))
    all_goals
      go_wp2
      first
        | exact bodyPost_ret (res_vg (p := 6) (q := 7) rfl rfl rfl (St.blk2 (setVG S6.out _ _ _ _ _ _ _ _ _)) (St.blk3 (setVG S6.out _ _ _ _ _ _ _ _ _))) rfl ⟨rfl, St.below (setVG S6.out _ _ _ _ _ _ _ _ _)⟩
        | exact bodyPost_ret (res_vg (p := 6) (q := 7) rfl rfl rfl (St.blk2 (setGV S6.out _ _ _ _ _ _ _ _ _)) (St.blk3 (setGV S6.out _ _ _ _ _ _ _ _ _))) rfl ⟨rfl, St.below (setGV S6.out _ _ _ _ _ _ _ _ _)⟩
        | exact bodyPost_ret (res_vg (p := 6) (q := 7) rfl rfl rfl (St.blk2 (St.set3 (St.set3 (St.set3 S6.out 0 _) 1 _) 2 _)) (St.blk3 (St.set3 (St.set3 (St.set3 S6.out 0 _) 1 _) 2 _))) rfl ⟨rfl, St.below (St.set3 (St.set3 (St.set3 S6.out 0 _) 1 _) 2 _)⟩
  · go_enter Try.func14, Try.ntmps14
    go_wp2
    exact bodyPost_ret (v := .tuple #[.agg #[.int .i64 v.tab, .bool true, .int .i64 v.str, .int .i64 v.win, .int .i64 v.frm, .int .i64 v.lst], .agg #[.bool false, .int .u32 0, .int .i64 0]]) (by simp [results, Try.results14, go_sem]) rfl ⟨rfl, bl4 _ _ _ _ _⟩
  · go_enter Try.func14, Try.ntmps14
    go_wp2
    exact bodyPost_ret (v := .tuple #[.agg #[.int .i64 v.tab, .bool false, .int .i64 v.str, .int .i64 v.win, .int .i64 v.frm, .int .i64 v.lst], .agg #[.bool false, .int .u32 0, .int .i64 0]]) (by simp [results, Try.results14, go_sem]) rfl ⟨rfl, bl4 _ _ _ _ _⟩
  · go_enter Try.func14, Try.ntmps14
    go_wp2
    exact bodyPost_ret (v := .tuple #[.agg #[.int .i64 v.tab, .bool v.push, .int .i64 (n : Int), .int .i64 v.win, .int .i64 v.frm, .int .i64 v.lst], .agg #[.bool false, .int .u32 0, .int .i64 0]]) (by simp [results, Try.results14, go_sem]) rfl ⟨rfl, bl4 _ _ _ _ _⟩
  · have h2 : (2147483647 : Int) < (n : Int) := by omega
    go_enter Try.func14, Try.ntmps14
    go_wp2
    obtain ⟨z0, z1, z2, z3, z4, z5⟩ := cells6 (St.blk0 S4.out.drew)
    go_region_with (first
      | (go_at_call 21; (with_reducible refine (broken_c _).mono ?_); rintro e w1 ⟨rfl, hb⟩
         have S6 := Lib.hid (St.next S4.out.drew hb)
         obtain ⟨z0, z1, z2, z3, z4, z5⟩ := cells6 (St.blk0 S6.out)
         obtain ⟨x0, x1, x2, x3, x4, x5⟩ := cells6 (St.blk2 S6.out)
         obtain ⟨u0, u1, u2⟩ := cells3 (St.blk3 S6.out)
         have f2 := (St.blk2 S6.out).frozen
         have f3 := (St.blk3 S6.out).frozen
         clear hb)
      | (go_at_call 21; (with_reducible refine (broken_c _).mono ?_); rintro e w1 ⟨rfl, hb⟩
         have S6 := Lib.hid (St.next S5.out.drew hb)
         obtain ⟨z0, z1, z2, z3, z4, z5⟩ := cells6 (St.blk0 S6.out)
         obtain ⟨x0, x1, x2, x3, x4, x5⟩ := cells6 (St.blk2 S6.out)
         obtain ⟨u0, u1, u2⟩ := cells3 (St.blk3 S6.out)
         have f2 := (St.blk2 S6.out).frozen
         have f3 := (St.blk3 S6.out).frozen
         clear hb))
    all_goals
      go_wp2
      first
        | exact bodyPost_ret (res_vg (p := 6) (q := 7) rfl rfl rfl (St.blk2 (setVG S6.out _ _ _ _ _ _ _ _ _)) (St.blk3 (setVG S6.out _ _ _ _ _ _ _ _ _))) rfl ⟨rfl, St.below (setVG S6.out _ _ _ _ _ _ _ _ _)⟩
        | exact bodyPost_ret (res_vg (p := 6) (q := 7) rfl rfl rfl (St.blk2 (setGV S6.out _ _ _ _ _ _ _ _ _)) (St.blk3 (setGV S6.out _ _ _ _ _ _ _ _ _))) rfl ⟨rfl, St.below (setGV S6.out _ _ _ _ _ _ _ _ _)⟩
        | exact bodyPost_ret (res_vg (p := 6) (q := 7) rfl rfl rfl (St.blk2 (St.set3 (St.set3 (St.set3 S6.out 0 _) 1 _) 2 _)) (St.blk3 (St.set3 (St.set3 (St.set3 S6.out 0 _) 1 _) 2 _))) rfl ⟨rfl, St.below (St.set3 (St.set3 (St.set3 S6.out 0 _) 1 _) 2 _)⟩
  · have h2 : ¬ (2147483647 : Int) < (n : Int) := by omega
    have h3 : ¬ 2147483647 < n := by omega
    go_enter Try.func14, Try.ntmps14
    go_wp2
    exact bodyPost_ret (v := .tuple #[.agg #[.int .i64 v.tab, .bool v.push, .int .i64 v.str, .int .i64 (n : Int), .int .i64 v.frm, .int .i64 v.lst], .agg #[.bool false, .int .u32 0, .int .i64 0]]) (by simp [results, Try.results14, go_sem]) rfl ⟨rfl, bl4 _ _ _ _ _⟩
  · have h2 : (n : Int) < 16384 := by omega
    go_enter Try.func14, Try.ntmps14
    go_wp2
    obtain ⟨z0, z1, z2, z3, z4, z5⟩ := cells6 (St.blk0 S4.out.drew)
    go_region_with (first
      | (go_at_call 21; (with_reducible refine (broken_c _).mono ?_); rintro e w1 ⟨rfl, hb⟩
         have S6 := Lib.hid (St.next S4.out.drew hb)
         obtain ⟨z0, z1, z2, z3, z4, z5⟩ := cells6 (St.blk0 S6.out)
         obtain ⟨x0, x1, x2, x3, x4, x5⟩ := cells6 (St.blk2 S6.out)
         obtain ⟨u0, u1, u2⟩ := cells3 (St.blk3 S6.out)
         have f2 := (St.blk2 S6.out).frozen
         have f3 := (St.blk3 S6.out).frozen
         clear hb)
      | (go_at_call 21; (with_reducible refine (broken_c _).mono ?_); rintro e w1 ⟨rfl, hb⟩
         have S6 := Lib.hid (St.next S5.out.drew hb)
         obtain ⟨z0, z1, z2, z3, z4, z5⟩ := cells6 (St.blk0 S6.out)
         obtain ⟨x0, x1, x2, x3, x4, x5⟩ := cells6 (St.blk2 S6.out)
         obtain ⟨u0, u1, u2⟩ := cells3 (St.blk3 S6.out)
         have f2 := (St.blk2 S6.out).frozen
         have f3 := (St.blk3 S6.out).frozen
         clear hb))
    all_goals
      go_wp2
      first
        | exact bodyPost_ret (res_vg (p := 6) (q := 7) rfl rfl rfl (St.blk2 (setVG S6.out _ _ _ _ _ _ _ _ _)) (St.blk3 (setVG S6.out _ _ _ _ _ _ _ _ _))) rfl ⟨rfl, St.below (setVG S6.out _ _ _ _ _ _ _ _ _)⟩
        | exact bodyPost_ret (res_vg (p := 6) (q := 7) rfl rfl rfl (St.blk2 (setGV S6.out _ _ _ _ _ _ _ _ _)) (St.blk3 (setGV S6.out _ _ _ _ _ _ _ _ _))) rfl ⟨rfl, St.below (setGV S6.out _ _ _ _ _ _ _ _ _)⟩
        | exact bodyPost_ret (res_vg (p := 6) (q := 7) rfl rfl rfl (St.blk2 (St.set3 (St.set3 (St.set3 S6.out 0 _) 1 _) 2 _)) (St.blk3 (St.set3 (St.set3 (St.set3 S6.out 0 _) 1 _) 2 _))) rfl ⟨rfl, St.below (St.set3 (St.set3 (St.set3 S6.out 0 _) 1 _) 2 _)⟩
  · have h2 : ¬ (n : Int) < 16384 := by omega
    have h3 : (16777215 : Int) < (n : Int) := by omega
    go_enter Try.func14, Try.ntmps14
    go_wp2
    obtain ⟨z0, z1, z2, z3, z4, z5⟩ := cells6 (St.blk0 S4.out.drew)
    go_region_with (first
      | (go_at_call 21; (with_reducible refine (broken_c _).mono ?_); rintro e w1 ⟨rfl, hb⟩
         have S6 := Lib.hid (St.next S4.out.drew hb)
         obtain ⟨z0, z1, z2, z3, z4, z5⟩ := cells6 (St.blk0 S6.out)
         obtain ⟨x0, x1, x2, x3, x4, x5⟩ := cells6 (St.blk2 S6.out)
         obtain ⟨u0, u1, u2⟩ := cells3 (St.blk3 S6.out)
         have f2 := (St.blk2 S6.out).frozen
         have f3 := (St.blk3 S6.out).frozen
         clear hb)
      | (go_at_call 21; (with_reducible refine (broken_c _).mono ?_); rintro e w1 ⟨rfl, hb⟩
         have S6 := Lib.hid (St.next S5.out.drew hb)
         obtain ⟨z0, z1, z2, z3, z4, z5⟩ := cells6 (St.blk0 S6.out)
         obtain ⟨x0, x1, x2, x3, x4, x5⟩ := cells6 (St.blk2 S6.out)
         obtain ⟨u0, u1, u2⟩ := cells3 (St.blk3 S6.out)
         have f2 := (St.blk2 S6.out).frozen
         have f3 := (St.blk3 S6.out).frozen
         clear hb))
    all_goals
      go_wp2
      first
        | exact bodyPost_ret (res_vg (p := 6) (q := 7) rfl rfl rfl (St.blk2 (setVG S6.out _ _ _ _ _ _ _ _ _)) (St.blk3 (setVG S6.out _ _ _ _ _ _ _ _ _))) rfl ⟨rfl, St.below (setVG S6.out _ _ _ _ _ _ _ _ _)⟩
        | exact bodyPost_ret (res_vg (p := 6) (q := 7) rfl rfl rfl (St.blk2 (setGV S6.out _ _ _ _ _ _ _ _ _)) (St.blk3 (setGV S6.out _ _ _ _ _ _ _ _ _))) rfl ⟨rfl, St.below (setGV S6.out _ _ _ _ _ _ _ _ _)⟩
        | exact bodyPost_ret (res_vg (p := 6) (q := 7) rfl rfl rfl (St.blk2 (St.set3 (St.set3 (St.set3 S6.out 0 _) 1 _) 2 _)) (St.blk3 (St.set3 (St.set3 (St.set3 S6.out 0 _) 1 _) 2 _))) rfl ⟨rfl, St.below (St.set3 (St.set3 (St.set3 S6.out 0 _) 1 _) 2 _)⟩
  · have h3 : ¬ (n : Int) < 16384 := by omega
    have h4 : ¬ (16777215 : Int) < (n : Int) := by omega
    go_enter Try.func14, Try.ntmps14
    go_wp2
    exact bodyPost_ret (v := .tuple #[.agg #[.int .i64 v.tab, .bool v.push, .int .i64 v.str, .int .i64 v.win, .int .i64 (n : Int), .int .i64 v.lst], .agg #[.bool false, .int .u32 0, .int .i64 0]]) (by simp [results, Try.results14, go_sem]) rfl ⟨rfl, bl4 _ _ _ _ _⟩
  · go_enter Try.func14, Try.ntmps14
    go_wp2
    exact bodyPost_ret (v := .tuple #[.agg #[.int .i64 v.tab, .bool v.push, .int .i64 v.str, .int .i64 v.win, .int .i64 v.frm, .int .i64 (n : Int)], .agg #[.bool false, .int .u32 0, .int .i64 0]]) (by simp [results, Try.results14, go_sem]) rfl ⟨rfl, bl4 _ _ _ _ _⟩
  · go_enter Try.func14, Try.ntmps14
    go_wp2
    exact bodyPost_ret (v := .tuple #[.agg #[.int .i64 x.tab, .bool x.push, .int .i64 x.str, .int .i64 x.win, .int .i64 x.frm, .int .i64 x.lst], .agg #[.bool false, .int .u32 0, .int .i64 0]]) (by simp [results, Try.results14, go_sem]) rfl ⟨rfl, bl4 _ _ _ _ _⟩
end
end Go.Proofs.Ythdikinpociiaaa
