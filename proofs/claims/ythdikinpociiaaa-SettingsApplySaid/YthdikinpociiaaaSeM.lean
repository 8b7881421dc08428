/- Stage 8: the law SettingsApart: the walk. -/
import Derived.Test.YthdikinpociiaaaSeK
namespace Go.Proofs.Ythdikinpociiaaa
open Go.RowKit Go.Own Go.Set8
set_option linter.unusedVariables false
set_option maxRecDepth 100000
theorem ofInt64x (n : Nat) (h : n < 18446744073709551616) : (BitVec.ofInt 64 (n : Int)).toNat = n := by
  rw [BitVec.toNat_ofInt]; omega
theorem or_64 (z : Int) : bits .or .i64 z 64 < 0 ∨ 64 ≤ bits .or .i64 z 64 := by
  have e : bits .or .i64 z 64 = IntKind.i64.wrap ((BitVec.ofInt 64 z ||| BitVec.ofInt 64 ((64 : Nat) : Int)).toNat : Int) := rfl
  have h := @Nat.right_le_or (BitVec.ofInt 64 z).toNat 64
  have hb := (BitVec.ofInt 64 z ||| BitVec.ofInt 64 ((64 : Nat) : Int)).isLt
  rw [BitVec.toNat_or, ofInt64x 64 (by omega)] at hb
  rw [e, BitVec.toNat_or, ofInt64x 64 (by omega), IntKind.wrap_i64]
  omega
theorem with_swap (v : Va) (a b : Int) (m n : Nat) (h : a ≠ b) : withV (withV v a m) b n = withV (withV v b n) a m := by
  rcases with_ways (v := v) (a := a) (n := m) rfl with ⟨rfl, e⟩ | ⟨rfl, rfl, e⟩ | ⟨rfl, k, e⟩ | ⟨rfl, e⟩ | ⟨rfl, e⟩ | ⟨rfl, e⟩ | ⟨rfl, e⟩ | ⟨h1, h2, h3, h4, h5, h6, e⟩
  all_goals
    rcases with_ways (v := v) (a := b) (n := n) rfl with ⟨rfl, d⟩ | ⟨rfl, rfl, d⟩ | ⟨rfl, k2, d⟩ | ⟨rfl, d⟩ | ⟨rfl, d⟩ | ⟨rfl, d⟩ | ⟨rfl, d⟩ | ⟨g1, g2, g3, g4, g5, g6, d⟩
    all_goals
      first
      | exact absurd rfl h
      | (rw [e, d]; simp [withV, *])
theorem apart_ways (v : Va) (a b : Int) (m n : Nat) (srv : Bool) (h : a ≠ b) : ∃ (x : Va) (fi : Bool) (fc : Int) (y : Va) (gc : Int),
    allV v [(a, m), (b, n)] srv = (x, ⟨fi, fc⟩) ∧ allV v [(b, n), (a, m)] srv = (y, ⟨fi, gc⟩) ∧ ((fi = true ∧ x = v ∧ y = v) ∨ (fi = false ∧ x = y)) := by
  by_cases h1 : wrong a m srv = 0
  · by_cases h2 : wrong b n srv = 0
    · refine ⟨withV (withV v a m) b n, false, 0, withV (withV v b n) a m, 0, ?_, ?_, .inr ⟨rfl, with_swap v a b m n h⟩⟩
      · simp [allV, allW, applyV, h1, h2]
      · simp [allV, allW, applyV, h1, h2]
    · refine ⟨v, true, wrong b n srv, v, wrong b n srv, ?_, ?_, .inl ⟨rfl, rfl, rfl⟩⟩
      · simp [allV, allW, applyV, h1, h2]
      · simp [allV, allW, applyV, h2]
  · by_cases h2 : wrong b n srv = 0
    · refine ⟨v, true, wrong a m srv, v, wrong a m srv, ?_, ?_, .inl ⟨rfl, rfl, rfl⟩⟩
      · simp [allV, allW, applyV, h1]
      · simp [allV, allW, applyV, h1, h2]
    · refine ⟨v, true, wrong a m srv, v, wrong b n srv, ?_, ?_, .inl ⟨rfl, rfl, rfl⟩⟩
      · simp [allV, allW, applyV, h1]
      · simp [allV, allW, applyV, h2]
theorem apart_none (v : Va) (b : Int) (n : Nat) (srv : Bool) (J : Int) (hJ : bits .or .i64 b 64 = J) : applyV v (J, n) srv = (v, ⟨false, 0⟩) := by
  have h := or_64 b
  rw [hJ] at h
  have hw : wrong J n srv = 0 := by
    unfold wrong
    rw [if_neg (by omega), if_neg (by omega), if_neg (by omega)]
  have hv : withV v J n = v := by
    unfold withV
    rw [if_neg (by omega), if_neg (by omega), if_neg (by omega), if_neg (by omega), if_neg (by omega), if_neg (by omega)]
  unfold applyV
  simp only [hw, hv, if_pos]
theorem rd_two_set {w : World} {g : Nat} {a b : Int} {m n : Nat} (h : Blk w g 35 [.int .i64 a, .int .u32 (m : Int), .int .i64 b, .int .u32 (n : Int)]) : Rd w 2 (some ⟨g, 0, none⟩) 2 (scells [(a, m), (b, n)]) := by
  have := Rd.of_blk (n := 2) (size := 2) h (by simp)
  simpa [scells, scell] using this
theorem all_g {w : World} (v : Va) (l : List (Int × Nat)) (srv : Bool) (x : Va) (gi : Bool) (gc : Int) (h : allV v l srv = (x, ⟨gi, gc⟩)) {A : Option Addr} {n c : Nat} (hl : Rd w 2 A n (scells l)) (hok : ∀ s ∈ l, s.2 < 4294967296) (hn : n ≤ 9223372036854775807) :
    Calls Try.prog 10 #[(.agg #[.int .i64 v.tab, .bool v.push, .int .i64 v.str, .int .i64 v.win, .int .i64 v.frm, .int .i64 v.lst]), .slice A n c, .bool srv] w fun e w' => e = .returned (.tuple #[(.agg #[.int .i64 x.tab, .bool x.push, .int .i64 x.str, .int .i64 x.win, .int .i64 x.frm, .int .i64 x.lst]), .agg #[.bool gi, .int .u32 gc, .int .i64 0]]) ∧ Below w.heap.size w w' := all_c v l srv x ⟨gi, gc⟩ h hl hok hn
theorem st3x (w : World) (t0 t1 t2 : TypeId) (c0 c1 c2 : List Value) : St (fun _ => False) w (((w.alloc (.cells c0.toArray t0)).alloc (.cells c1.toArray t1)).alloc (.cells c2.toArray t2)) [BLo w.heap.size t0 c0, BLo (w.heap.size + 1) t1 c1, BLo (w.heap.size + 1 + 1) t2 c2] := st3 w t0 t1 t2 c0 c1 c2
theorem st_block_at {S : Nat → Prop} {w0 w : World} {L : List Ob} (s : St S w0 w L) (t : TypeId) (c : List Value) (p : Nat) (hp : w.heap.size = p) : St S w0 (w.alloc (.cells c.toArray t)) (L ++ [BLo p t c]) := by
  subst hp
  exact s.block t c
set_option maxHeartbeats 8000000 in
theorem lawApart_eq {w0 : World} (v : Va) (a : Int) (m n : Nat) (srv : Bool) :
    Calls Try.prog 8 #[(.agg #[.int .i64 v.tab, .bool v.push, .int .i64 v.str, .int .i64 v.win, .int .i64 v.frm, .int .i64 v.lst]), (.agg #[.int .i64 a, .int .u32 (m : Int)]), (.agg #[.int .i64 a, .int .u32 (n : Int)]), .bool srv] w0 fun e w' => e = .returned (.bool true) ∧ Below w0.heap.size w0 w' := by
  have S0 := Lib.hid (st3 w0 23 35 35 [.int .i64 v.tab, .bool v.push, .int .i64 v.str, .int .i64 v.win, .int .i64 v.frm, .int .i64 v.lst] [.int .i64 a, .int .u32 (m : Int)] [.int .i64 a, .int .u32 (n : Int)])
  go_enter Try.func8, Try.ntmps8
  go_wp2_with (first
    | (go_at_call 9; (with_reducible refine shown8_c.mono ?_); rintro e w1 ⟨rfl, hb⟩
       have S1 := Lib.hid (St.next S0.out hb)
       obtain ⟨p0, p1⟩ := cells2 (St.blk1 S1.out)
       obtain ⟨q0, q1⟩ := cells2 (St.blk2 S1.out)
       clear hb))
  go_ret
  exact ⟨rfl, St.below S1.out⟩
set_option maxHeartbeats 8000000 in
theorem lawApart {w0 : World} (v : Va) (a : Int) (m : Nat) (b : Int) (n : Nat) (hm : m < 4294967296) (hn : n < 4294967296) (srv : Bool) :
    Calls Try.prog 8 #[(.agg #[.int .i64 v.tab, .bool v.push, .int .i64 v.str, .int .i64 v.win, .int .i64 v.frm, .int .i64 v.lst]), (.agg #[.int .i64 a, .int .u32 (m : Int)]), (.agg #[.int .i64 b, .int .u32 (n : Int)]), .bool srv] w0 fun e w' => e = .returned (.bool true) ∧ Below w0.heap.size w0 w' := by
  by_cases hab : a = b
  · subst hab
    exact lawApart_eq v a m n srv
  obtain ⟨x, fi, fc, y, gc, h1, h2, ways⟩ := apart_ways v a b m n srv hab
  obtain ⟨J, hJ⟩ : ∃ J, bits .or .i64 b 64 = J := ⟨_, rfl⟩
  have H3 := Lib.hid (apart_none v b n srv J hJ)
  have H1 := Lib.hid h1
  have H2 := Lib.hid h2
  have O1 : Hid (∀ s ∈ [(a, m), (b, n)], s.2 < 4294967296) := by
    intro s hs
    simp at hs
    rcases hs with rfl | rfl <;> assumption
  have O2 : Hid (∀ s ∈ [(b, n), (a, m)], s.2 < 4294967296) := by
    intro s hs
    simp at hs
    rcases hs with rfl | rfl <;> assumption
  have HN := Lib.hid hn
  have S0 := Lib.hid (st3 w0 23 35 35 [.int .i64 v.tab, .bool v.push, .int .i64 v.str, .int .i64 v.win, .int .i64 v.frm, .int .i64 v.lst] [.int .i64 a, .int .u32 (m : Int)] [.int .i64 b, .int .u32 (n : Int)])
  have eqv := fun V => vals_eql V
  clear h1 h2 hm hn
  rcases ways with ⟨rfl, rfl, rfl⟩ | ⟨rfl, rfl⟩
  · go_enter Try.func8, Try.ntmps8
    go_wp2_with (first
      | (go_at_call 9; (with_reducible refine shown8_c.mono ?_); rintro e w1 ⟨rfl, hb⟩
         have S1 := Lib.hid (St.next S0.out hb)
         obtain ⟨k00, k01, k02, k03, k04, k05⟩ := cells6 (St.blk0 S1.out)
         have l0 := (St.blk0 S1.out).lt
         have m0 := Nat.lt_succ_of_lt l0
         obtain ⟨k10, k11⟩ := cells2 (St.blk1 S1.out)
         have l1 := (St.blk1 S1.out).lt
         have m1 := Nat.lt_succ_of_lt l1
         obtain ⟨k20, k21⟩ := cells2 (St.blk2 S1.out)
         have l2 := (St.blk2 S1.out).lt
         have m2 := Nat.lt_succ_of_lt l2
         have T1 := Lib.hid (St.block S1.out 35 [.int .i64 a, .int .u32 (m : Int), .int .i64 b, .int .u32 (n : Int)])
         clear hb)
      | (go_at_call 13; (with_reducible refine (apply_g _ J n HN.out srv _ _ _ H3.out).mono ?_); rintro e w4 ⟨rfl, hb⟩
         have S6 := Lib.hid (St.next S5.out hb)
         clear k00 k01 k02 k03 k04 k05 l0 m0 k10 k11 l1 m1 k20 k21 l2 m2 k30 k31 k32 k33 k34 k35 l3 m3 k40 k41 k42 l4 m4
         obtain ⟨k00, k01, k02, k03, k04, k05⟩ := cells6 (St.blk0 S6.out)
         have l0 := (St.blk0 S6.out).lt
         have m0 := Nat.lt_succ_of_lt l0
         obtain ⟨k10, k11⟩ := cells2 (St.blk1 S6.out)
         have l1 := (St.blk1 S6.out).lt
         have m1 := Nat.lt_succ_of_lt l1
         obtain ⟨k20, k21⟩ := cells2 (St.blk2 S6.out)
         have l2 := (St.blk2 S6.out).lt
         have m2 := Nat.lt_succ_of_lt l2
         obtain ⟨k30, k31, k32, k33, k34, k35⟩ := cells6 (St.blk3 S6.out)
         have l3 := (St.blk3 S6.out).lt
         have m3 := Nat.lt_succ_of_lt l3
         obtain ⟨k40, k41, k42⟩ := cells3 (St.blk4 S6.out)
         have l4 := (St.blk4 S6.out).lt
         have m4 := Nat.lt_succ_of_lt l4
         obtain ⟨k50, k51, k52, k53, k54, k55⟩ := cells6 (St.blk5 S6.out)
         have l5 := (St.blk5 S6.out).lt
         have m5 := Nat.lt_succ_of_lt l5
         obtain ⟨k60, k61, k62⟩ := cells3 (St.blk6 S6.out)
         have l6 := (St.blk6 S6.out).lt
         have m6 := Nat.lt_succ_of_lt l6
         have S7 := Lib.hid (st_block2 S6.out 23 29 [.int .i64 y.tab, .bool y.push, .int .i64 y.str, .int .i64 y.win, .int .i64 y.frm, .int .i64 y.lst] [.bool false, .int .u32 0, .int .i64 0])
         clear hb)
      | (go_at_call 10; (with_reducible refine (all_g _ [(b, n), (a, m)] srv _ _ _ H2.out (rd_two_set (St.blk5 T2.out)) O2.out (by omega)).mono ?_); rintro e w3 ⟨rfl, hb⟩
         have S4 := Lib.hid (St.next (St.drop5 T2.out) hb)
         clear k00 k01 k02 k03 k04 k05 l0 m0 k10 k11 l1 m1 k20 k21 l2 m2 k30 k31 k32 k33 k34 k35 l3 m3 k40 k41 k42 l4 m4
         obtain ⟨k00, k01, k02, k03, k04, k05⟩ := cells6 (St.blk0 S4.out)
         have l0 := (St.blk0 S4.out).lt
         have m0 := Nat.lt_succ_of_lt l0
         obtain ⟨k10, k11⟩ := cells2 (St.blk1 S4.out)
         have l1 := (St.blk1 S4.out).lt
         have m1 := Nat.lt_succ_of_lt l1
         obtain ⟨k20, k21⟩ := cells2 (St.blk2 S4.out)
         have l2 := (St.blk2 S4.out).lt
         have m2 := Nat.lt_succ_of_lt l2
         obtain ⟨k30, k31, k32, k33, k34, k35⟩ := cells6 (St.blk3 S4.out)
         have l3 := (St.blk3 S4.out).lt
         have m3 := Nat.lt_succ_of_lt l3
         obtain ⟨k40, k41, k42⟩ := cells3 (St.blk4 S4.out)
         have l4 := (St.blk4 S4.out).lt
         have m4 := Nat.lt_succ_of_lt l4
         have S5 := Lib.hid (st_block2 S4.out 23 29 [.int .i64 y.tab, .bool y.push, .int .i64 y.str, .int .i64 y.win, .int .i64 y.frm, .int .i64 y.lst] [.bool true, .int .u32 gc, .int .i64 0])
         clear hb)
      | (go_at_call 10; (with_reducible refine (all_g _ [(a, m), (b, n)] srv _ _ _ H1.out (rd_two_set (St.blk3 T1.out)) O1.out (by omega)).mono ?_); rintro e w2 ⟨rfl, hb⟩
         have S2 := Lib.hid (St.next (St.drop3 T1.out) hb)
         clear k00 k01 k02 k03 k04 k05 l0 m0 k10 k11 l1 m1 k20 k21 l2 m2
         obtain ⟨k00, k01, k02, k03, k04, k05⟩ := cells6 (St.blk0 S2.out)
         have l0 := (St.blk0 S2.out).lt
         have m0 := Nat.lt_succ_of_lt l0
         obtain ⟨k10, k11⟩ := cells2 (St.blk1 S2.out)
         have l1 := (St.blk1 S2.out).lt
         have m1 := Nat.lt_succ_of_lt l1
         obtain ⟨k20, k21⟩ := cells2 (St.blk2 S2.out)
         have l2 := (St.blk2 S2.out).lt
         have m2 := Nat.lt_succ_of_lt l2
         have S3 := Lib.hid (st_block2 S2.out 23 29 [.int .i64 y.tab, .bool y.push, .int .i64 y.str, .int .i64 y.win, .int .i64 y.frm, .int .i64 y.lst] [.bool true, .int .u32 fc, .int .i64 0])
         obtain ⟨k30, k31, k32, k33, k34, k35⟩ := cells6 (St.blk3 S3.out)
         obtain ⟨k40, k41, k42⟩ := cells3 (St.blk4 S3.out)
         have l3 := (St.blk3 S3.out).lt
         have m3 := Nat.lt_succ_of_lt l3
         have l4 := (St.blk4 S3.out).lt
         have m4 := Nat.lt_succ_of_lt l4
         have T2 := Lib.hid (st_block_at S3.out 35 [.int .i64 b, .int .u32 (n : Int), .int .i64 a, .int .u32 (m : Int)] (w2.heap.size + 1 + 1) (by simp))
         clear hb))
    go_ret
    exact ⟨rfl, St.below S7.out⟩
  · go_enter Try.func8, Try.ntmps8
    go_wp2_with (first
      | (go_at_call 9; (with_reducible refine shown8_c.mono ?_); rintro e w1 ⟨rfl, hb⟩
         have S1 := Lib.hid (St.next S0.out hb)
         obtain ⟨k00, k01, k02, k03, k04, k05⟩ := cells6 (St.blk0 S1.out)
         have l0 := (St.blk0 S1.out).lt
         have m0 := Nat.lt_succ_of_lt l0
         obtain ⟨k10, k11⟩ := cells2 (St.blk1 S1.out)
         have l1 := (St.blk1 S1.out).lt
         have m1 := Nat.lt_succ_of_lt l1
         obtain ⟨k20, k21⟩ := cells2 (St.blk2 S1.out)
         have l2 := (St.blk2 S1.out).lt
         have m2 := Nat.lt_succ_of_lt l2
         have T1 := Lib.hid (St.block S1.out 35 [.int .i64 a, .int .u32 (m : Int), .int .i64 b, .int .u32 (n : Int)])
         clear hb)
      | (go_at_call 13; (with_reducible refine (apply_g _ J n HN.out srv _ _ _ H3.out).mono ?_); rintro e w4 ⟨rfl, hb⟩
         have S6 := Lib.hid (St.next S5.out hb)
         clear k00 k01 k02 k03 k04 k05 l0 m0 k10 k11 l1 m1 k20 k21 l2 m2 k30 k31 k32 k33 k34 k35 l3 m3 k40 k41 k42 l4 m4
         obtain ⟨k00, k01, k02, k03, k04, k05⟩ := cells6 (St.blk0 S6.out)
         have l0 := (St.blk0 S6.out).lt
         have m0 := Nat.lt_succ_of_lt l0
         obtain ⟨k10, k11⟩ := cells2 (St.blk1 S6.out)
         have l1 := (St.blk1 S6.out).lt
         have m1 := Nat.lt_succ_of_lt l1
         obtain ⟨k20, k21⟩ := cells2 (St.blk2 S6.out)
         have l2 := (St.blk2 S6.out).lt
         have m2 := Nat.lt_succ_of_lt l2
         obtain ⟨k30, k31, k32, k33, k34, k35⟩ := cells6 (St.blk3 S6.out)
         have l3 := (St.blk3 S6.out).lt
         have m3 := Nat.lt_succ_of_lt l3
         obtain ⟨k40, k41, k42⟩ := cells3 (St.blk4 S6.out)
         have l4 := (St.blk4 S6.out).lt
         have m4 := Nat.lt_succ_of_lt l4
         obtain ⟨k50, k51, k52, k53, k54, k55⟩ := cells6 (St.blk5 S6.out)
         have l5 := (St.blk5 S6.out).lt
         have m5 := Nat.lt_succ_of_lt l5
         obtain ⟨k60, k61, k62⟩ := cells3 (St.blk6 S6.out)
         have l6 := (St.blk6 S6.out).lt
         have m6 := Nat.lt_succ_of_lt l6
         have S7 := Lib.hid (st_block2 S6.out 23 29 [.int .i64 v.tab, .bool v.push, .int .i64 v.str, .int .i64 v.win, .int .i64 v.frm, .int .i64 v.lst] [.bool false, .int .u32 0, .int .i64 0])
         clear hb)
      | (go_at_call 10; (with_reducible refine (all_g _ [(b, n), (a, m)] srv _ _ _ H2.out (rd_two_set (St.blk5 T2.out)) O2.out (by omega)).mono ?_); rintro e w3 ⟨rfl, hb⟩
         have S4 := Lib.hid (St.next (St.drop5 T2.out) hb)
         clear k00 k01 k02 k03 k04 k05 l0 m0 k10 k11 l1 m1 k20 k21 l2 m2 k30 k31 k32 k33 k34 k35 l3 m3 k40 k41 k42 l4 m4
         obtain ⟨k00, k01, k02, k03, k04, k05⟩ := cells6 (St.blk0 S4.out)
         have l0 := (St.blk0 S4.out).lt
         have m0 := Nat.lt_succ_of_lt l0
         obtain ⟨k10, k11⟩ := cells2 (St.blk1 S4.out)
         have l1 := (St.blk1 S4.out).lt
         have m1 := Nat.lt_succ_of_lt l1
         obtain ⟨k20, k21⟩ := cells2 (St.blk2 S4.out)
         have l2 := (St.blk2 S4.out).lt
         have m2 := Nat.lt_succ_of_lt l2
         obtain ⟨k30, k31, k32, k33, k34, k35⟩ := cells6 (St.blk3 S4.out)
         have l3 := (St.blk3 S4.out).lt
         have m3 := Nat.lt_succ_of_lt l3
         obtain ⟨k40, k41, k42⟩ := cells3 (St.blk4 S4.out)
         have l4 := (St.blk4 S4.out).lt
         have m4 := Nat.lt_succ_of_lt l4
         have S5 := Lib.hid (st_block2 S4.out 23 29 [.int .i64 x.tab, .bool x.push, .int .i64 x.str, .int .i64 x.win, .int .i64 x.frm, .int .i64 x.lst] [.bool false, .int .u32 gc, .int .i64 0])
         clear hb)
      | (go_at_call 10; (with_reducible refine (all_g _ [(a, m), (b, n)] srv _ _ _ H1.out (rd_two_set (St.blk3 T1.out)) O1.out (by omega)).mono ?_); rintro e w2 ⟨rfl, hb⟩
         have S2 := Lib.hid (St.next (St.drop3 T1.out) hb)
         clear k00 k01 k02 k03 k04 k05 l0 m0 k10 k11 l1 m1 k20 k21 l2 m2
         obtain ⟨k00, k01, k02, k03, k04, k05⟩ := cells6 (St.blk0 S2.out)
         have l0 := (St.blk0 S2.out).lt
         have m0 := Nat.lt_succ_of_lt l0
         obtain ⟨k10, k11⟩ := cells2 (St.blk1 S2.out)
         have l1 := (St.blk1 S2.out).lt
         have m1 := Nat.lt_succ_of_lt l1
         obtain ⟨k20, k21⟩ := cells2 (St.blk2 S2.out)
         have l2 := (St.blk2 S2.out).lt
         have m2 := Nat.lt_succ_of_lt l2
         have S3 := Lib.hid (st_block2 S2.out 23 29 [.int .i64 x.tab, .bool x.push, .int .i64 x.str, .int .i64 x.win, .int .i64 x.frm, .int .i64 x.lst] [.bool false, .int .u32 fc, .int .i64 0])
         obtain ⟨k30, k31, k32, k33, k34, k35⟩ := cells6 (St.blk3 S3.out)
         obtain ⟨k40, k41, k42⟩ := cells3 (St.blk4 S3.out)
         have l3 := (St.blk3 S3.out).lt
         have m3 := Nat.lt_succ_of_lt l3
         have l4 := (St.blk4 S3.out).lt
         have m4 := Nat.lt_succ_of_lt l4
         have T2 := Lib.hid (st_block_at S3.out 35 [.int .i64 b, .int .u32 (n : Int), .int .i64 a, .int .u32 (m : Int)] (w2.heap.size + 1 + 1) (by simp))
         clear hb))
    go_ret
    exact ⟨rfl, St.below S7.out⟩
theorem lawApart_f {w0 : World} (v : Va) (a : Int) (m : Nat) (hm : m < 4294967296) (b : Int) (n : Nat) (hn : n < 4294967296) (srv : Bool) :
    Calls Try.prog 8 #[(.agg #[.int .i64 v.tab, .bool v.push, .int .i64 v.str, .int .i64 v.win, .int .i64 v.frm, .int .i64 v.lst]), (.agg #[.int .i64 a, .int .u32 (m : Int)]), (.agg #[.int .i64 b, .int .u32 (n : Int)]), .bool srv] w0 fun e w' => e = .returned (.bool true) ∧ Below w0.heap.size w0 w' := lawApart v a m b n hm hn srv
end Go.Proofs.Ythdikinpociiaaa
