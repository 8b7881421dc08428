/- Stage 8: the law SettingsLast: the walk. -/
import Derived.Test.YthdikinpociiaaaSeS
import Derived.Test.YthdikinpociiaaaSeE
namespace Go.Proofs.Ythdikinpociiaaa
open Go.RowKit Go.Own Go.Set8
set_option linter.unusedVariables false
set_option maxRecDepth 100000
theorem st1 (w : World) (t : TypeId) (c : List Value) : St (fun _ => False) w (w.alloc (.cells c.toArray t)) [BLo w.heap.size t c] := (St.nil (fun _ => False) w).block t c
theorem last_ways (v : Va) (id : Int) (a b : Nat) (srv : Bool) : ∃ (x : Va) (fi : Bool) (fc : Int) (y z : Va) (gi : Bool) (gc : Int),
    applyV v (id, a) srv = (x, ⟨fi, fc⟩) ∧ applyV x (id, b) srv = (y, ⟨gi, gc⟩) ∧ applyV v (id, b) srv = (z, ⟨gi, gc⟩) ∧
    ((fi = true ∧ x = v) ∨ (fi = false ∧ gi = true ∧ y = x ∧ z = v) ∨ (fi = false ∧ gi = false ∧ y = z)) := by
  by_cases h1 : wrong id a srv = 0
  · by_cases h2 : wrong id b srv = 0
    · refine ⟨withV v id a, false, 0, withV (withV v id a) id b, withV v id b, false, 0, ?_, ?_, ?_, .inr (.inr ⟨rfl, rfl, ?_⟩)⟩
      · unfold applyV; rw [if_pos h1]
      · unfold applyV; rw [if_pos h2]
      · unfold applyV; rw [if_pos h2]
      · rcases with_ways (v := v) (a := id) (n := a) rfl with ⟨rfl, h⟩ | ⟨rfl, _, h⟩ | ⟨rfl, _, h⟩ | ⟨rfl, h⟩ | ⟨rfl, h⟩ | ⟨rfl, h⟩ | ⟨rfl, h⟩ | ⟨_, _, _, _, _, _, h⟩
        all_goals first | (rw [h]; done) | (rw [h]; rfl) | (rw [h]; simp [withV])
    · refine ⟨withV v id a, false, 0, withV v id a, v, true, wrong id b srv, ?_, ?_, ?_, .inr (.inl ⟨rfl, rfl, rfl, rfl⟩)⟩
      · unfold applyV; rw [if_pos h1]
      · unfold applyV; rw [if_neg h2]
      · unfold applyV; rw [if_neg h2]
  · obtain ⟨z, ⟨gi, gc⟩, hz⟩ : ∃ z g, applyV v (id, b) srv = (z, g) := ⟨_, _, rfl⟩
    exact ⟨v, true, wrong id a srv, z, z, gi, gc, by unfold applyV; rw [if_neg h1], hz, hz, .inl ⟨rfl, rfl⟩⟩
set_option maxHeartbeats 8000000 in
theorem lawLast {w0 : World} (v : Va) (id : Int) (a b : Nat) (ha : a < 4294967296) (hb : b < 4294967296) (srv : Bool) :
    Calls Try.prog 7 #[(.agg #[.int .i64 v.tab, .bool v.push, .int .i64 v.str, .int .i64 v.win, .int .i64 v.frm, .int .i64 v.lst]), .int .i64 id, .int .u32 (a : Int), .int .u32 (b : Int), .bool srv] w0 fun e w' => e = .returned (.bool true) ∧ Below w0.heap.size w0 w' := by
  obtain ⟨x, fi, fc, y, z, gi, gc, h1, h2, h3, ways⟩ := last_ways v id a b srv
  have H1 := Lib.hid h1
  have H2 := Lib.hid h2
  have H3 := Lib.hid h3
  have HA := Lib.hid ha
  have HB := Lib.hid hb
  have S0 := Lib.hid (st1 w0 23 [.int .i64 v.tab, .bool v.push, .int .i64 v.str, .int .i64 v.win, .int .i64 v.frm, .int .i64 v.lst])
  have eqv := fun V => vals_eql V
  have eqg := fun V => flt_eql V
  clear h1 h2 h3 ha hb
  rcases ways with ⟨rfl, rfl⟩ | ⟨rfl, rfl, rfl, rfl⟩ | ⟨rfl, rfl, rfl⟩
  · go_enter Try.func7, Try.ntmps7
    go_wp2_with (first
      | (go_at_call 9; (with_reducible refine shown8_c.mono ?_); rintro e w1 ⟨rfl, hb⟩
         have S1 := Lib.hid (St.next S0.out hb)
         obtain ⟨k00, k01, k02, k03, k04, k05⟩ := cells6 (St.blk0 S1.out)
         have l0 := (St.blk0 S1.out).lt
         have m0 := Nat.lt_succ_of_lt l0
         clear hb)
      | (go_at_call 13; (with_reducible refine (apply_g _ id b HB.out srv _ _ _ H3.out).mono ?_); rintro e w4 ⟨rfl, hb⟩
         have S6 := Lib.hid (St.next S5.out hb)
         clear k00 k01 k02 k03 k04 k05 l0 m0 k10 k11 k12 k13 k14 k15 l1 m1 k20 k21 k22 l2 m2
         obtain ⟨k00, k01, k02, k03, k04, k05⟩ := cells6 (St.blk0 S6.out)
         have l0 := (St.blk0 S6.out).lt
         have m0 := Nat.lt_succ_of_lt l0
         obtain ⟨k10, k11, k12, k13, k14, k15⟩ := cells6 (St.blk1 S6.out)
         have l1 := (St.blk1 S6.out).lt
         have m1 := Nat.lt_succ_of_lt l1
         obtain ⟨k20, k21, k22⟩ := cells3 (St.blk2 S6.out)
         have l2 := (St.blk2 S6.out).lt
         have m2 := Nat.lt_succ_of_lt l2
         obtain ⟨k30, k31, k32, k33, k34, k35⟩ := cells6 (St.blk3 S6.out)
         have l3 := (St.blk3 S6.out).lt
         have m3 := Nat.lt_succ_of_lt l3
         obtain ⟨k40, k41, k42⟩ := cells3 (St.blk4 S6.out)
         have l4 := (St.blk4 S6.out).lt
         have m4 := Nat.lt_succ_of_lt l4
         have S7 := Lib.hid (st_block2 S6.out 23 29 [.int .i64 z.tab, .bool z.push, .int .i64 z.str, .int .i64 z.win, .int .i64 z.frm, .int .i64 z.lst] [.bool gi, .int .u32 gc, .int .i64 0])
         clear hb)
      | (go_at_call 13; (with_reducible refine (apply_g _ id b HB.out srv _ _ _ H2.out).mono ?_); rintro e w3 ⟨rfl, hb⟩
         have S4 := Lib.hid (St.next S3.out hb)
         clear k00 k01 k02 k03 k04 k05 l0 m0
         obtain ⟨k00, k01, k02, k03, k04, k05⟩ := cells6 (St.blk0 S4.out)
         have l0 := (St.blk0 S4.out).lt
         have m0 := Nat.lt_succ_of_lt l0
         obtain ⟨k10, k11, k12, k13, k14, k15⟩ := cells6 (St.blk1 S4.out)
         have l1 := (St.blk1 S4.out).lt
         have m1 := Nat.lt_succ_of_lt l1
         obtain ⟨k20, k21, k22⟩ := cells3 (St.blk2 S4.out)
         have l2 := (St.blk2 S4.out).lt
         have m2 := Nat.lt_succ_of_lt l2
         have S5 := Lib.hid (st_block2 S4.out 23 29 [.int .i64 y.tab, .bool y.push, .int .i64 y.str, .int .i64 y.win, .int .i64 y.frm, .int .i64 y.lst] [.bool gi, .int .u32 gc, .int .i64 0])
         clear hb)
      | (go_at_call 13; (with_reducible refine (apply_g _ id a HA.out srv _ _ _ H1.out).mono ?_); rintro e w2 ⟨rfl, hb⟩
         have S2 := Lib.hid (St.next S1.out hb)
         clear k00 k01 k02 k03 k04 k05 l0 m0
         obtain ⟨k00, k01, k02, k03, k04, k05⟩ := cells6 (St.blk0 S2.out)
         have l0 := (St.blk0 S2.out).lt
         have m0 := Nat.lt_succ_of_lt l0
         have S3 := Lib.hid (st_block2 S2.out 23 29 [.int .i64 x.tab, .bool x.push, .int .i64 x.str, .int .i64 x.win, .int .i64 x.frm, .int .i64 x.lst] [.bool true, .int .u32 fc, .int .i64 0])
         clear hb))
    go_ret
    exact ⟨rfl, St.below S7.out⟩
  · go_enter Try.func7, Try.ntmps7
    go_wp2_with (first
      | (go_at_call 9; (with_reducible refine shown8_c.mono ?_); rintro e w1 ⟨rfl, hb⟩
         have S1 := Lib.hid (St.next S0.out hb)
         obtain ⟨k00, k01, k02, k03, k04, k05⟩ := cells6 (St.blk0 S1.out)
         have l0 := (St.blk0 S1.out).lt
         have m0 := Nat.lt_succ_of_lt l0
         clear hb)
      | (go_at_call 13; (with_reducible refine (apply_g _ id b HB.out srv _ _ _ H3.out).mono ?_); rintro e w4 ⟨rfl, hb⟩
         have S6 := Lib.hid (St.next S5.out hb)
         clear k00 k01 k02 k03 k04 k05 l0 m0 k10 k11 k12 k13 k14 k15 l1 m1 k20 k21 k22 l2 m2
         obtain ⟨k00, k01, k02, k03, k04, k05⟩ := cells6 (St.blk0 S6.out)
         have l0 := (St.blk0 S6.out).lt
         have m0 := Nat.lt_succ_of_lt l0
         obtain ⟨k10, k11, k12, k13, k14, k15⟩ := cells6 (St.blk1 S6.out)
         have l1 := (St.blk1 S6.out).lt
         have m1 := Nat.lt_succ_of_lt l1
         obtain ⟨k20, k21, k22⟩ := cells3 (St.blk2 S6.out)
         have l2 := (St.blk2 S6.out).lt
         have m2 := Nat.lt_succ_of_lt l2
         obtain ⟨k30, k31, k32, k33, k34, k35⟩ := cells6 (St.blk3 S6.out)
         have l3 := (St.blk3 S6.out).lt
         have m3 := Nat.lt_succ_of_lt l3
         obtain ⟨k40, k41, k42⟩ := cells3 (St.blk4 S6.out)
         have l4 := (St.blk4 S6.out).lt
         have m4 := Nat.lt_succ_of_lt l4
         have S7 := Lib.hid (st_block2 S6.out 23 29 [.int .i64 z.tab, .bool z.push, .int .i64 z.str, .int .i64 z.win, .int .i64 z.frm, .int .i64 z.lst] [.bool true, .int .u32 gc, .int .i64 0])
         clear hb)
      | (go_at_call 13; (with_reducible refine (apply_g _ id b HB.out srv _ _ _ H2.out).mono ?_); rintro e w3 ⟨rfl, hb⟩
         have S4 := Lib.hid (St.next S3.out hb)
         clear k00 k01 k02 k03 k04 k05 l0 m0
         obtain ⟨k00, k01, k02, k03, k04, k05⟩ := cells6 (St.blk0 S4.out)
         have l0 := (St.blk0 S4.out).lt
         have m0 := Nat.lt_succ_of_lt l0
         obtain ⟨k10, k11, k12, k13, k14, k15⟩ := cells6 (St.blk1 S4.out)
         have l1 := (St.blk1 S4.out).lt
         have m1 := Nat.lt_succ_of_lt l1
         obtain ⟨k20, k21, k22⟩ := cells3 (St.blk2 S4.out)
         have l2 := (St.blk2 S4.out).lt
         have m2 := Nat.lt_succ_of_lt l2
         have S5 := Lib.hid (st_block2 S4.out 23 29 [.int .i64 y.tab, .bool y.push, .int .i64 y.str, .int .i64 y.win, .int .i64 y.frm, .int .i64 y.lst] [.bool true, .int .u32 gc, .int .i64 0])
         clear hb)
      | (go_at_call 13; (with_reducible refine (apply_g _ id a HA.out srv _ _ _ H1.out).mono ?_); rintro e w2 ⟨rfl, hb⟩
         have S2 := Lib.hid (St.next S1.out hb)
         clear k00 k01 k02 k03 k04 k05 l0 m0
         obtain ⟨k00, k01, k02, k03, k04, k05⟩ := cells6 (St.blk0 S2.out)
         have l0 := (St.blk0 S2.out).lt
         have m0 := Nat.lt_succ_of_lt l0
         have S3 := Lib.hid (st_block2 S2.out 23 29 [.int .i64 y.tab, .bool y.push, .int .i64 y.str, .int .i64 y.win, .int .i64 y.frm, .int .i64 y.lst] [.bool false, .int .u32 fc, .int .i64 0])
         clear hb))
    go_ret
    exact ⟨rfl, St.below S7.out⟩
  · go_enter Try.func7, Try.ntmps7
    go_wp2_with (first
      | (go_at_call 9; (with_reducible refine shown8_c.mono ?_); rintro e w1 ⟨rfl, hb⟩
         have S1 := Lib.hid (St.next S0.out hb)
         obtain ⟨k00, k01, k02, k03, k04, k05⟩ := cells6 (St.blk0 S1.out)
         have l0 := (St.blk0 S1.out).lt
         have m0 := Nat.lt_succ_of_lt l0
         clear hb)
      | (go_at_call 13; (with_reducible refine (apply_g _ id b HB.out srv _ _ _ H3.out).mono ?_); rintro e w4 ⟨rfl, hb⟩
         have S6 := Lib.hid (St.next S5.out hb)
         clear k00 k01 k02 k03 k04 k05 l0 m0 k10 k11 k12 k13 k14 k15 l1 m1 k20 k21 k22 l2 m2
         obtain ⟨k00, k01, k02, k03, k04, k05⟩ := cells6 (St.blk0 S6.out)
         have l0 := (St.blk0 S6.out).lt
         have m0 := Nat.lt_succ_of_lt l0
         obtain ⟨k10, k11, k12, k13, k14, k15⟩ := cells6 (St.blk1 S6.out)
         have l1 := (St.blk1 S6.out).lt
         have m1 := Nat.lt_succ_of_lt l1
         obtain ⟨k20, k21, k22⟩ := cells3 (St.blk2 S6.out)
         have l2 := (St.blk2 S6.out).lt
         have m2 := Nat.lt_succ_of_lt l2
         obtain ⟨k30, k31, k32, k33, k34, k35⟩ := cells6 (St.blk3 S6.out)
         have l3 := (St.blk3 S6.out).lt
         have m3 := Nat.lt_succ_of_lt l3
         obtain ⟨k40, k41, k42⟩ := cells3 (St.blk4 S6.out)
         have l4 := (St.blk4 S6.out).lt
         have m4 := Nat.lt_succ_of_lt l4
         have S7 := Lib.hid (st_block2 S6.out 23 29 [.int .i64 y.tab, .bool y.push, .int .i64 y.str, .int .i64 y.win, .int .i64 y.frm, .int .i64 y.lst] [.bool false, .int .u32 gc, .int .i64 0])
         clear hb)
      | (go_at_call 13; (with_reducible refine (apply_g _ id b HB.out srv _ _ _ H2.out).mono ?_); rintro e w3 ⟨rfl, hb⟩
         have S4 := Lib.hid (St.next S3.out hb)
         clear k00 k01 k02 k03 k04 k05 l0 m0
         obtain ⟨k00, k01, k02, k03, k04, k05⟩ := cells6 (St.blk0 S4.out)
         have l0 := (St.blk0 S4.out).lt
         have m0 := Nat.lt_succ_of_lt l0
         obtain ⟨k10, k11, k12, k13, k14, k15⟩ := cells6 (St.blk1 S4.out)
         have l1 := (St.blk1 S4.out).lt
         have m1 := Nat.lt_succ_of_lt l1
         obtain ⟨k20, k21, k22⟩ := cells3 (St.blk2 S4.out)
         have l2 := (St.blk2 S4.out).lt
         have m2 := Nat.lt_succ_of_lt l2
         have S5 := Lib.hid (st_block2 S4.out 23 29 [.int .i64 y.tab, .bool y.push, .int .i64 y.str, .int .i64 y.win, .int .i64 y.frm, .int .i64 y.lst] [.bool false, .int .u32 gc, .int .i64 0])
         clear hb)
      | (go_at_call 13; (with_reducible refine (apply_g _ id a HA.out srv _ _ _ H1.out).mono ?_); rintro e w2 ⟨rfl, hb⟩
         have S2 := Lib.hid (St.next S1.out hb)
         clear k00 k01 k02 k03 k04 k05 l0 m0
         obtain ⟨k00, k01, k02, k03, k04, k05⟩ := cells6 (St.blk0 S2.out)
         have l0 := (St.blk0 S2.out).lt
         have m0 := Nat.lt_succ_of_lt l0
         have S3 := Lib.hid (st_block2 S2.out 23 29 [.int .i64 x.tab, .bool x.push, .int .i64 x.str, .int .i64 x.win, .int .i64 x.frm, .int .i64 x.lst] [.bool false, .int .u32 fc, .int .i64 0])
         clear hb))
    go_ret
    exact ⟨rfl, St.below S7.out⟩
theorem lawLast_f {w0 : World} (v : Va) (id : Int) (a : Nat) (ha : a < 4294967296) (b : Nat) (hb : b < 4294967296) (srv : Bool) :
    Calls Try.prog 7 #[(.agg #[.int .i64 v.tab, .bool v.push, .int .i64 v.str, .int .i64 v.win, .int .i64 v.frm, .int .i64 v.lst]), .int .i64 id, .int .u32 (a : Int), .int .u32 (b : Int), .bool srv] w0 fun e w' => e = .returned (.bool true) ∧ Below w0.heap.size w0 w' := lawLast v id a b ha hb srv
end Go.Proofs.Ythdikinpociiaaa
