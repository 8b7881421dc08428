/- Stage 8: the law SettingsBack: the walk. -/
import Derived.Test.YthdikinpociiaaaSeP
namespace Go.Proofs.Ythdikinpociiaaa
open Go.RowKit Go.Own Go.Set8
set_option linter.unusedVariables false
set_option maxRecDepth 100000
set_option maxHeartbeats 8000000 in
theorem lawBack {w0 : World} (v u : Va) :
    Calls Try.prog 5 #[(.agg #[.int .i64 v.tab, .bool v.push, .int .i64 v.str, .int .i64 v.win, .int .i64 v.frm, .int .i64 v.lst]), (.agg #[.int .i64 u.tab, .bool u.push, .int .i64 u.str, .int .i64 u.win, .int .i64 u.frm, .int .i64 u.lst])] w0 fun e w' => e = .returned (.bool true) ∧ Below w0.heap.size w0 w' := by
  obtain ⟨M, hM⟩ : ∃ M, mayV v = M := ⟨_, rfl⟩
  obtain ⟨N, hN⟩ : ∃ N, mayV u = N := ⟨_, rfl⟩
  obtain ⟨L, hL⟩ : ∃ L, tellV M N = L := ⟨_, rfl⟩
  have hok : okM N := by rw [← hN]; exact may_ok u
  obtain ⟨b1, b2⟩ := back_pure M N hok
  rw [hL] at b1 b2
  have hlen : L.length ≤ 6 := by rw [← hL]; exact tell_len6 M N 6
  have hids : ∀ s ∈ L, s.2 < 4294967296 := by rw [← hL]; exact tellK_ids M N 7
  have hle : (L.length : Int) ≤ 6 := by omega
  have HM := Lib.hid hM
  have HN := Lib.hid hN
  have HL := Lib.hid hL
  have B1 := Lib.hid b1
  have B2 := Lib.hid b2
  have HI := Lib.hid hids
  have T0 := Lib.hid (tell_none N)
  have S0 := Lib.hid (st2 w0 23 23 [.int .i64 v.tab, .bool v.push, .int .i64 v.str, .int .i64 v.win, .int .i64 v.frm, .int .i64 v.lst] [.int .i64 u.tab, .bool u.push, .int .i64 u.str, .int .i64 u.win, .int .i64 u.frm, .int .i64 u.lst])
  have eqv := fun V => vals_eql V
  clear hM hN hL hok b1 b2 hids
  go_enter Try.func5, Try.ntmps5
  go_wp2_with (first
    | (go_at_call 9; (with_reducible refine shown8_c.mono ?_); rintro e w1 ⟨rfl, hb⟩
       have S1 := Lib.hid (St.next S0.out hb)
       obtain ⟨k00, k01, k02, k03, k04, k05⟩ := cells6 (St.blk0 S1.out)
       have l0 := (St.blk0 S1.out).lt
       have m0 := Nat.lt_succ_of_lt l0
       obtain ⟨k10, k11, k12, k13, k14, k15⟩ := cells6 (St.blk1 S1.out)
       have l1 := (St.blk1 S1.out).lt
       have m1 := Nat.lt_succ_of_lt l1
       have f0 := (St.blk0 S1.out).frozen
       clear hb)
    | (go_at_call 17; (with_reducible refine (may_c u N HN.out).mono ?_); rintro e w3 ⟨rfl, hb⟩
       have S3 := Lib.hid (St.next S2s.out hb)
       clear k00 k01 k02 k03 k04 k05 l0 m0
       clear k10 k11 k12 k13 k14 k15 l1 m1
       obtain ⟨k00, k01, k02, k03, k04, k05⟩ := cells6 (St.blk0 S3.out)
       have l0 := (St.blk0 S3.out).lt
       have m0 := Nat.lt_succ_of_lt l0
       obtain ⟨k10, k11, k12, k13, k14, k15⟩ := cells6 (St.blk1 S3.out)
       have l1 := (St.blk1 S3.out).lt
       have m1 := Nat.lt_succ_of_lt l1
       have f1 := (St.blk1 S3.out).frozen
       have S3s := Lib.hid (St.set1 (St.set1 (St.set1 (St.set1 (St.set1 (St.set1 S3.out 0 (.int .i64 N.tab)) 1 (.bool N.push)) 2 (.int .i64 N.str)) 3 (.int .i64 N.win)) 4 (.int .i64 N.frm)) 5 (.int .i64 N.lst))
       clear hb)
    | (go_at_call 17; (with_reducible refine (may_c v M HM.out).mono ?_); rintro e w2 ⟨rfl, hb⟩
       have S2 := Lib.hid (St.next S1.out hb)
       clear k00 k01 k02 k03 k04 k05 l0 m0
       clear k10 k11 k12 k13 k14 k15 l1 m1
       clear f0
       obtain ⟨k00, k01, k02, k03, k04, k05⟩ := cells6 (St.blk0 S2.out)
       have l0 := (St.blk0 S2.out).lt
       have m0 := Nat.lt_succ_of_lt l0
       obtain ⟨k10, k11, k12, k13, k14, k15⟩ := cells6 (St.blk1 S2.out)
       have l1 := (St.blk1 S2.out).lt
       have m1 := Nat.lt_succ_of_lt l1
       have f0 := (St.blk0 S2.out).frozen
       have S2s := Lib.hid (St.set0 (St.set0 (St.set0 (St.set0 (St.set0 (St.set0 S2.out 0 (.int .i64 M.tab)) 1 (.bool M.push)) 2 (.int .i64 M.str)) 3 (.int .i64 M.win)) 4 (.int .i64 M.frm)) 5 (.int .i64 M.lst))
       clear hb)
    | (go_at_call 15; (with_reducible refine (tell_c N N [] T0.out).mono ?_); rintro e w7 ⟨A7, c7, rfl, hs⟩
       have S9 := Lib.hid (St.add S8.out hs)
       clear hs)
    | (go_at_call 15; (with_reducible refine (tell_c M N L HL.out).mono ?_); rintro e w4 ⟨A, c, rfl, hs⟩
       have S4 := Lib.hid (St.add S3s.out hs)
       clear k00 k01 k02 k03 k04 k05 l0 m0
       clear k10 k11 k12 k13 k14 k15 l1 m1
       obtain ⟨k00, k01, k02, k03, k04, k05⟩ := cells6 (St.blk0 S4.out)
       have l0 := (St.blk0 S4.out).lt
       have m0 := Nat.lt_succ_of_lt l0
       obtain ⟨k10, k11, k12, k13, k14, k15⟩ := cells6 (St.blk1 S4.out)
       have l1 := (St.blk1 S4.out).lt
       have m1 := Nat.lt_succ_of_lt l1
       clear hs)
    | (go_at_call 10; (with_reducible refine (all_g N L false N false 0 B2.out (Rd.of_own (St.own2 S6.out)) HI.out (by omega)).mono ?_); rintro e w6 ⟨rfl, hb⟩
       have S7 := Lib.hid (St.next S6.out hb)
       clear k00 k01 k02 k03 k04 k05 l0 m0
       clear k10 k11 k12 k13 k14 k15 l1 m1
       obtain ⟨k00, k01, k02, k03, k04, k05⟩ := cells6 (St.blk0 S7.out)
       have l0 := (St.blk0 S7.out).lt
       have m0 := Nat.lt_succ_of_lt l0
       obtain ⟨k10, k11, k12, k13, k14, k15⟩ := cells6 (St.blk1 S7.out)
       have l1 := (St.blk1 S7.out).lt
       have m1 := Nat.lt_succ_of_lt l1
       obtain ⟨k30, k31, k32, k33, k34, k35⟩ := cells6 (St.blk3 S7.out)
       have l3 := (St.blk3 S7.out).lt
       have m3 := Nat.lt_succ_of_lt l3
       obtain ⟨k40, k41, k42⟩ := cells3 (St.blk4 S7.out)
       have l4 := (St.blk4 S7.out).lt
       have m4 := Nat.lt_succ_of_lt l4
       have S8 := Lib.hid (st_block2 S7.out 23 29 [.int .i64 N.tab, .bool N.push, .int .i64 N.str, .int .i64 N.win, .int .i64 N.frm, .int .i64 N.lst] [.bool false, .int .u32 0, .int .i64 0])
       clear hb)
    | (go_at_call 10; (with_reducible refine (all_g M L false N false 0 B1.out (Rd.of_own (St.own2 S4.out)) HI.out (by omega)).mono ?_); rintro e w5 ⟨rfl, hb⟩
       have S5 := Lib.hid (St.next S4.out hb)
       clear k00 k01 k02 k03 k04 k05 l0 m0
       clear k10 k11 k12 k13 k14 k15 l1 m1
       obtain ⟨k00, k01, k02, k03, k04, k05⟩ := cells6 (St.blk0 S5.out)
       have l0 := (St.blk0 S5.out).lt
       have m0 := Nat.lt_succ_of_lt l0
       obtain ⟨k10, k11, k12, k13, k14, k15⟩ := cells6 (St.blk1 S5.out)
       have l1 := (St.blk1 S5.out).lt
       have m1 := Nat.lt_succ_of_lt l1
       have S6 := Lib.hid (st_block2 S5.out 23 29 [.int .i64 N.tab, .bool N.push, .int .i64 N.str, .int .i64 N.win, .int .i64 N.frm, .int .i64 N.lst] [.bool false, .int .u32 0, .int .i64 0])
       clear hb))
  go_ret
  exact ⟨rfl, St.below S9.out⟩
end Go.Proofs.Ythdikinpociiaaa
