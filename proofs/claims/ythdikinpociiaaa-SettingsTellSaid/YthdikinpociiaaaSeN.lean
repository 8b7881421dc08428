/- Stage 8: the law SettingsTell: the walk. -/
import Derived.Test.YthdikinpociiaaaSeK
import Derived.Test.YthdikinpociiaaaSeI
import Derived.Test.YthdikinpociiaaaSeJ
import Derived.Deep.RegionHeld
namespace Go.Proofs.Ythdikinpociiaaa
open Go.RowKit Go.Own Go.Set8
set_option linter.unusedVariables false
set_option maxRecDepth 100000
theorem own_put {w : World} {e : TypeId} {size n g c k : Nat} {xs : List Value} (h : w.ownsRow 0 e size (.slice (some ⟨g, 0, none⟩) n c) n xs) (u : Value) : (w.setCell ⟨g, k, none⟩ u).ownsRow 0 e size (.slice (some ⟨g, 0, none⟩) n c) n (xs.set k u) := by
  obtain ⟨cur, hb, h1, h2, h3, rfl⟩ := own_blk h
  have := own_of_blk (n := n) (hb.set_ k u) (by rw [List.length_set]; exact h3) h1 h2
  rwa [List.take_set] at this
theorem own_some {w : World} {base : Nat} {e : TypeId} {size n c : Nat} {A : Option Addr} {xs : List Value} (h : w.ownsRow base e size (.slice A n c) n xs) (hn : 0 < n) : ∃ b, A = some ⟨b, 0, none⟩ := by
  rcases h.2 with ⟨h', h2⟩ | ⟨g, cap, cur, h', _⟩
  · simp only [Value.slice.injEq] at h'
    omega
  · simp only [Value.slice.injEq] at h'
    exact ⟨g, h'.1⟩
theorem st_put2 {S : Nat → Prop} {w0 w : World} {A0 A1 : Ob} {L : List Ob} {e : TypeId} {size n g c : Nat} {xs : List Value} (s : St S w0 w (A0 :: A1 :: SLo 0 e size (.slice (some ⟨g, 0, none⟩) n c) n xs :: L)) (k : Nat) (u : Value) : St S w0 (w.setCell ⟨g, k, none⟩ u) (A0 :: A1 :: SLo 0 e size (.slice (some ⟨g, 0, none⟩) n c) n (xs.set k u) :: L) :=
  St.appended2 s (own_put (St.own2 s) u) (Fr.setCell (S := fun i => some i = (Value.slice (some ⟨g, 0, none⟩) n c).ownBlock) (Fr.refl _ _) (p := ⟨g, k, none⟩) (.inl rfl) u) (.inl rfl)
set_option maxHeartbeats 8000000 in
theorem lawTell {w0 : World} (v u : Va) :
    Calls Try.prog 4 #[(.agg #[.int .i64 v.tab, .bool v.push, .int .i64 v.str, .int .i64 v.win, .int .i64 v.frm, .int .i64 v.lst]), (.agg #[.int .i64 u.tab, .bool u.push, .int .i64 u.str, .int .i64 u.win, .int .i64 u.frm, .int .i64 u.lst])] w0 fun e w' => e = .returned (.bool true) ∧ Below w0.heap.size w0 w' := by
  obtain ⟨L, hL⟩ : ∃ L, tellV v u = L := ⟨_, rfl⟩
  have hn : L.length ≤ 7 := by rw [← hL]; exact tellK_len v u 7
  have H := Lib.hid hL
  have HN := Lib.hid hn
  have S0 := Lib.hid (st2 w0 23 23 [.int .i64 v.tab, .bool v.push, .int .i64 v.str, .int .i64 v.win, .int .i64 v.frm, .int .i64 v.lst] [.int .i64 u.tab, .bool u.push, .int .i64 u.str, .int .i64 u.win, .int .i64 u.frm, .int .i64 u.lst])
  clear hL hn
  go_enter Try.func4, Try.ntmps4
  go_wp2_with (first
    | (go_at_call 9; (with_reducible refine shown8_c.mono ?_); rintro e w1 ⟨rfl, hb⟩
       have S1 := Lib.hid (St.next S0.out hb)
       obtain ⟨k00, k01, k02, k03, k04, k05⟩ := cells6 (St.blk0 S1.out)
       obtain ⟨k10, k11, k12, k13, k14, k15⟩ := cells6 (St.blk1 S1.out)
       clear hb)
    | (go_at_call 15; (with_reducible refine (tell_c v u L H.out).mono ?_); rintro e w2 ⟨A, c, rfl, hs⟩
       have S2 := Lib.hid (St.floor2 (St.add S1.out hs) (Nat.zero_le _))
       clear k00 k01 k02 k03 k04 k05 k10 k11 k12 k13 k14 k15
       obtain ⟨k00, k01, k02, k03, k04, k05⟩ := cells6 (St.blk0 S2.out)
       obtain ⟨k10, k11, k12, k13, k14, k15⟩ := cells6 (St.blk1 S2.out)
       clear hs)
    | (go_at_call 16; (with_reducible refine (rtell_c v u L H.out).mono ?_); rintro e w3 ⟨B, d, rfl, hs⟩
       have S3 := Lib.hid (St.add S2.out hs)
       clear k00 k01 k02 k03 k04 k05 k10 k11 k12 k13 k14 k15
       clear hs)
    | (go_at_call 12; (with_reducible refine (same8_c L (Rd.of_own (St.own2 S3.out)) (Rd.of_own (St.own3 S3.out)) (by have := HN.out; omega)).mono ?_); rintro e w4 ⟨rfl, kk, hk⟩
       have S4 := Lib.hid (St.drop3 (St.drewN S3.out kk))
       rw [← hk] at S4
       clear hk))
  go_loopg [8] L.length (fun gh i w' => ∃ (j : Nat) (xs : List Value), gh + j = L.length ∧ i = .int .i64 (j : Int) ∧ St (fun _ => False) w0 w' [BLo w0.heap.size 23 [.int .i64 v.tab, .bool v.push, .int .i64 v.str, .int .i64 v.win, .int .i64 v.frm, .int .i64 v.lst], BLo (w0.heap.size + 1) 23 [.int .i64 u.tab, .bool u.push, .int .i64 u.str, .int .i64 u.win, .int .i64 u.frm, .int .i64 u.lst], SLo 0 35 2 (.slice A L.length c) L.length xs])
  case atStart => exact ⟨0, _, by omega, rfl, S4.out⟩
  case round =>
    obtain ⟨j, xs, hj, rfl, hs⟩ := hrel
    cases gk with
    | succ g1 =>
      have k1 : (j : Int) < (L.length : Int) := by omega
      have hll : L.length ≤ 7 := HN.out
      obtain ⟨g, rfl⟩ := own_some (St.own2 hs) (by omega)
      obtain ⟨cur, hb, h1, h2, h3, _⟩ := own_blk (St.own2 hs)
      obtain ⟨u0, hc⟩ : ∃ u0, wr.cell? ⟨g, j * 2, none⟩ = some u0 := ⟨cur[j * 2]'(by omega), by rw [hb.cell, List.getElem?_eq_getElem (by omega)]⟩
      have hf := hb.frozen (j * 2)
      have S5 := Lib.hid (st_put2 hs (j * 2) (.int .i64 (-7)))
      have HJ := Lib.hid hj
      clear hs hb h1 h2 h3 hj
      go_wp2
      go_roundg g1
      case measure => omega
      case rel => exact ⟨j + 1, _, by have := HJ.out; omega, by go_num, S5.out⟩
    | zero =>
      obtain rfl : j = L.length := by omega
      have S5 := Lib.hid (St.drop2 hs)
      clear hs
      obtain ⟨k00, k01, k02, k03, k04, k05⟩ := cells6 (St.blk0 S5.out)
      obtain ⟨k10, k11, k12, k13, k14, k15⟩ := cells6 (St.blk1 S5.out)
      have l0 := (St.blk0 S5.out).lt
      have l1 := (St.blk1 S5.out).lt
      have HK12 : Hid (∀ w2, Below wr.heap.size wr w2 → w2.cell? ⟨w0.heap.size, 0, none⟩ = some (.int .i64 v.tab) ∧ w2.cell? ⟨w0.heap.size, 1, none⟩ = some (.bool v.push) ∧ w2.cell? ⟨w0.heap.size, 2, none⟩ = some (.int .i64 v.str) ∧ w2.cell? ⟨w0.heap.size, 3, none⟩ = some (.int .i64 v.win) ∧ w2.cell? ⟨w0.heap.size, 4, none⟩ = some (.int .i64 v.frm) ∧ w2.cell? ⟨w0.heap.size, 5, none⟩ = some (.int .i64 v.lst) ∧ w2.cell? ⟨w0.heap.size + 1, 0, none⟩ = some (.int .i64 u.tab) ∧ w2.cell? ⟨w0.heap.size + 1, 1, none⟩ = some (.bool u.push) ∧ w2.cell? ⟨w0.heap.size + 1, 2, none⟩ = some (.int .i64 u.str) ∧ w2.cell? ⟨w0.heap.size + 1, 3, none⟩ = some (.int .i64 u.win) ∧ w2.cell? ⟨w0.heap.size + 1, 4, none⟩ = some (.int .i64 u.frm) ∧ w2.cell? ⟨w0.heap.size + 1, 5, none⟩ = some (.int .i64 u.lst)) := fun w2 h => ⟨(h.cell l0).trans k00, (h.cell l0).trans k01, (h.cell l0).trans k02, (h.cell l0).trans k03, (h.cell l0).trans k04, (h.cell l0).trans k05, (h.cell l1).trans k10, (h.cell l1).trans k11, (h.cell l1).trans k12, (h.cell l1).trans k13, (h.cell l1).trans k14, (h.cell l1).trans k15⟩
      clear k00 k01 k02 k03 k04 k05 k10 k11 k12 k13 k14 k15
      go_upto_region 8 with (fail)
      first
      | go_region_held (fun w' => w'.cell? ⟨w0.heap.size, 0, none⟩ = some (.int .i64 v.tab) ∧ w'.cell? ⟨w0.heap.size, 1, none⟩ = some (.bool v.push) ∧ w'.cell? ⟨w0.heap.size, 2, none⟩ = some (.int .i64 v.str) ∧ w'.cell? ⟨w0.heap.size, 3, none⟩ = some (.int .i64 v.win) ∧ w'.cell? ⟨w0.heap.size, 4, none⟩ = some (.int .i64 v.frm) ∧ w'.cell? ⟨w0.heap.size, 5, none⟩ = some (.int .i64 v.lst) ∧ w'.cell? ⟨w0.heap.size + 1, 0, none⟩ = some (.int .i64 u.tab) ∧ w'.cell? ⟨w0.heap.size + 1, 1, none⟩ = some (.bool u.push) ∧ w'.cell? ⟨w0.heap.size + 1, 2, none⟩ = some (.int .i64 u.str) ∧ w'.cell? ⟨w0.heap.size + 1, 3, none⟩ = some (.int .i64 u.win) ∧ w'.cell? ⟨w0.heap.size + 1, 4, none⟩ = some (.int .i64 u.frm) ∧ w'.cell? ⟨w0.heap.size + 1, 5, none⟩ = some (.int .i64 u.lst))
        ((refine HK12.out _ ?_; repeat (first | with_reducible exact HB.out | with_reducible exact Below.refl _ _ | with_reducible refine Below.drew ?_)))
        (first
          | (go_at_call 15; (with_reducible refine (tell_c v u L H.out).mono ?_); rintro e w5 ⟨A5, c5, rfl, hs⟩
             have S7 := Lib.hid (St.add S6r.out hs)
             have hB : Below wr.heap.size wr w5 := HB.out.trans (hs.below.mono HB.out.size)
             have HB := Lib.hid hB
             clear hs hB)
          | (go_at_call 15; (with_reducible refine (tell_c v u L H.out).mono ?_); rintro e w5 ⟨A5, c5, rfl, hs⟩
             have S6t := Lib.hid (St.add S5.out.drew hs)
             have hB : Below wr.heap.size wr w5 := (Below.refl _ wr).drew.trans hs.below
             have HB := Lib.hid hB
             clear hs hB)
          | (go_at_call 16; (with_reducible refine (rtell_c v u L H.out).mono ?_); rintro e w6 ⟨A6, c6, rfl, hs⟩
             have S7 := Lib.hid (St.add S6t.out hs)
             have hB : Below wr.heap.size wr w6 := HB.out.trans (hs.below.mono HB.out.size)
             have HB := Lib.hid hB
             clear hs hB)
          | (go_at_call 16; (with_reducible refine (rtell_c v u L H.out).mono ?_); rintro e w6 ⟨A6, c6, rfl, hs⟩
             have S6r := Lib.hid (St.add S5.out.drew hs)
             have hB : Below wr.heap.size wr w6 := (Below.refl _ wr).drew.trans hs.below
             have HB := Lib.hid hB
             clear hs hB)
          | (go_at_call 12; (with_reducible refine (same8_c L (Rd.of_own (St.own2 S7.out)) (Rd.of_own (St.own3 S7.out)) (by have := HN.out; omega)).mono ?_); rintro e w7 ⟨rfl, kk, hk⟩
             have hB : Below wr.heap.size wr w7 := by rw [hk]; exact below_drewN HB.out kk
             have HB := Lib.hid hB
             have S8 := Lib.hid (St.drewN S7.out kk)
             rw [← hk] at S8
             clear hk hB)
          | (go_at_call 12; (with_reducible refine (same8_c L (Rd.of_own (St.own3 S7.out)) (Rd.of_own (St.own2 S7.out)) (by have := HN.out; omega)).mono ?_); rintro e w7 ⟨rfl, kk, hk⟩
             have hB : Below wr.heap.size wr w7 := by rw [hk]; exact below_drewN HB.out kk
             have HB := Lib.hid hB
             have S8 := Lib.hid (St.drewN S7.out kk)
             rw [← hk] at S8
             clear hk hB))
      | fail
      all_goals
        go_wp2
        go_ret
        exact ⟨rfl, St.below S8.out⟩
end Go.Proofs.Ythdikinpociiaaa
