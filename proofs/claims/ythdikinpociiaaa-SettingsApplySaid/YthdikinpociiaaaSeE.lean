/- Stage 8: All, the program's. -/
import Derived.Test.YthdikinpociiaaaSeL
namespace Go.Proofs.Ythdikinpociiaaa
open Go.RowKit Go.Own Go.Set8
set_option linter.unusedVariables false
set_option maxRecDepth 100000
theorem setVG1 {S : Nat → Prop} {w0 w : World} {L : List Ob} {A0 : Ob} {p q : Nat} {t u : TypeId} {a b c d e f k l m : Value} (s : St S w0 w (A0 :: BLo p t [a, b, c, d, e, f] :: BLo q u [k, l, m] :: L)) (a' b' c' d' e' f' k' l' m' : Value) :
    St S w0 (((((((((w.setCell ⟨p, 0, none⟩ a').setCell ⟨p, 1, none⟩ b').setCell ⟨p, 2, none⟩ c').setCell ⟨p, 3, none⟩ d').setCell ⟨p, 4, none⟩ e').setCell ⟨p, 5, none⟩ f').setCell ⟨q, 0, none⟩ k').setCell ⟨q, 1, none⟩ l').setCell ⟨q, 2, none⟩ m') (A0 :: BLo p t [a', b', c', d', e', f'] :: BLo q u [k', l', m'] :: L) :=
  St.set2 (St.set2 (St.set2 (St.set1 (St.set1 (St.set1 (St.set1 (St.set1 (St.set1 s 0 a') 1 b') 2 c') 3 d') 4 e') 5 f') 0 k') 1 l') 2 m'
theorem setGV1 {S : Nat → Prop} {w0 w : World} {L : List Ob} {A0 : Ob} {p q : Nat} {t u : TypeId} {a b c d e f k l m : Value} (s : St S w0 w (A0 :: BLo p t [a, b, c, d, e, f] :: BLo q u [k, l, m] :: L)) (a' b' c' d' e' f' k' l' m' : Value) :
    St S w0 (((((((((w.setCell ⟨q, 0, none⟩ k').setCell ⟨q, 1, none⟩ l').setCell ⟨q, 2, none⟩ m').setCell ⟨p, 0, none⟩ a').setCell ⟨p, 1, none⟩ b').setCell ⟨p, 2, none⟩ c').setCell ⟨p, 3, none⟩ d').setCell ⟨p, 4, none⟩ e').setCell ⟨p, 5, none⟩ f') (A0 :: BLo p t [a', b', c', d', e', f'] :: BLo q u [k', l', m'] :: L) :=
  St.set1 (St.set1 (St.set1 (St.set1 (St.set1 (St.set1 (St.set2 (St.set2 (St.set2 s 0 k') 1 l') 2 m') 0 a') 1 b') 2 c') 3 d') 4 e') 5 f'
section
variable {w : World}
theorem apply_g (v : Va) (a : Int) (n : Nat) (hn : n < 4294967296) (srv : Bool) (x : Va) (gi : Bool) (gc : Int) (h : applyV v (a, n) srv = (x, ⟨gi, gc⟩)) : Calls Try.prog 13 #[(.agg #[.int .i64 v.tab, .bool v.push, .int .i64 v.str, .int .i64 v.win, .int .i64 v.frm, .int .i64 v.lst]), (.agg #[.int .i64 a, .int .u32 (n : Int)]), .bool srv] w fun e w' => e = .returned (.tuple #[(.agg #[.int .i64 x.tab, .bool x.push, .int .i64 x.str, .int .i64 x.win, .int .i64 x.frm, .int .i64 x.lst]), .agg #[.bool gi, .int .u32 gc, .int .i64 0]]) ∧ Below w.heap.size w w' := apply_c v a n hn srv x _ h
set_option maxHeartbeats 1000000 in
theorem all_c (v : Va) (l : List (Int × Nat)) (srv : Bool) (x : Va) (g : Ga) (h : allV v l srv = (x, g)) {A : Option Addr} {n c : Nat} (hl : Rd w 2 A n (scells l)) (hok : ∀ s ∈ l, s.2 < 4294967296) (hn : n ≤ 9223372036854775807) :
    Calls Try.prog 10 #[(.agg #[.int .i64 v.tab, .bool v.push, .int .i64 v.str, .int .i64 v.win, .int .i64 v.frm, .int .i64 v.lst]), .slice A n c, .bool srv] w fun e w' => e = .returned (.tuple #[(.agg #[.int .i64 x.tab, .bool x.push, .int .i64 x.str, .int .i64 x.win, .int .i64 x.frm, .int .i64 x.lst]), (.agg #[.bool g.is, .int .u32 g.code, .int .i64 0])]) ∧ Below w.heap.size w w' := by
  have S4 := Lib.hid (st4 w 23 23 29 23 [.int .i64 v.tab, .bool v.push, .int .i64 v.str, .int .i64 v.win, .int .i64 v.frm, .int .i64 v.lst] [.int .i64 0, .bool false, .int .i64 0, .int .i64 0, .int .i64 0, .int .i64 0] [.bool false, .int .u32 0, .int .i64 0] [.int .i64 v.tab, .bool v.push, .int .i64 v.str, .int .i64 v.win, .int .i64 v.frm, .int .i64 v.lst])
  have HL := Lib.hid hl
  have HN := Lib.hid (rd_set_len hl)
  have HK := Lib.hid hok
  have H := Lib.hid h
  clear h hl hok
  go_enter Try.func10, Try.ntmps10
  go_wp2
  go_loopg [15] n (fun gh i w' => ∃ (k : Nat) (y : Va), gh + k = n ∧ i = .int .i64 (k : Int) ∧ allW v srv y (l.drop k) = (x, g) ∧ St (fun _ => False) w w' [BLo w.heap.size 23 [.int .i64 v.tab, .bool v.push, .int .i64 v.str, .int .i64 v.win, .int .i64 v.frm, .int .i64 v.lst], BLo (w.heap.size + 1) 23 [.int .i64 0, .bool false, .int .i64 0, .int .i64 0, .int .i64 0, .int .i64 0], BLo (w.heap.size + 1 + 1) 29 [.bool false, .int .u32 0, .int .i64 0], BLo (w.heap.size + 1 + 1 + 1) 23 [.int .i64 y.tab, .bool y.push, .int .i64 y.str, .int .i64 y.win, .int .i64 y.frm, .int .i64 y.lst]])
  case atStart => exact ⟨0, v, by omega, rfl, H.out, S4.out⟩
  case round =>
    obtain ⟨k, y, hk, rfl, hr, hs⟩ := hrel
    cases gk with
    | succ g1 =>
      have hkn : k < l.length := by rw [HN.out]; omega
      obtain ⟨⟨a, m⟩, ha⟩ : ∃ s, l[k]? = some s := ⟨_, List.getElem?_eq_getElem hkn⟩
      obtain ⟨b, o, rfl, c0, c1⟩ := rd_set HL.out ha
      have e0 := hs.fr.cell c0 (fun h => h)
      have e1 := hs.fr.cell c1 (fun h => h)
      have hm := HK.out _ (List.mem_of_getElem? ha)
      have hd : l.drop k = (a, m) :: l.drop (k + 1) := by
        have := (List.getElem?_eq_some_iff.1 ha)
        rw [List.drop_eq_getElem_cons hkn, this.2]
      obtain ⟨y1, g1', hap⟩ : ∃ y1 g1', applyV y (a, m) srv = (y1, g1') := ⟨_, _, rfl⟩
      rw [hd, allW_step hap] at hr
      have HM := Lib.hid hm
      have HA := Lib.hid hap
      have HJ := Lib.hid hk
      have k1 : (k : Int) < (n : Int) := by omega
      have HS := Lib.hid hs
      have S6 := Lib.hid (st_block2 hs 35 29 [.int .i64 a, .int .u32 (m : Int)] [.bool false, .int .u32 0, .int .i64 0])
      obtain ⟨z0, z1, z2, z3, z4, z5⟩ := cells6 (St.blk3 S6.out)
      have hl3 := (St.blk3 hs).lt
      have ne5 : ¬ w.heap.size = wr.heap.size := by omega
      have ne6 : ¬ wr.heap.size = w.heap.size := by omega
      have ne7 : ¬ w.heap.size + 1 = wr.heap.size := by omega
      have ne8 : ¬ wr.heap.size = w.heap.size + 1 := by omega
      have ne1 : ¬ w.heap.size + 1 + 1 + 1 = wr.heap.size + 1 := by omega
      have ne2 : ¬ wr.heap.size + 1 = w.heap.size + 1 + 1 + 1 := by omega
      have ne3 : ¬ w.heap.size + 1 + 1 + 1 = wr.heap.size := by omega
      have ne4 : ¬ wr.heap.size = w.heap.size + 1 + 1 + 1 := by omega
      have HR := Lib.hid hr
      have ww := apply_is hap
      clear hs hd hm ha c0 c1 hr hk
      generalize w.heap.size + 1 + 1 + 1 = p3 at *
      rcases ww with ⟨_, rfl⟩ | ⟨hg, rfl, _⟩
      · have HR2 : Hid (allW v srv y1 (l.drop (k + 1)) = (x, g)) := HR.out
        clear HR hap
        go_wp2_with (first
          | (go_at_call 13; (with_reducible refine (apply_g _ a m HM.out srv _ _ _ HA.out).mono ?_); rintro e w1 ⟨rfl, hb⟩
             clear z0 z1 z2 z3 z4 z5
             have S7 := Lib.hid (St.next S6.out hb)
             obtain ⟨z0, z1, z2, z3, z4, z5⟩ := cells6 (St.blk3 S7.out)
             obtain ⟨u0, u1, u2⟩ := cells3 (St.blk5 S7.out)
             have f2 := (St.blk3 S7.out).frozen
             have f3 := (St.blk5 S7.out).frozen
             clear hb))
        have S8 := Lib.hid (St.drop4 (St.drop4 (St.set5 (St.set5 (St.set5 (St.set3 (St.set3 (St.set3 (St.set3 (St.set3 (St.set3 S7.out 0 (.int .i64 y1.tab)) 1 (.bool y1.push)) 2 (.int .i64 y1.str)) 3 (.int .i64 y1.win)) 4 (.int .i64 y1.frm)) 5 (.int .i64 y1.lst)) 0 (.bool false)) 1 (.int .u32 0)) 2 (.int .i64 0))))
        go_roundg g1
        case measure => omega
        case rel => exact ⟨k + 1, y1, by have := HJ.out; omega, by go_num, HR2.out, S8.out⟩
      · obtain ⟨gi, gc⟩ := g1'
        simp only at hg
        subst hg
        have HR2 : Hid ((v, (⟨true, gc⟩ : Ga)) = (x, g)) := HR.out
        clear HR hap
        go_wp2_with (first
          | (go_at_call 13; (with_reducible refine (apply_g _ a m HM.out srv _ _ _ HA.out).mono ?_); rintro e w1 ⟨rfl, hb⟩
             clear z0 z1 z2 z3 z4 z5
             have S7 := Lib.hid (St.next S6.out hb)
             obtain ⟨z0, z1, z2, z3, z4, z5⟩ := cells6 (St.blk3 S7.out)
             obtain ⟨u0, u1, u2⟩ := cells3 (St.blk5 S7.out)
             have f2 := (St.blk3 S7.out).frozen
             have f3 := (St.blk5 S7.out).frozen
             have S8 := Lib.hid (St.set5 (St.set5 (St.set5 (St.set3 (St.set3 (St.set3 (St.set3 (St.set3 (St.set3 S7.out 0 (.int .i64 y1.tab)) 1 (.bool y1.push)) 2 (.int .i64 y1.str)) 3 (.int .i64 y1.win)) 4 (.int .i64 y1.frm)) 5 (.int .i64 y1.lst)) 0 (.bool true)) 1 (.int .u32 gc)) 2 (.int .i64 0))
             clear hb))
        obtain ⟨w3, hw3⟩ : ∃ w3, w3 = (((((((((w1.setCell ⟨p3, 0, none⟩ (.int .i64 y1.tab)).setCell ⟨p3, 1, none⟩ (.bool y1.push)).setCell ⟨p3, 2, none⟩ (.int .i64 y1.str)).setCell ⟨p3, 3, none⟩ (.int .i64 y1.win)).setCell ⟨p3, 4, none⟩ (.int .i64 y1.frm)).setCell ⟨p3, 5, none⟩ (.int .i64 y1.lst)).setCell ⟨wr.heap.size + 1, 0, none⟩ (.bool true)).setCell ⟨wr.heap.size + 1, 1, none⟩ (.int .u32 gc)).setCell ⟨wr.heap.size + 1, 2, none⟩ (.int .i64 0)) := ⟨_, rfl⟩
        rw [← hw3] at S8 ⊢
        clear hw3
        obtain ⟨a0, a1, a2, a3, a4, a5⟩ := cells6 (St.blk0 S8.out)
        obtain ⟨b0, b1, b2, b3, b4, b5⟩ := cells6 (St.blk1 S8.out)
        obtain ⟨d0, d1, d2⟩ := cells3 (St.blk2 S8.out)
        obtain ⟨i0, i1, i2⟩ := cells3 (St.blk5 S8.out)
        have f4 := (St.blk1 S8.out).frozen
        have f5 := (St.blk2 S8.out).frozen
        obtain ⟨rfl, rfl⟩ := Prod.mk.inj HR2.out
        go_region
        all_goals
          go_wp2
          first
            | exact bodyPost_ret (res_vg (p := 6) (q := 7) rfl rfl rfl (St.blk1 ((setVG1 S8.out _ _ _ _ _ _ _ _ _).drew)) (St.blk2 ((setVG1 S8.out _ _ _ _ _ _ _ _ _).drew))) rfl ⟨rfl, St.below ((setVG1 S8.out _ _ _ _ _ _ _ _ _).drew)⟩
            | exact bodyPost_ret (res_vg (p := 6) (q := 7) rfl rfl rfl (St.blk1 ((setGV1 S8.out _ _ _ _ _ _ _ _ _).drew)) (St.blk2 ((setGV1 S8.out _ _ _ _ _ _ _ _ _).drew))) rfl ⟨rfl, St.below ((setGV1 S8.out _ _ _ _ _ _ _ _ _).drew)⟩
    | zero =>
      obtain rfl : k = n := by omega
      have HX : Hid ((y, (⟨false, 0⟩ : Ga)) = (x, g)) := by
        rw [List.drop_of_length_le (by rw [HN.out]; exact Nat.le_refl _)] at hr
        exact hr
      obtain ⟨rfl, rfl⟩ := Prod.mk.inj HX.out
      have HS := Lib.hid hs
      obtain ⟨z0, z1, z2, z3, z4, z5⟩ := cells6 (St.blk3 hs)
      obtain ⟨x0, x1, x2, x3, x4, x5⟩ := cells6 (St.blk1 hs)
      obtain ⟨u0, u1, u2⟩ := cells3 (St.blk2 hs)
      have f1 := (St.blk1 hs).frozen
      have f2 := (St.blk2 hs).frozen
      clear hs hr HX hk
      go_wp2
      exact bodyPost_ret (res_vg (p := 6) (q := 7) rfl rfl rfl (St.blk1 (setVG1 HS.out _ _ _ _ _ _ _ _ _)) (St.blk2 (setVG1 HS.out _ _ _ _ _ _ _ _ _))) rfl ⟨rfl, St.below (setVG1 HS.out _ _ _ _ _ _ _ _ _)⟩
end
end Go.Proofs.Ythdikinpociiaaa
