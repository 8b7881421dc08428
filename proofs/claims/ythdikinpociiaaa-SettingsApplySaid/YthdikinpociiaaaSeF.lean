/- Stage 8: All, the document's. -/
import Derived.Test.YthdikinpociiaaaSeE
import Derived.Test.YthdikinpociiaaaSeD
import Derived.Deep.RegionHeld
namespace Go.Proofs.Ythdikinpociiaaa
open Go.RowKit Go.Own Go.Set8
set_option linter.unusedVariables false
set_option maxRecDepth 100000
theorem blk_next {w w' : World} {g : Nat} {t : TypeId} {cs : List Value} (h : Blk w g t cs) (hb : Below w.heap.size w w') : Blk w' g t cs := h.below hb h.lt
theorem blk_at1 (w : World) (o : Obj) (t : TypeId) (cs : List Value) : Blk ((w.alloc o).alloc (.cells cs.toArray t)) (w.heap.size + 1) t cs := by
  have h := Blk.new (w.alloc o) t cs
  simpa using h
theorem setF {w : World} {g : Nat} {t : TypeId} {a b c a' b' c' : Value} (h : Blk w g t [a, b, c]) : Blk (((w.setCell ⟨g, 0, none⟩ a').setCell ⟨g, 1, none⟩ b').setCell ⟨g, 2, none⟩ c') g t [a', b', c'] := ((h.set_ 0 a').set_ 1 b').set_ 2 c'
theorem farV {w : World} {g i : Nat} {t : TypeId} {cs : List Value} {a' b' c' d' e' f' : Value} (h : Blk w i t cs) (hn : i ≠ g) : Blk ((((((w.setCell ⟨g, 0, none⟩ a').setCell ⟨g, 1, none⟩ b').setCell ⟨g, 2, none⟩ c').setCell ⟨g, 3, none⟩ d').setCell ⟨g, 4, none⟩ e').setCell ⟨g, 5, none⟩ f') i t cs :=
  (((((h.far (p := ⟨g, 0, none⟩) hn a').far (p := ⟨g, 1, none⟩) hn b').far (p := ⟨g, 2, none⟩) hn c').far (p := ⟨g, 3, none⟩) hn d').far (p := ⟨g, 4, none⟩) hn e').far (p := ⟨g, 5, none⟩) hn f'
theorem farF {w : World} {g i : Nat} {t : TypeId} {cs : List Value} {a' b' c' : Value} (h : Blk w i t cs) (hn : i ≠ g) : Blk (((w.setCell ⟨g, 0, none⟩ a').setCell ⟨g, 1, none⟩ b').setCell ⟨g, 2, none⟩ c') i t cs :=
  ((h.far (p := ⟨g, 0, none⟩) hn a').far (p := ⟨g, 1, none⟩) hn b').far (p := ⟨g, 2, none⟩) hn c'
theorem belV {B : Nat} {a0 w : World} {g : Nat} {a' b' c' d' e' f' : Value} (h : Below B a0 w) (hn : B ≤ g) : Below B a0 ((((((w.setCell ⟨g, 0, none⟩ a').setCell ⟨g, 1, none⟩ b').setCell ⟨g, 2, none⟩ c').setCell ⟨g, 3, none⟩ d').setCell ⟨g, 4, none⟩ e').setCell ⟨g, 5, none⟩ f') :=
  (((((h.setCell (p := ⟨g, 0, none⟩) hn a').setCell (p := ⟨g, 1, none⟩) hn b').setCell (p := ⟨g, 2, none⟩) hn c').setCell (p := ⟨g, 3, none⟩) hn d').setCell (p := ⟨g, 4, none⟩) hn e').setCell (p := ⟨g, 5, none⟩) hn f'
theorem belF {B : Nat} {a0 w : World} {g : Nat} {a' b' c' : Value} (h : Below B a0 w) (hn : B ≤ g) : Below B a0 (((w.setCell ⟨g, 0, none⟩ a').setCell ⟨g, 1, none⟩ b').setCell ⟨g, 2, none⟩ c') :=
  ((h.setCell (p := ⟨g, 0, none⟩) hn a').setCell (p := ⟨g, 1, none⟩) hn b').setCell (p := ⟨g, 2, none⟩) hn c'
theorem blk_newV (w : World) (g : Nat) (a' b' c' d' e' f' : Value) (t : TypeId) (cs : List Value) : Blk (((((((w.setCell ⟨g, 0, none⟩ a').setCell ⟨g, 1, none⟩ b').setCell ⟨g, 2, none⟩ c').setCell ⟨g, 3, none⟩ d').setCell ⟨g, 4, none⟩ e').setCell ⟨g, 5, none⟩ f').alloc (.cells cs.toArray t)) w.heap.size t cs := by
  have h := Blk.new ((((((w.setCell ⟨g, 0, none⟩ a').setCell ⟨g, 1, none⟩ b').setCell ⟨g, 2, none⟩ c').setCell ⟨g, 3, none⟩ d').setCell ⟨g, 4, none⟩ e').setCell ⟨g, 5, none⟩ f') t cs
  simpa using h
theorem blk_newF (w : World) (g : Nat) (a' b' c' : Value) (t : TypeId) (cs : List Value) : Blk ((((w.setCell ⟨g, 0, none⟩ a').setCell ⟨g, 1, none⟩ b').setCell ⟨g, 2, none⟩ c').alloc (.cells cs.toArray t)) w.heap.size t cs := by
  have h := Blk.new (((w.setCell ⟨g, 0, none⟩ a').setCell ⟨g, 1, none⟩ b').setCell ⟨g, 2, none⟩ c') t cs
  simpa using h
section
variable {w : World}
theorem rapply_g (v : Va) (a : Int) (n : Nat) (hn : n < 4294967296) (srv : Bool) (x : Va) (gi : Bool) (gc : Int) (h : applyV v (a, n) srv = (x, ⟨gi, gc⟩)) : Calls Try.prog 14 #[(.agg #[.int .i64 v.tab, .bool v.push, .int .i64 v.str, .int .i64 v.win, .int .i64 v.frm, .int .i64 v.lst]), (.agg #[.int .i64 a, .int .u32 (n : Int)]), .bool srv] w fun e w' => e = .returned (.tuple #[(.agg #[.int .i64 x.tab, .bool x.push, .int .i64 x.str, .int .i64 x.win, .int .i64 x.frm, .int .i64 x.lst]), .agg #[.bool gi, .int .u32 gc, .int .i64 0]]) ∧ Below w.heap.size w w' := rapply_c v a n hn srv x _ h
set_option maxHeartbeats 8000000 in
theorem rall_c (v : Va) (l : List (Int × Nat)) (srv : Bool) (x : Va) (g : Ga) (h : allV v l srv = (x, g)) {A : Option Addr} {n c : Nat} (hl : Rd w 2 A n (scells l)) (hok : ∀ s ∈ l, s.2 < 4294967296) (hn : n ≤ 9223372036854775807) :
    Calls Try.prog 11 #[(.agg #[.int .i64 v.tab, .bool v.push, .int .i64 v.str, .int .i64 v.win, .int .i64 v.frm, .int .i64 v.lst]), .slice A n c, .bool srv] w fun e w' => e = .returned (.tuple #[(.agg #[.int .i64 x.tab, .bool x.push, .int .i64 x.str, .int .i64 x.win, .int .i64 x.frm, .int .i64 x.lst]), (.agg #[.bool g.is, .int .u32 g.code, .int .i64 0])]) ∧ Below w.heap.size w w' := by
  have S4 := Lib.hid (st4 w 23 23 29 23 [.int .i64 v.tab, .bool v.push, .int .i64 v.str, .int .i64 v.win, .int .i64 v.frm, .int .i64 v.lst] [.int .i64 0, .bool false, .int .i64 0, .int .i64 0, .int .i64 0, .int .i64 0] [.bool false, .int .u32 0, .int .i64 0] [.int .i64 v.tab, .bool v.push, .int .i64 v.str, .int .i64 v.win, .int .i64 v.frm, .int .i64 v.lst])
  have HL := Lib.hid hl
  have HN := Lib.hid (rd_set_len hl)
  have HK := Lib.hid hok
  have H := Lib.hid h
  clear h hl hok
  go_enter Try.func11, Try.ntmps11
  go_wp2
  go_loopg [9] n (fun gh i w' => ∃ (k : Nat) (y : Va), gh + k = n ∧ i = .int .i64 (k : Int) ∧ allW v srv y (l.drop k) = (x, g) ∧ St (fun _ => False) w w' [BLo w.heap.size 23 [.int .i64 v.tab, .bool v.push, .int .i64 v.str, .int .i64 v.win, .int .i64 v.frm, .int .i64 v.lst], BLo (w.heap.size + 1) 23 [.int .i64 0, .bool false, .int .i64 0, .int .i64 0, .int .i64 0, .int .i64 0], BLo (w.heap.size + 1 + 1) 29 [.bool false, .int .u32 0, .int .i64 0], BLo (w.heap.size + 1 + 1 + 1) 23 [.int .i64 y.tab, .bool y.push, .int .i64 y.str, .int .i64 y.win, .int .i64 y.frm, .int .i64 y.lst]])
  case atStart => exact ⟨0, v, by omega, rfl, H.out, S4.out⟩
  case round =>
    obtain ⟨k, y, hk, rfl, hr, hs⟩ := hrel
    cases gk with
    | succ g1 =>
      have hkn : k < l.length := by rw [HN.out]; omega
      obtain ⟨⟨a, m⟩, ha⟩ : ∃ s, l[k]? = some s := ⟨_, List.getElem?_eq_getElem hkn⟩
      obtain ⟨b, o, rfl, c0, c1⟩ := rd_set HL.out ha
      have e0 := hs.fr.cell c0 (fun h => h)
      have e1 := hs.fr.cell c1 (fun h => h)
      have hm := HK.out _ (List.mem_of_getElem? ha)
      have hd : l.drop k = (a, m) :: l.drop (k + 1) := by
        have := (List.getElem?_eq_some_iff.1 ha)
        rw [List.drop_eq_getElem_cons hkn, this.2]
      obtain ⟨y1, g1', hap⟩ : ∃ y1 g1', applyV y (a, m) srv = (y1, g1') := ⟨_, _, rfl⟩
      rw [hd, allW_step hap] at hr
      have HM := Lib.hid hm
      have HA := Lib.hid hap
      have HJ := Lib.hid hk
      have k1 : (k : Int) < (n : Int) := by omega
      have HS := Lib.hid hs
      obtain ⟨z0, z1, z2, z3, z4, z5⟩ := cells6 (St.blk3 hs)
      have hl3 := (St.blk3 hs).lt
      have hl33 : w.heap.size + 1 + 1 < wr.heap.size := by omega
      have hbl : b < wr.heap.size := World.block_lt_of_cell? _ _ e0
      have hbl1 : b < wr.heap.size + 1 := by omega
      have hl31 : w.heap.size + 1 + 1 + 1 < wr.heap.size + 1 := by omega
      have ne5 : ¬ w.heap.size = wr.heap.size := by omega
      have ne6 : ¬ wr.heap.size = w.heap.size := by omega
      have ne7 : ¬ w.heap.size + 1 = wr.heap.size := by omega
      have ne8 : ¬ wr.heap.size = w.heap.size + 1 := by omega
      have ne1 : ¬ w.heap.size + 1 + 1 + 1 = wr.heap.size + 1 := by omega
      have ne2 : ¬ wr.heap.size + 1 = w.heap.size + 1 + 1 + 1 := by omega
      have ne3 : ¬ w.heap.size + 1 + 1 + 1 = wr.heap.size := by omega
      have ne4 : ¬ wr.heap.size = w.heap.size + 1 + 1 + 1 := by omega
      have HR := Lib.hid hr
      have ww := apply_is hap
      clear hs hd hm ha c0 c1 hr hk
      generalize w.heap.size + 1 + 1 + 1 = p3 at *
      obtain ⟨gi, gc⟩ := g1'
      have HK8 : Hid (∀ w2, Below wr.heap.size wr w2 → w2.cell? ⟨p3, 0, none⟩ = some (.int .i64 y.tab) ∧ w2.cell? ⟨p3, 1, none⟩ = some (.bool y.push) ∧ w2.cell? ⟨p3, 2, none⟩ = some (.int .i64 y.str) ∧ w2.cell? ⟨p3, 3, none⟩ = some (.int .i64 y.win) ∧ w2.cell? ⟨p3, 4, none⟩ = some (.int .i64 y.frm) ∧ w2.cell? ⟨p3, 5, none⟩ = some (.int .i64 y.lst) ∧ w2.cell? ⟨b, o + k * 2, none⟩ = some (.int .i64 a) ∧ w2.cell? ⟨b, o + k * 2 + 1, none⟩ = some (.int .u32 (m : Int))) := fun w2 h => ⟨(h.cell hl3).trans z0, (h.cell hl3).trans z1, (h.cell hl3).trans z2, (h.cell hl3).trans z3, (h.cell hl3).trans z4, (h.cell hl3).trans z5, (h.cell hbl).trans e0, (h.cell hbl).trans e1⟩
      go_upto_region 5 with (fail)
      go_cut [10, 11] (fun s t wx => ∃ q r : Nat, s = .pointer (some ⟨q, 0, none⟩) ∧ t = .pointer (some ⟨r, 0, none⟩) ∧ Blk wx q 23 [.int .i64 y1.tab, .bool y1.push, .int .i64 y1.str, .int .i64 y1.win, .int .i64 y1.frm, .int .i64 y1.lst] ∧ Blk wx r 29 [.bool gi, .int .u32 gc, .int .i64 0] ∧ Below wr.heap.size wr wx ∧ wr.heap.size ≤ q ∧ wr.heap.size ≤ r)
      case first =>
        first
        | go_region_held (fun w' => w'.cell? ⟨p3, 0, none⟩ = some (.int .i64 y.tab) ∧ w'.cell? ⟨p3, 1, none⟩ = some (.bool y.push) ∧ w'.cell? ⟨p3, 2, none⟩ = some (.int .i64 y.str) ∧ w'.cell? ⟨p3, 3, none⟩ = some (.int .i64 y.win) ∧ w'.cell? ⟨p3, 4, none⟩ = some (.int .i64 y.frm) ∧ w'.cell? ⟨p3, 5, none⟩ = some (.int .i64 y.lst) ∧ w'.cell? ⟨b, o + k * 2, none⟩ = some (.int .i64 a) ∧ w'.cell? ⟨b, o + k * 2 + 1, none⟩ = some (.int .u32 (m : Int)))
          ((refine HK8.out _ ?_; repeat (first | with_reducible exact HB.out | with_reducible exact Below.refl _ _ | with_reducible refine Below.drew ?_ | with_reducible refine Below.setCell ?_ (by first | omega | (simp; done) | (simp; omega)) _ | with_reducible refine Below.alloc ?_ (by first | omega | (simp; done) | (simp; omega)) _)))
          (first
          | (go_at_call 14; (with_reducible refine (rapply_g _ a m HM.out srv _ _ _ HA.out).mono ?_); rintro e w1 ⟨rfl, hb⟩
             have X : Blk w1 wr.heap.size 23 [.int .i64 0, .bool false, .int .i64 0, .int .i64 0, .int .i64 0, .int .i64 0] := blk_next (Blk.drew ((Blk.new wr 23 [.int .i64 0, .bool false, .int .i64 0, .int .i64 0, .int .i64 0, .int .i64 0]).alloc (.cells #[.bool false, .int .u32 0, .int .i64 0] 29))) hb
             have U : Blk w1 (wr.heap.size + 1) 29 [.bool false, .int .u32 0, .int .i64 0] := blk_next (Blk.drew (blk_at1 wr (.cells #[.int .i64 0, .bool false, .int .i64 0, .int .i64 0, .int .i64 0, .int .i64 0] 23) 29 [.bool false, .int .u32 0, .int .i64 0])) hb
             obtain ⟨x0, x1, x2, x3, x4, x5⟩ := cells6 X
             obtain ⟨u0, u1, u2⟩ := cells3 U
             have fx := X.frozen
             have lx := X.lt
             have nx := Nat.ne_of_lt X.lt
             have nx2 := Nat.ne_of_gt X.lt
             have fu := U.frozen
             have lu := U.lt
             have nu := Nat.ne_of_lt U.lt
             have nu2 := Nat.ne_of_gt U.lt
             have HX := Lib.hid X
             have HU := Lib.hid U
             clear X U
             have hB : Below wr.heap.size wr w1 := (bl2 wr _ _).drew.trans (hb.mono (by first | omega | (simp; done) | (simp; omega)))
             have hsz := hB.size
             have HB : Hid (Below wr.heap.size wr w1) := hB
             clear hB
             clear hb)
          | (go_at_call 14; (with_reducible refine (rapply_g _ a m HM.out srv _ _ _ HA.out).mono ?_); rintro e w1 ⟨rfl, hb⟩
             have X : Blk w1 (wr.heap.size + 1) 23 [.int .i64 0, .bool false, .int .i64 0, .int .i64 0, .int .i64 0, .int .i64 0] := blk_next (Blk.drew (blk_at1 wr (.cells #[.bool false, .int .u32 0, .int .i64 0] 29) 23 [.int .i64 0, .bool false, .int .i64 0, .int .i64 0, .int .i64 0, .int .i64 0])) hb
             have U : Blk w1 wr.heap.size 29 [.bool false, .int .u32 0, .int .i64 0] := blk_next (Blk.drew ((Blk.new wr 29 [.bool false, .int .u32 0, .int .i64 0]).alloc (.cells #[.int .i64 0, .bool false, .int .i64 0, .int .i64 0, .int .i64 0, .int .i64 0] 23))) hb
             obtain ⟨x0, x1, x2, x3, x4, x5⟩ := cells6 X
             obtain ⟨u0, u1, u2⟩ := cells3 U
             have fx := X.frozen
             have lx := X.lt
             have nx := Nat.ne_of_lt X.lt
             have nx2 := Nat.ne_of_gt X.lt
             have fu := U.frozen
             have lu := U.lt
             have nu := Nat.ne_of_lt U.lt
             have nu2 := Nat.ne_of_gt U.lt
             have HX := Lib.hid X
             have HU := Lib.hid U
             clear X U
             have hB : Below wr.heap.size wr w1 := (bl2 wr _ _).drew.trans (hb.mono (by first | omega | (simp; done) | (simp; omega)))
             have hsz := hB.size
             have HB : Hid (Below wr.heap.size wr w1) := hB
             clear hB
             clear hb)
          | (go_at_call 14; (with_reducible refine (rapply_g _ a m HM.out srv _ _ _ HA.out).mono ?_); rintro e w1 ⟨rfl, hb⟩
             have X : Blk w1 wr.heap.size 23 [.int .i64 0, .bool false, .int .i64 0, .int .i64 0, .int .i64 0, .int .i64 0] := blk_next (Blk.drew (Blk.new wr 23 [.int .i64 0, .bool false, .int .i64 0, .int .i64 0, .int .i64 0, .int .i64 0])) hb
             obtain ⟨x0, x1, x2, x3, x4, x5⟩ := cells6 X
             have fx := X.frozen
             have lx := X.lt
             have nx := Nat.ne_of_lt X.lt
             have nx2 := Nat.ne_of_gt X.lt
             have HX := Lib.hid X
             clear X
             have hB : Below wr.heap.size wr w1 := (bl1 wr _).drew.trans (hb.mono (by first | omega | (simp; done) | (simp; omega)))
             have hsz := hB.size
             have HB : Hid (Below wr.heap.size wr w1) := hB
             clear hB
             clear hb)
          | (go_at_call 14; (with_reducible refine (rapply_g _ a m HM.out srv _ _ _ HA.out).mono ?_); rintro e w1 ⟨rfl, hb⟩
             have U : Blk w1 wr.heap.size 29 [.bool false, .int .u32 0, .int .i64 0] := blk_next (Blk.drew (Blk.new wr 29 [.bool false, .int .u32 0, .int .i64 0])) hb
             obtain ⟨u0, u1, u2⟩ := cells3 U
             have fu := U.frozen
             have lu := U.lt
             have nu := Nat.ne_of_lt U.lt
             have nu2 := Nat.ne_of_gt U.lt
             have HU := Lib.hid U
             clear U
             have hB : Below wr.heap.size wr w1 := (bl1 wr _).drew.trans (hb.mono (by first | omega | (simp; done) | (simp; omega)))
             have hsz := hB.size
             have HB : Hid (Below wr.heap.size wr w1) := hB
             clear hB
             clear hb)
          | (go_at_call 14; (with_reducible refine (rapply_g _ a m HM.out srv _ _ _ HA.out).mono ?_); rintro e w1 ⟨rfl, hb⟩
             have hbb : Below wr.drew.heap.size wr.drew w1 := hb
             clear hbb
             have hB : Below wr.heap.size wr w1 := (Below.refl _ wr).drew.trans (hb.mono (by first | omega | (simp; done) | (simp; omega)))
             have hsz := hB.size
             have HB : Hid (Below wr.heap.size wr w1) := hB
             clear hB
             clear hb))
        | fail
        all_goals go_wp2
        all_goals go_meet
        · exact ⟨_, _, rfl, rfl, (Blk.new _ _ _).alloc _, blk_at1 _ _ _ _, (HB.out.alloc hsz _).alloc (by simp; omega) _, hsz, by omega⟩
        · exact ⟨_, _, rfl, rfl, blk_at1 _ _ _ _, (Blk.new _ _ _).alloc _, (HB.out.alloc hsz _).alloc (by simp; omega) _, by omega, hsz⟩
        · exact ⟨_, _, rfl, rfl, (setV HX.out).alloc _, blk_newV _ _ _ _ _ _ _ _ _ _, (belV HB.out (Nat.le_refl _)).alloc (by simp; omega) _, Nat.le_refl _, hsz⟩
        · exact ⟨_, _, rfl, rfl, farF (setV HX.out) (by omega), setF (farV HU.out (by omega)), belF (belV HB.out (by omega)) (by omega), by omega, by omega⟩
        · exact ⟨_, _, rfl, rfl, blk_newF _ _ _ _ _ _ _, (setF HU.out).alloc _, (belF HB.out (Nat.le_refl _)).alloc (by simp; omega) _, hsz, Nat.le_refl _⟩
        · exact ⟨_, _, rfl, rfl, farF (setV HX.out) (by omega), setF (farV HU.out (by omega)), belF (belV HB.out (by omega)) (by omega), by omega, by omega⟩
      case rest =>
        obtain ⟨q, r, rfl, rfl, X, U, hB, hq, hr2⟩ := hcut
        have S7 := Lib.hid (St.next HS.out hB)
        clear z0 z1 z2 z3 z4 z5
        obtain ⟨x0, x1, x2, x3, x4, x5⟩ := cells6 X
        obtain ⟨u0, u1, u2⟩ := cells3 U
        obtain ⟨z0, z1, z2, z3, z4, z5⟩ := cells6 (St.blk3 S7.out)
        have f3 := (St.blk3 S7.out).frozen
        have HU := Lib.hid U
        clear X U hB
        rcases ww with ⟨_, hgg⟩ | ⟨hg, rfl, _⟩
        · obtain ⟨rfl, rfl⟩ := Ga.mk.inj hgg
          have HR2 : Hid (allW v srv y1 (l.drop (k + 1)) = (x, g)) := HR.out
          clear HR hgg
          go_wp2
          have S8 := Lib.hid (St.set3 (St.set3 (St.set3 (St.set3 (St.set3 (St.set3 S7.out 0 (.int .i64 y1.tab)) 1 (.bool y1.push)) 2 (.int .i64 y1.str)) 3 (.int .i64 y1.win)) 4 (.int .i64 y1.frm)) 5 (.int .i64 y1.lst))
          go_roundg g1
          case measure => omega
          case rel => exact ⟨k + 1, y1, by have := HJ.out; omega, by go_num, HR2.out, S8.out⟩
        · simp only at hg
          subst hg
          have HR2 : Hid ((v, (⟨true, gc⟩ : Ga)) = (x, g)) := HR.out
          obtain ⟨rfl, rfl⟩ := Prod.mk.inj HR2.out
          clear HR
          obtain ⟨a0, a1, a2, a3, a4, a5⟩ := cells6 (St.blk0 S7.out)
          obtain ⟨b0, b1, b2, b3, b4, b5⟩ := cells6 (St.blk1 S7.out)
          obtain ⟨d0, d1, d2⟩ := cells3 (St.blk2 S7.out)
          have f4 := (St.blk1 S7.out).frozen
          have f5 := (St.blk2 S7.out).frozen
          have m1 : ¬ r = w.heap.size + 1 := by omega
          have m2 : ¬ w.heap.size + 1 = r := by omega
          have m3 : ¬ r = w.heap.size + 1 + 1 := by omega
          have m4 : ¬ w.heap.size + 1 + 1 = r := by omega
          go_upto_region 7 with (fail)
          go_region
          all_goals
            go_wp2
            first
              | exact bodyPost_ret (res_vg (p := 6) (q := 7) rfl rfl rfl (St.blk1 ((setVG1 S7.out _ _ _ _ _ _ _ _ _).drew)) (St.blk2 ((setVG1 S7.out _ _ _ _ _ _ _ _ _).drew))) rfl ⟨rfl, St.below ((setVG1 S7.out _ _ _ _ _ _ _ _ _).drew)⟩
              | exact bodyPost_ret (res_vg (p := 6) (q := 7) rfl rfl rfl (St.blk1 ((setGV1 S7.out _ _ _ _ _ _ _ _ _).drew)) (St.blk2 ((setGV1 S7.out _ _ _ _ _ _ _ _ _).drew))) rfl ⟨rfl, St.below ((setGV1 S7.out _ _ _ _ _ _ _ _ _).drew)⟩
    | zero =>
      obtain rfl : k = n := by omega
      have HX : Hid ((y, (⟨false, 0⟩ : Ga)) = (x, g)) := by
        rw [List.drop_of_length_le (by rw [HN.out]; exact Nat.le_refl _)] at hr
        exact hr
      obtain ⟨rfl, rfl⟩ := Prod.mk.inj HX.out
      have HS := Lib.hid hs
      obtain ⟨z0, z1, z2, z3, z4, z5⟩ := cells6 (St.blk3 hs)
      obtain ⟨x0, x1, x2, x3, x4, x5⟩ := cells6 (St.blk1 hs)
      obtain ⟨u0, u1, u2⟩ := cells3 (St.blk2 hs)
      have f1 := (St.blk1 hs).frozen
      have f2 := (St.blk2 hs).frozen
      clear hs hr HX hk
      go_wp2
      exact bodyPost_ret (res_vg (p := 6) (q := 7) rfl rfl rfl (St.blk1 (setVG1 HS.out _ _ _ _ _ _ _ _ _)) (St.blk2 (setVG1 HS.out _ _ _ _ _ _ _ _ _))) rfl ⟨rfl, St.below (setVG1 HS.out _ _ _ _ _ _ _ _ _)⟩
end
end Go.Proofs.Ythdikinpociiaaa
