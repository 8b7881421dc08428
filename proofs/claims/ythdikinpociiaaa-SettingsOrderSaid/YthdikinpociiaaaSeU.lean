/- Stage 8: the law SettingsOrder: the walk. -/
import Derived.Test.YthdikinpociiaaaSeF
import Derived.Test.YthdikinpociiaaaSeM
import Derived.Test.YthdikinpociiaaaSeO
namespace Go.Proofs.Ythdikinpociiaaa
open Go.RowKit Go.Own Go.Set8
set_option linter.unusedVariables false
set_option maxRecDepth 100000
theorem order_step (v : Va) (l : List (Int × Nat)) (srv : Bool) (k : Nat) (s : Int × Nat) (y y1 : Va) (gi : Bool) (gc : Int) (hk : l[k]? = some s) (h : allV v (l.take k) srv = (y, ⟨false, 0⟩)) (ha : applyV y s srv = (y1, ⟨gi, gc⟩)) :
    (gi = false → allV v (l.take (k + 1)) srv = (y1, ⟨false, 0⟩)) ∧ (gi = true → allV v l srv = (v, ⟨true, gc⟩)) := by
  obtain ⟨hlt, hs⟩ := List.getElem?_eq_some_iff.1 hk
  have e1 : l.take (k + 1) = l.take k ++ [s] := by rw [List.take_succ_eq_append_getElem hlt, hs]
  have e2 : l = l.take k ++ (s :: l.drop (k + 1)) := by
    have := List.drop_eq_getElem_cons hlt
    rw [hs] at this
    rw [← this, List.take_append_drop]
  have h' : allW v srv v (l.take k) = (y, ⟨false, 0⟩) := h
  constructor
  · rintro rfl
    show allW v srv v (l.take (k + 1)) = _
    rw [e1, allW_app v srv _ _ _ _ h', allW_step ha]
    rcases apply_is ha with ⟨_, h2⟩ | ⟨h2, _⟩
    · rfl
    · cases h2
  · rintro rfl
    have e3 : allV v l srv = allW v srv v (l.take k ++ (s :: l.drop (k + 1))) := by rw [← e2]; rfl
    rw [e3, allW_app v srv _ _ _ _ h', allW_step ha]
    rfl
theorem scells_take : ∀ (l : List (Int × Nat)) (k : Nat), (scells l).take (k * 2) = scells (l.take k)
  | [], k => by simp [scells]
  | s :: l, 0 => by simp [scells]
  | s :: l, k + 1 => by
    have h := scells_take l k
    have e : ∀ (s : Int × Nat) (l : List (Int × Nat)), scells (s :: l) = .int .i64 s.1 :: .int .u32 (s.2 : Int) :: scells l := fun s l => rfl
    rw [List.take_succ_cons, e, e, show (k + 1) * 2 = k * 2 + 1 + 1 by omega, List.take_succ_cons, List.take_succ_cons, h]
set_option maxHeartbeats 16000000 in
theorem lawOrder {w0 : World} (v : Va) {A : Option Addr} {n c : Nat} {l : List (Int × Nat)} (hin : Rd w0 2 A n (scells l) ∧ (∀ s ∈ l, setOk s) ∧ l.length = n ∧ n ≤ c ∧ c ≤ 140737488351232) (srv : Bool) :
    Calls Try.prog 6 #[(.agg #[.int .i64 v.tab, .bool v.push, .int .i64 v.str, .int .i64 v.win, .int .i64 v.frm, .int .i64 v.lst]), .slice A n c, .bool srv] w0 fun e w' => e = .returned (.bool true) ∧ Below w0.heap.size w0 w' := by
  obtain ⟨hl, hok, hln, hnc, hc⟩ := hin
  have HL := Lib.hid hl
  have HLN := Lib.hid hln
  have HOK : Hid (∀ s ∈ l, s.2 < 4294967296) := fun s hs => (hok s hs).2
  have S0 := Lib.hid (st1 w0 23 [.int .i64 v.tab, .bool v.push, .int .i64 v.str, .int .i64 v.win, .int .i64 v.frm, .int .i64 v.lst])
  have eqn := fun V => vals_neq V
  have eqv := fun V => vals_eql V
  have eqg : ∀ (V : Int) (W : World), (binOp .eql 29 (.agg #[.bool true, .int .u32 V, .int .i64 0]) (.agg #[.bool true, .int .u32 V, .int .i64 0])).run Try.prog W = .ok (.bool true) W := fun V W => flt_eql ⟨true, V⟩ W
  clear hl hok hln
  go_enter Try.func6, Try.ntmps6
  go_wp2_with (first
    | (go_at_call 9; (with_reducible refine shown8_c.mono ?_); rintro e w1 ⟨rfl, hb⟩
       have S1 := Lib.hid (St.next S0.out hb)
       obtain ⟨k00, k01, k02, k03, k04, k05⟩ := cells6 (St.blk0 S1.out)
       have l0 := (St.blk0 S1.out).lt
       have S2 := Lib.hid (St.block S1.out 23 [.int .i64 v.tab, .bool v.push, .int .i64 v.str, .int .i64 v.win, .int .i64 v.frm, .int .i64 v.lst])
       clear hb))
  obtain ⟨p8, hp8⟩ : ∃ p, w1.heap.size = p := ⟨_, rfl⟩
  rw [hp8] at S2 ⊢
  have hp0 : w0.heap.size < p8 := by rw [← hp8]; exact l0
  clear k00 k01 k02 k03 k04 k05 l0 hp8
  obtain ⟨mm, hmm⟩ : ∃ mm, mm = min n 500 := ⟨_, rfl⟩
  go_loopg [9] mm (fun gh i w' => ∃ (k : Nat) (y : Va), gh + k = mm ∧ i = .int .i64 (k : Int) ∧ allV v (l.take k) srv = (y, ⟨false, 0⟩) ∧ St (fun _ => False) w0 w' [BLo w0.heap.size 23 [.int .i64 v.tab, .bool v.push, .int .i64 v.str, .int .i64 v.win, .int .i64 v.frm, .int .i64 v.lst], BLo p8 23 [.int .i64 y.tab, .bool y.push, .int .i64 y.str, .int .i64 y.win, .int .i64 y.frm, .int .i64 y.lst]])
  case atStart => exact ⟨0, v, by omega, rfl, rfl, S2.out⟩
  case round =>
    obtain ⟨k, y, hk, rfl, hr, hs⟩ := hrel
    cases gk with
    | succ g1 =>
      have hkn : k < n := by omega
      have hk5 : k < 500 := by omega
      have hkc : k ≤ c := by omega
      have hkl : k < l.length := by rw [HLN.out]; exact hkn
      obtain ⟨⟨a, m⟩, ha⟩ : ∃ s, l[k]? = some s := ⟨_, List.getElem?_eq_getElem hkl⟩
      obtain ⟨b, o, rfl, c0, c1⟩ := rd_set HL.out ha
      have HRK : Hid (Rd wr 2 (some ⟨b, o, none⟩) k (scells (l.take k))) := by
        have h := (HL.out.take (k := k) (by omega)).fr hs.fr (fun _ _ h => h)
        have e : (scells l).take (k * 2) = scells (l.take k) := scells_take l k
        rwa [e] at h
      have HRA : Hid (Rd wr 2 (some ⟨b, o, none⟩) n (scells l)) := HL.out.fr hs.fr (fun _ _ h => h)
      have e0 := hs.fr.cell c0 (fun h => h)
      have e1 := hs.fr.cell c1 (fun h => h)
      have hbl : b < wr.heap.size := World.block_lt_of_cell? _ _ e0
      have HOT : Hid (∀ s ∈ l.take k, s.2 < 4294967296) := fun s hs => HOK.out s (List.mem_of_mem_take hs)
      have hm := HOK.out _ (List.mem_of_getElem? ha)
      obtain ⟨y1, ⟨gi, gc⟩, hap⟩ : ∃ y1 g1', applyV y (a, m) srv = (y1, g1') := ⟨_, _, rfl⟩
      obtain ⟨o1, o2⟩ := order_step v l srv k (a, m) y y1 gi gc ha hr hap
      have ww := apply_is hap
      have O1 := Lib.hid o1
      have O2 := Lib.hid o2
      have HM := Lib.hid hm
      have HAP := Lib.hid hap
      have HR := Lib.hid hr
      have HJ := Lib.hid hk
      have HS := Lib.hid hs
      have l0 := (St.blk0 hs).lt
      have l8 := (St.blk1 hs).lt
      obtain ⟨k00, k01, k02, k03, k04, k05⟩ := cells6 (St.blk0 hs)
      clear hs hm hap hr o1 o2 c0 c1 ha hkl
      have K1 : Hid (∀ w2, Below wr.heap.size wr w2 → w2.cell? ⟨w0.heap.size, 0, none⟩ = some (.int .i64 v.tab) ∧ w2.cell? ⟨w0.heap.size, 1, none⟩ = some (.bool v.push) ∧ w2.cell? ⟨w0.heap.size, 2, none⟩ = some (.int .i64 v.str) ∧ w2.cell? ⟨w0.heap.size, 3, none⟩ = some (.int .i64 v.win) ∧ w2.cell? ⟨w0.heap.size, 4, none⟩ = some (.int .i64 v.frm) ∧ w2.cell? ⟨w0.heap.size, 5, none⟩ = some (.int .i64 v.lst)) := fun w2 h => ⟨(h.cell l0).trans k00, (h.cell l0).trans k01, (h.cell l0).trans k02, (h.cell l0).trans k03, (h.cell l0).trans k04, (h.cell l0).trans k05⟩
      go_upto_region 6 with (fail)
      go_cut [10, 11] (fun s t wx => ∃ q r : Nat, s = .pointer (some ⟨q, 0, none⟩) ∧ t = .pointer (some ⟨r, 0, none⟩) ∧ Blk wx q 23 [.int .i64 y.tab, .bool y.push, .int .i64 y.str, .int .i64 y.win, .int .i64 y.frm, .int .i64 y.lst] ∧ Blk wx r 29 [.bool false, .int .u32 0, .int .i64 0] ∧ Below wr.heap.size wr wx ∧ wr.heap.size ≤ q ∧ wr.heap.size ≤ r)
      case first =>
        first
        | go_region_held (fun w' => w'.cell? ⟨w0.heap.size, 0, none⟩ = some (.int .i64 v.tab) ∧ w'.cell? ⟨w0.heap.size, 1, none⟩ = some (.bool v.push) ∧ w'.cell? ⟨w0.heap.size, 2, none⟩ = some (.int .i64 v.str) ∧ w'.cell? ⟨w0.heap.size, 3, none⟩ = some (.int .i64 v.win) ∧ w'.cell? ⟨w0.heap.size, 4, none⟩ = some (.int .i64 v.frm) ∧ w'.cell? ⟨w0.heap.size, 5, none⟩ = some (.int .i64 v.lst))
          ((refine K1.out _ ?_; repeat (first | with_reducible exact HB.out | with_reducible exact Below.refl _ _ | with_reducible refine Below.drew ?_ | with_reducible refine Below.setCell ?_ (by first | omega | (simp; done) | (simp; omega)) _ | with_reducible refine Below.alloc ?_ (by first | omega | (simp; done) | (simp; omega)) _)))
          (first
            | (go_at_call 10; (with_reducible refine (all_g v (l.take k) srv y false 0 HR.out (HRK.out.below (bl2 wr _ _).drew) HOT.out (by omega)).mono ?_); rintro e w9 ⟨rfl, hb⟩
               have X : Blk w9 wr.heap.size 23 [.int .i64 0, .bool false, .int .i64 0, .int .i64 0, .int .i64 0, .int .i64 0] := blk_next (Blk.drew ((Blk.new wr 23 [.int .i64 0, .bool false, .int .i64 0, .int .i64 0, .int .i64 0, .int .i64 0]).alloc (.cells #[.bool false, .int .u32 0, .int .i64 0] 29))) hb
               have U : Blk w9 (wr.heap.size + 1) 29 [.bool false, .int .u32 0, .int .i64 0] := blk_next (Blk.drew (blk_at1 wr (.cells #[.int .i64 0, .bool false, .int .i64 0, .int .i64 0, .int .i64 0, .int .i64 0] 23) 29 [.bool false, .int .u32 0, .int .i64 0])) hb
               obtain ⟨x0, x1, x2, x3, x4, x5⟩ := cells6 X
               obtain ⟨u0, u1, u2⟩ := cells3 U
               have fx := X.frozen
               have lx := X.lt
               have nx := Nat.ne_of_lt X.lt
               have nx2 := Nat.ne_of_gt X.lt
               have HX := Lib.hid X
               have fu := U.frozen
               have lu := U.lt
               have nu := Nat.ne_of_lt U.lt
               have nu2 := Nat.ne_of_gt U.lt
               have HU := Lib.hid U
               clear X U
               have hB : Below wr.heap.size wr w9 := (bl2 wr _ _).drew.trans (hb.mono (by first | omega | (simp; done) | (simp; omega)))
               have hsz := hB.size
               have HB : Hid (Below wr.heap.size wr w9) := hB
               clear hB
               clear hb)
            | (go_at_call 10; (with_reducible refine (all_g v (l.take k) srv y false 0 HR.out (HRK.out.below (bl2 wr _ _).drew) HOT.out (by omega)).mono ?_); rintro e w9 ⟨rfl, hb⟩
               have X : Blk w9 (wr.heap.size + 1) 23 [.int .i64 0, .bool false, .int .i64 0, .int .i64 0, .int .i64 0, .int .i64 0] := blk_next (Blk.drew (blk_at1 wr (.cells #[.bool false, .int .u32 0, .int .i64 0] 29) 23 [.int .i64 0, .bool false, .int .i64 0, .int .i64 0, .int .i64 0, .int .i64 0])) hb
               have U : Blk w9 wr.heap.size 29 [.bool false, .int .u32 0, .int .i64 0] := blk_next (Blk.drew ((Blk.new wr 29 [.bool false, .int .u32 0, .int .i64 0]).alloc (.cells #[.int .i64 0, .bool false, .int .i64 0, .int .i64 0, .int .i64 0, .int .i64 0] 23))) hb
               obtain ⟨x0, x1, x2, x3, x4, x5⟩ := cells6 X
               obtain ⟨u0, u1, u2⟩ := cells3 U
               have fx := X.frozen
               have lx := X.lt
               have nx := Nat.ne_of_lt X.lt
               have nx2 := Nat.ne_of_gt X.lt
               have HX := Lib.hid X
               have fu := U.frozen
               have lu := U.lt
               have nu := Nat.ne_of_lt U.lt
               have nu2 := Nat.ne_of_gt U.lt
               have HU := Lib.hid U
               clear X U
               have hB : Below wr.heap.size wr w9 := (bl2 wr _ _).drew.trans (hb.mono (by first | omega | (simp; done) | (simp; omega)))
               have hsz := hB.size
               have HB : Hid (Below wr.heap.size wr w9) := hB
               clear hB
               clear hb)
            | (go_at_call 10; (with_reducible refine (all_g v (l.take k) srv y false 0 HR.out (HRK.out.below (bl1 wr _).drew) HOT.out (by omega)).mono ?_); rintro e w9 ⟨rfl, hb⟩
               have X : Blk w9 wr.heap.size 23 [.int .i64 0, .bool false, .int .i64 0, .int .i64 0, .int .i64 0, .int .i64 0] := blk_next (Blk.drew (Blk.new wr 23 [.int .i64 0, .bool false, .int .i64 0, .int .i64 0, .int .i64 0, .int .i64 0])) hb
               obtain ⟨x0, x1, x2, x3, x4, x5⟩ := cells6 X
               have fx := X.frozen
               have lx := X.lt
               have nx := Nat.ne_of_lt X.lt
               have nx2 := Nat.ne_of_gt X.lt
               have HX := Lib.hid X
               clear X
               have hB : Below wr.heap.size wr w9 := (bl1 wr _).drew.trans (hb.mono (by first | omega | (simp; done) | (simp; omega)))
               have hsz := hB.size
               have HB : Hid (Below wr.heap.size wr w9) := hB
               clear hB
               clear hb)
            | (go_at_call 10; (with_reducible refine (all_g v (l.take k) srv y false 0 HR.out (HRK.out.below (bl1 wr _).drew) HOT.out (by omega)).mono ?_); rintro e w9 ⟨rfl, hb⟩
               have U : Blk w9 wr.heap.size 29 [.bool false, .int .u32 0, .int .i64 0] := blk_next (Blk.drew (Blk.new wr 29 [.bool false, .int .u32 0, .int .i64 0])) hb
               obtain ⟨u0, u1, u2⟩ := cells3 U
               have fu := U.frozen
               have lu := U.lt
               have nu := Nat.ne_of_lt U.lt
               have nu2 := Nat.ne_of_gt U.lt
               have HU := Lib.hid U
               clear U
               have hB : Below wr.heap.size wr w9 := (bl1 wr _).drew.trans (hb.mono (by first | omega | (simp; done) | (simp; omega)))
               have hsz := hB.size
               have HB : Hid (Below wr.heap.size wr w9) := hB
               clear hB
               clear hb)
            | (go_at_call 10; (with_reducible refine (all_g v (l.take k) srv y false 0 HR.out (HRK.out.below (Below.refl _ wr).drew) HOT.out (by omega)).mono ?_); rintro e w9 ⟨rfl, hb⟩
               have hbb : Below wr.drew.heap.size wr.drew w9 := hb
               clear hbb
               have hB : Below wr.heap.size wr w9 := (Below.refl _ wr).drew.trans (hb.mono (by first | omega | (simp; done) | (simp; omega)))
               have hsz := hB.size
               have HB : Hid (Below wr.heap.size wr w9) := hB
               clear hB
               clear hb))
        | fail
        all_goals go_wp2
        all_goals go_meet
        · exact ⟨_, _, rfl, rfl, (Blk.new _ _ _).alloc _, blk_at1 _ _ _ _, (HB.out.alloc hsz _).alloc (by simp; omega) _, hsz, by omega⟩
        · exact ⟨_, _, rfl, rfl, blk_at1 _ _ _ _, (Blk.new _ _ _).alloc _, (HB.out.alloc hsz _).alloc (by simp; omega) _, by omega, hsz⟩
        · exact ⟨_, _, rfl, rfl, (setV HX.out).alloc _, blk_newV _ _ _ _ _ _ _ _ _ _, (belV HB.out (Nat.le_refl _)).alloc (by simp; omega) _, Nat.le_refl _, hsz⟩
        · exact ⟨_, _, rfl, rfl, farF (setV HX.out) (by omega), setF (farV HU.out (by omega)), belF (belV HB.out (by omega)) (by omega), by omega, by omega⟩
        · exact ⟨_, _, rfl, rfl, blk_newF _ _ _ _ _ _ _, (setF HU.out).alloc _, (belF HB.out (Nat.le_refl _)).alloc (by simp; omega) _, hsz, Nat.le_refl _⟩
        · exact ⟨_, _, rfl, rfl, farF (setV HX.out) (by omega), setF (farV HU.out (by omega)), belF (belV HB.out (by omega)) (by omega), by omega, by omega⟩
      case' rest =>
        obtain ⟨q, r, rfl, rfl, X, U, hB, hq, hr⟩ := hcut
        have S7 := Lib.hid (St.next HS.out hB)
        have hcs := hB.size
        clear k00 k01 k02 k03 k04 k05
        obtain ⟨x0, x1, x2, x3, x4, x5⟩ := cells6 X
        obtain ⟨u0, u1, u2⟩ := cells3 U
        obtain ⟨z0, z1, z2, z3, z4, z5⟩ := cells6 (St.blk1 S7.out)
        obtain ⟨k00, k01, k02, k03, k04, k05⟩ := cells6 (St.blk0 S7.out)
        have l0c := (St.blk0 S7.out).lt
        have l8c := (St.blk1 S7.out).lt
        have e0c := (hB.cell (p := ⟨b, o + k * 2, none⟩) hbl).trans e0
        have e1c := (hB.cell (p := ⟨b, o + k * 2 + 1, none⟩) hbl).trans e1
        have hblc : b < wc.heap.size := World.block_lt_of_cell? _ _ e0c
        have HRB : Hid (Rd wc 2 (some ⟨b, o, none⟩) n (scells l)) := HRA.out.below hB
        clear X U hB e0 e1
      have K2 : Hid (∀ w2, Below wc.heap.size wc w2 → w2.cell? ⟨p8, 0, none⟩ = some (.int .i64 y.tab) ∧ w2.cell? ⟨p8, 1, none⟩ = some (.bool y.push) ∧ w2.cell? ⟨p8, 2, none⟩ = some (.int .i64 y.str) ∧ w2.cell? ⟨p8, 3, none⟩ = some (.int .i64 y.win) ∧ w2.cell? ⟨p8, 4, none⟩ = some (.int .i64 y.frm) ∧ w2.cell? ⟨p8, 5, none⟩ = some (.int .i64 y.lst) ∧ w2.cell? ⟨b, o + k * 2, none⟩ = some (.int .i64 a) ∧ w2.cell? ⟨b, o + k * 2 + 1, none⟩ = some (.int .u32 (m : Int))) := fun w2 h => ⟨(h.cell l8c).trans z0, (h.cell l8c).trans z1, (h.cell l8c).trans z2, (h.cell l8c).trans z3, (h.cell l8c).trans z4, (h.cell l8c).trans z5, (h.cell hblc).trans e0c, (h.cell hblc).trans e1c⟩
      go_upto_region 9 with (fail)
      go_cut [12, 13] (fun s t wx => ∃ q r : Nat, s = .pointer (some ⟨q, 0, none⟩) ∧ t = .pointer (some ⟨r, 0, none⟩) ∧ Blk wx q 23 [.int .i64 y1.tab, .bool y1.push, .int .i64 y1.str, .int .i64 y1.win, .int .i64 y1.frm, .int .i64 y1.lst] ∧ Blk wx r 29 [.bool gi, .int .u32 gc, .int .i64 0] ∧ Below wc.heap.size wc wx ∧ wc.heap.size ≤ q ∧ wc.heap.size ≤ r)
      case first =>
        first
        | go_region_held (fun w' => w'.cell? ⟨p8, 0, none⟩ = some (.int .i64 y.tab) ∧ w'.cell? ⟨p8, 1, none⟩ = some (.bool y.push) ∧ w'.cell? ⟨p8, 2, none⟩ = some (.int .i64 y.str) ∧ w'.cell? ⟨p8, 3, none⟩ = some (.int .i64 y.win) ∧ w'.cell? ⟨p8, 4, none⟩ = some (.int .i64 y.frm) ∧ w'.cell? ⟨p8, 5, none⟩ = some (.int .i64 y.lst) ∧ w'.cell? ⟨b, o + k * 2, none⟩ = some (.int .i64 a) ∧ w'.cell? ⟨b, o + k * 2 + 1, none⟩ = some (.int .u32 (m : Int)))
          ((refine K2.out _ ?_; repeat (first | with_reducible exact HB.out | with_reducible exact Below.refl _ _ | with_reducible refine Below.drew ?_ | with_reducible refine Below.setCell ?_ (by first | omega | (simp; done) | (simp; omega)) _ | with_reducible refine Below.alloc ?_ (by first | omega | (simp; done) | (simp; omega)) _)))
          (first
            | (go_at_call 13; (with_reducible refine (apply_g y a m HM.out srv y1 gi gc HAP.out).mono ?_); rintro e w9 ⟨rfl, hb⟩
               have X : Blk w9 wc.heap.size 23 [.int .i64 0, .bool false, .int .i64 0, .int .i64 0, .int .i64 0, .int .i64 0] := blk_next (Blk.drew ((Blk.new wc 23 [.int .i64 0, .bool false, .int .i64 0, .int .i64 0, .int .i64 0, .int .i64 0]).alloc (.cells #[.bool false, .int .u32 0, .int .i64 0] 29))) hb
               have U : Blk w9 (wc.heap.size + 1) 29 [.bool false, .int .u32 0, .int .i64 0] := blk_next (Blk.drew (blk_at1 wc (.cells #[.int .i64 0, .bool false, .int .i64 0, .int .i64 0, .int .i64 0, .int .i64 0] 23) 29 [.bool false, .int .u32 0, .int .i64 0])) hb
               obtain ⟨x0, x1, x2, x3, x4, x5⟩ := cells6 X
               obtain ⟨u0, u1, u2⟩ := cells3 U
               have fx := X.frozen
               have lx := X.lt
               have nx := Nat.ne_of_lt X.lt
               have nx2 := Nat.ne_of_gt X.lt
               have HX := Lib.hid X
               have fu := U.frozen
               have lu := U.lt
               have nu := Nat.ne_of_lt U.lt
               have nu2 := Nat.ne_of_gt U.lt
               have HU := Lib.hid U
               clear X U
               have hB : Below wc.heap.size wc w9 := (bl2 wc _ _).drew.trans (hb.mono (by first | omega | (simp; done) | (simp; omega)))
               have hsz := hB.size
               have HB : Hid (Below wc.heap.size wc w9) := hB
               clear hB
               clear hb)
            | (go_at_call 13; (with_reducible refine (apply_g y a m HM.out srv y1 gi gc HAP.out).mono ?_); rintro e w9 ⟨rfl, hb⟩
               have X : Blk w9 (wc.heap.size + 1) 23 [.int .i64 0, .bool false, .int .i64 0, .int .i64 0, .int .i64 0, .int .i64 0] := blk_next (Blk.drew (blk_at1 wc (.cells #[.bool false, .int .u32 0, .int .i64 0] 29) 23 [.int .i64 0, .bool false, .int .i64 0, .int .i64 0, .int .i64 0, .int .i64 0])) hb
               have U : Blk w9 wc.heap.size 29 [.bool false, .int .u32 0, .int .i64 0] := blk_next (Blk.drew ((Blk.new wc 29 [.bool false, .int .u32 0, .int .i64 0]).alloc (.cells #[.int .i64 0, .bool false, .int .i64 0, .int .i64 0, .int .i64 0, .int .i64 0] 23))) hb
               obtain ⟨x0, x1, x2, x3, x4, x5⟩ := cells6 X
               obtain ⟨u0, u1, u2⟩ := cells3 U
               have fx := X.frozen
               have lx := X.lt
               have nx := Nat.ne_of_lt X.lt
               have nx2 := Nat.ne_of_gt X.lt
               have HX := Lib.hid X
               have fu := U.frozen
               have lu := U.lt
               have nu := Nat.ne_of_lt U.lt
               have nu2 := Nat.ne_of_gt U.lt
               have HU := Lib.hid U
               clear X U
               have hB : Below wc.heap.size wc w9 := (bl2 wc _ _).drew.trans (hb.mono (by first | omega | (simp; done) | (simp; omega)))
               have hsz := hB.size
               have HB : Hid (Below wc.heap.size wc w9) := hB
               clear hB
               clear hb)
            | (go_at_call 13; (with_reducible refine (apply_g y a m HM.out srv y1 gi gc HAP.out).mono ?_); rintro e w9 ⟨rfl, hb⟩
               have X : Blk w9 wc.heap.size 23 [.int .i64 0, .bool false, .int .i64 0, .int .i64 0, .int .i64 0, .int .i64 0] := blk_next (Blk.drew (Blk.new wc 23 [.int .i64 0, .bool false, .int .i64 0, .int .i64 0, .int .i64 0, .int .i64 0])) hb
               obtain ⟨x0, x1, x2, x3, x4, x5⟩ := cells6 X
               have fx := X.frozen
               have lx := X.lt
               have nx := Nat.ne_of_lt X.lt
               have nx2 := Nat.ne_of_gt X.lt
               have HX := Lib.hid X
               clear X
               have hB : Below wc.heap.size wc w9 := (bl1 wc _).drew.trans (hb.mono (by first | omega | (simp; done) | (simp; omega)))
               have hsz := hB.size
               have HB : Hid (Below wc.heap.size wc w9) := hB
               clear hB
               clear hb)
            | (go_at_call 13; (with_reducible refine (apply_g y a m HM.out srv y1 gi gc HAP.out).mono ?_); rintro e w9 ⟨rfl, hb⟩
               have U : Blk w9 wc.heap.size 29 [.bool false, .int .u32 0, .int .i64 0] := blk_next (Blk.drew (Blk.new wc 29 [.bool false, .int .u32 0, .int .i64 0])) hb
               obtain ⟨u0, u1, u2⟩ := cells3 U
               have fu := U.frozen
               have lu := U.lt
               have nu := Nat.ne_of_lt U.lt
               have nu2 := Nat.ne_of_gt U.lt
               have HU := Lib.hid U
               clear U
               have hB : Below wc.heap.size wc w9 := (bl1 wc _).drew.trans (hb.mono (by first | omega | (simp; done) | (simp; omega)))
               have hsz := hB.size
               have HB : Hid (Below wc.heap.size wc w9) := hB
               clear hB
               clear hb)
            | (go_at_call 13; (with_reducible refine (apply_g y a m HM.out srv y1 gi gc HAP.out).mono ?_); rintro e w9 ⟨rfl, hb⟩
               have hbb : Below wc.drew.heap.size wc.drew w9 := hb
               clear hbb
               have hB : Below wc.heap.size wc w9 := (Below.refl _ wc).drew.trans (hb.mono (by first | omega | (simp; done) | (simp; omega)))
               have hsz := hB.size
               have HB : Hid (Below wc.heap.size wc w9) := hB
               clear hB
               clear hb))
        | fail
        all_goals go_wp2
        all_goals go_meet
        · exact ⟨_, _, rfl, rfl, (Blk.new _ _ _).alloc _, blk_at1 _ _ _ _, (HB.out.alloc hsz _).alloc (by simp; omega) _, hsz, by omega⟩
        · exact ⟨_, _, rfl, rfl, blk_at1 _ _ _ _, (Blk.new _ _ _).alloc _, (HB.out.alloc hsz _).alloc (by simp; omega) _, by omega, hsz⟩
        · exact ⟨_, _, rfl, rfl, (setV HX.out).alloc _, blk_newV _ _ _ _ _ _ _ _ _ _, (belV HB.out (Nat.le_refl _)).alloc (by simp; omega) _, Nat.le_refl _, hsz⟩
        · exact ⟨_, _, rfl, rfl, farF (setV HX.out) (by omega), setF (farV HU.out (by omega)), belF (belV HB.out (by omega)) (by omega), by omega, by omega⟩
        · exact ⟨_, _, rfl, rfl, blk_newF _ _ _ _ _ _ _, (setF HU.out).alloc _, (belF HB.out (Nat.le_refl _)).alloc (by simp; omega) _, hsz, Nat.le_refl _⟩
        · exact ⟨_, _, rfl, rfl, farF (setV HX.out) (by omega), setF (farV HU.out (by omega)), belF (belV HB.out (by omega)) (by omega), by omega, by omega⟩
      case' rest =>
        obtain ⟨q2, r2, rfl, rfl, X2, U2, hB2, hq2, hr2⟩ := hcut
        have S8 := Lib.hid (St.next S7.out hB2)
        clear x0 x1 x2 x3 x4 x5 u0 u1 u2 z0 z1 z2 z3 z4 z5 k00 k01 k02 k03 k04 k05 e0c e1c
        obtain ⟨x0, x1, x2, x3, x4, x5⟩ := cells6 X2
        obtain ⟨u0, u1, u2⟩ := cells3 U2
        obtain ⟨z0, z1, z2, z3, z4, z5⟩ := cells6 (St.blk1 S8.out)
        obtain ⟨k00, k01, k02, k03, k04, k05⟩ := cells6 (St.blk0 S8.out)
        have f8 := (St.blk1 S8.out).frozen
        have HRC := Lib.hid (HRB.out.below hB2)
        rcases ww with ⟨hg0, hg1⟩ | ⟨hg, rfl, _⟩
        · obtain ⟨rfl, rfl⟩ := Ga.mk.inj hg1
          have HA1 := Lib.hid (O1.out rfl)
          clear X2 U2 hB2 O1 O2 hg0 hg1
          go_wp2
          have S9 := Lib.hid (St.set1 (St.set1 (St.set1 (St.set1 (St.set1 (St.set1 S8.out 0 (.int .i64 y1.tab)) 1 (.bool y1.push)) 2 (.int .i64 y1.str)) 3 (.int .i64 y1.win)) 4 (.int .i64 y1.frm)) 5 (.int .i64 y1.lst))
          go_roundg g1
          case measure => omega
          case rel => exact ⟨k + 1, y1, by have := HJ.out; omega, by go_num, HA1.out, S9.out⟩
        · simp only at hg
          subst hg
          have HA2 := Lib.hid (O2.out rfl)
          have HX2 := Lib.hid X2
          have HU2 := Lib.hid U2
          have hn9 : n ≤ 9223372036854775807 := by omega
          clear X2 U2 hB2 O1 O2
          go_wp2_with (first
            | (go_at_call 10; (with_reducible refine (all_g v l srv v true gc HA2.out HRC.out HOK.out hn9).mono ?_); rintro e w9 ⟨rfl, hb⟩
               have S9 := Lib.hid (St.next S8.out hb)
               have X3 := blk_next HX2.out hb
               have U3 := blk_next HU2.out hb
               clear x0 x1 x2 x3 x4 x5 u0 u1 u2 z0 z1 z2 z3 z4 z5 k00 k01 k02 k03 k04 k05 f8
               obtain ⟨x0, x1, x2, x3, x4, x5⟩ := cells6 X3
               obtain ⟨u0, u1, u2⟩ := cells3 U3
               obtain ⟨z0, z1, z2, z3, z4, z5⟩ := cells6 (St.blk1 S9.out)
               obtain ⟨k00, k01, k02, k03, k04, k05⟩ := cells6 (St.blk0 S9.out)
               have i0 := X3.lt
               have i1 := Nat.lt_succ_of_lt i0
               have j0 := U3.lt
               have j1 := Nat.lt_succ_of_lt j0
               have m0 := (St.blk0 S9.out).lt
               have m1 := Nat.lt_succ_of_lt m0
               have n0 := (St.blk1 S9.out).lt
               have n1 := Nat.lt_succ_of_lt n0
               have S10 := Lib.hid (st_block2 S9.out 23 29 [.int .i64 v.tab, .bool v.push, .int .i64 v.str, .int .i64 v.win, .int .i64 v.frm, .int .i64 v.lst] [.bool true, .int .u32 gc, .int .i64 0])
               clear hb X3 U3))
          go_ret
          exact ⟨rfl, St.below S10.out⟩
    | zero =>
      obtain rfl : k = mm := by omega
      have HS := Lib.hid hs
      clear hs hr hk
      by_cases h5 : n ≤ 500
      · have e : k = n := by omega
        have h6 : ¬ k < n := by omega
        clear hmm h5 e
        go_wp2
        go_ret
        exact ⟨rfl, St.below HS.out⟩
      · have e : k = 500 := by omega
        have h6 : 500 < n := by omega
        clear hmm h5
        subst e
        go_wp2
        go_ret
        exact ⟨rfl, St.below HS.out⟩
end Go.Proofs.Ythdikinpociiaaa
