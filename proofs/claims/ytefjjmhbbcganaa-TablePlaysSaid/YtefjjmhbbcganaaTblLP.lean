/- TablePlays, the walk. -/
import Derived.Test.YtefjjmhbbcganaaTblZ
namespace Go.Proofs.Ytefjjmhbbcganaa
open Go.RowKit Go.Own Go.Tbl
set_option linter.unusedVariables false
attribute [local go_sem ↓] Go.wp_at_zero Go.wp_at_succ

theorem small_n (f : Fld) (hf : fok f) (x : Fld) (hx : smallF f = x) (w : World) : Calls Try.prog 17 #[.agg #[.string f.n, .string f.v, .bool f.nv]] w fun e w' => e = .returned (.agg #[.string x.n, .string x.v, .bool x.nv]) ∧ Below w.heap.size w w' := by
  subst hx
  exact small_any f hf w
section
variable {B : Nat} {w0 w w' : World} {p r hT hR : Nat} {LT LR : List Fld} {vo vw : Value}
theorem St.vals (s : St B w0 w p r hT LT hR LR vo vw) : (vo = .pointer none ∧ vw = .pointer none) ∨ ∃ p2 r2, vo = .pointer (some ⟨p2, 0, none⟩) ∧ vw = .pointer (some ⟨r2, 0, none⟩) := by
  obtain ⟨own, kT, kR, hne, t, u, o⟩ := s.all
  rcases o with o | ⟨p2, r2, h2, L2, kO, kW, e1, e2, _⟩
  · exact .inl o
  · exact .inr ⟨p2, r2, e1, e2⟩
theorem stAddT_at (s : St B w0 w p r hT LT hR LR vo vw) (o : Obj) (f : Fld) (hf : fok f) : Calls Try.prog 18 #[.pointer (some ⟨p, 0, none⟩), .agg #[.string f.n, .string f.v, .bool f.nv]] (w.alloc o) fun e w' => e = .returned (.tuple #[]) ∧ St B w0 w' p r hT (addF hT f LT) hR LR vo vw ∧ Fr (fun i => i < w.heap.size) (w.alloc o) w' := by
  obtain ⟨own, kT, kR, hne, ⟨F, t, hF⟩, u, ol⟩ := s.all
  have hb : Below w.heap.size w (w.alloc o) := (Below.refl _ _).alloc (Nat.le_refl _) _
  have t1 : PT (w.alloc o) p F hT LT := t.fr (Fr.of_below (S := fun i => w.heap.size ≤ i) hb (fun _ _ h => h)) (fun i hi => by have := t.lt i hi; omega)
  have s1 := s.next hb
  refine (pAdd_c t1 f hf).mono ?_
  rintro e w' ⟨F', rfl, t', hF', hfr⟩
  have hsz : B ≤ (w.alloc o).heap.size := s1.size
  exact ⟨rfl, ⟨⟨_, kT, kR, hne, Tb.mut t' hF' hF t1.lt hsz, (u.next hb).keep hfr (fun i hi => (hF i hi).2) (by omega), (ol.next hb).keep hfr (fun i hi => (hF i hi).2) (.inl rfl)⟩, s1.below.trans (hfr.below hsz (fun i _ hi => (hF i hi).1)), Nat.le_trans hsz hfr.size⟩, hfr.mono (fun i _ hi => t.lt i hi)⟩
end
set_option maxRecDepth 100000 in
set_option maxHeartbeats 16000000 in
theorem lawPlays {w : World} (m : Int) (hm : i64 m) {A : Option Addr} {n c : Nat} {l : List Opp} (s : OpsIn w A n c l) :
    Calls Try.prog 4 #[.int .i64 m, .slice A n c] w fun e w' => e = .returned (.bool true) ∧ Below w.heap.size w w' := by
  obtain ⟨h0, hh⟩ : ∃ h, clampI m = h := ⟨_, rfl⟩
  have Hh := Lib.hid hh
  have Hs := Lib.hid s
  have hc63 := s.cm
  have hnc := s.nc
  clear hh s
  go_enter Try.func4, Try.ntmps4
  go_wp2_with (first
    | (go_at_call 10; (with_reducible refine (shown4 _).mono ?_); rintro e w1 ⟨rfl, b1⟩
       have B1 := Lib.hid b1
       clear b1)
    | (go_at_call 15; (with_reducible refine (pNew_c m hm w1).mono ?_); rintro e w2 ⟨p, F2, rfl, t2, hF2, b2⟩
       rw [Hh.out] at t2
       have T2 := Lib.hid t2
       have HF2 := Lib.hid hF2
       have B2 := Lib.hid b2
       clear t2 hF2 b2)
    | (go_at_call 16; (with_reducible refine (xrNew m w2).mono ?_); rintro e w3 ⟨r, G3, rfl, u3, hG3, b3⟩
       rw [Hh.out] at u3
       have S3 := Lib.hid (St.start T2.out HF2.out B2.out u3 hG3 b3)
       clear u3 hG3 b3))
  obtain ⟨M, hM⟩ : ∃ M, min n 80 = M := ⟨_, rfl⟩
  have hM1 : M ≤ n := by omega
  have hM2 : M ≤ 80 := by omega
  have HM := Lib.hid hM
  clear hM T2 HF2 B2
  go_loopg [10, 6, 8, 9] M (fun gh i vp vo vw w' => ∃ (k p h : Nat) (L : List Fld), gh + k = M ∧ i = .int .i64 (k : Int) ∧ vp = .pointer (some ⟨p, 0, none⟩) ∧ St w1.heap.size w1 w' p r h L h L vo vw)
  case atStart => exact ⟨0, p, h0, [], by omega, rfl, rfl, S3.out⟩
  case round =>
    obtain ⟨k, p, h, L, hk, rfl, rfl, ht⟩ := hrel
    have HT := Lib.hid ht
    have hbel := B1.out.trans (ht.below.mono B1.out.size)
    have S2 := Lib.hid (Hs.out.rd.below hbel)
    clear hbel ht S3
    cases gk with
    | succ g1 =>
      have hkn : k < n := by omega
      obtain ⟨o, ho⟩ : ∃ o, l[k]? = some o := ⟨_, List.getElem?_eq_getElem (by rw [Hs.out.len]; exact hkn)⟩
      obtain ⟨b, so, rfl, d0, d1, d2, d3, d4⟩ := rd_op S2.out ho
      obtain ⟨hoi, hon, hof⟩ := Hs.out.ok o (List.mem_of_getElem? ho)
      have Hof := Lib.hid hof
      have k1 : (k : Int) < (n : Int) := by omega
      have k2 : (k : Int) < 80 := by omega
      have k3 : decide (k < n) = true := decide_eq_true hkn
      have Ho := Lib.hid ho
      obtain ⟨x, hx⟩ : ∃ x, smallF o.f = x := ⟨_, rfl⟩
      have hxo : fok x := by rw [← hx]; exact smallF_ok o.f
      have HX := Lib.hid hx
      have HXo := Lib.hid hxo
      obtain ⟨ki, hki⟩ : ∃ ki, o.kind = ki := ⟨_, rfl⟩
      obtain ⟨xn, hxn⟩ : ∃ xn, o.n = xn := ⟨_, rfl⟩
      rw [hki] at d0
      rw [hxn] at d1 hon
      have Hki := Lib.hid hki
      have Hxn := Lib.hid hxn
      clear ho hof hx hxo hki hxn hoi
      go_upto_region 13 with (first
        | (go_at_call 17; (with_reducible refine (small_n o.f Hof.out x HX.out _).mono ?_); rintro e w4 ⟨rfl, b4⟩
           have T4 := Lib.hid (HT.out.next b4)
           have X4 := Lib.hid (Blk.new w4 23 [.string x.n, .string x.v, .bool x.nv])
           obtain ⟨bb, ss, ee, y0, y1, _, _, _⟩ := rd_op (S2.out.below b4) Ho.out
           cases ee
           rw [Hki.out] at y0
           rw [Hxn.out] at y1
           have hb4 : b < w4.heap.size := World.block_lt_of_cell? _ _ y0
           clear b4))
      have hAt : ∃ a b cc d, atV (atL (statL ++ L) xn) = .tuple #[.agg #[.string a, .string b, .bool cc], .bool d] := by
        cases atL (statL ++ L) xn with
        | none => exact ⟨_, _, _, _, rfl⟩
        | some y => exact ⟨_, _, _, _, rfl⟩
      obtain ⟨sa, sb, sc, sd, hAt⟩ := hAt
      have HAt := Lib.hid hAt
      obtain ⟨⟨R1, R2⟩, hR⟩ : ∃ R, findF (statL ++ L) x = R := ⟨_, rfl⟩
      have HR := Lib.hid hR
      have A4 := Lib.hid (T4.out.alloc (.cells #[.string x.n, .string x.v, .bool x.nv] 23))
      have hkinds : ki = 1 ∨ ki = 2 ∨ ki = 3 ∨ ki = 4 ∨ ki = 5 ∨ ki = 6 ∨ ((ki == 1) = false ∧ (ki == 2) = false ∧ (ki == 3) = false ∧ (ki == 4) = false ∧ (ki == 5) = false ∧ (ki == 6) = false) := by
        simp only [beq_eq_false_iff_ne, ne_eq]
        omega
      clear hAt hR d0 d1 d2 d3 d4 S2 HT
      rcases hkinds with rfl | rfl | rfl | rfl | rfl | rfl | ⟨e1, e2, e3, e4, e5, e6⟩
      go_upto_region 36 with (first
        | (go_at_call 18; (with_reducible refine (stAddT_at T4.out _ x HXo.out).mono ?_); rintro e w5 ⟨rfl, s5, f5⟩
           have S5 := Lib.hid s5
           have X5 := X4.out.fr f5 (Nat.lt_irrefl _)
           have z0 : w5.cell? ⟨w4.heap.size, 0, none⟩ = some (.string x.n) := X5.cell 0
           have z1 : w5.cell? ⟨w4.heap.size, 1, none⟩ = some (.string x.v) := X5.cell 1
           have z2 : w5.cell? ⟨w4.heap.size, 2, none⟩ = some (.bool x.nv) := X5.cell 2
           clear s5 f5 X5)
        | (go_at_call 19; (with_reducible refine (stAddR S5.out x HXo.out).mono ?_); rintro e w6 ⟨rfl, s6⟩
           have SF := Lib.hid s6
           clear s6)
        | (go_at_call 20; (with_reducible refine (stSetT A4.out xn hon).mono ?_); rintro e w5 ⟨rfl, s5⟩
           have S5 := Lib.hid s5
           obtain ⟨bb, ss, ee, z0, z1, _, _, _⟩ := rd_op (Hs.out.rd.below (B1.out.trans (s5.below.mono B1.out.size))) Ho.out
           cases ee
           rw [Hxn.out] at z1
           clear s5)
        | (go_at_call 21; (with_reducible refine (stSetR S5.out xn).mono ?_); rintro e w6 ⟨rfl, s6⟩
           have SF := Lib.hid s6
           clear s6)
        | (go_at_call 22; (with_reducible refine (stAtT A4.out xn hon _ HAt.out).mono ?_); rintro e w5 ⟨rfl, s5, b5⟩
           have S5 := Lib.hid (s5.alloc (.cells #[.string sa, .string sb, .bool sc] 23))
           have X5 := Lib.hid (Blk.new w5 23 [.string sa, .string sb, .bool sc])
           obtain ⟨bb, ss, ee, z0, z1, _, _, _⟩ := rd_op (Hs.out.rd.below (B1.out.trans (s5.below.mono B1.out.size))) Ho.out
           cases ee
           rw [Hxn.out] at z1
           have hb5 : b < w5.heap.size := World.block_lt_of_cell? _ _ z0
           clear s5 b5)
        | (go_at_call 23; (with_reducible refine (stAtR S5.out xn hon _ HAt.out).mono ?_); rintro e w6 ⟨rfl, s6, b6⟩
           have SF := Lib.hid (s6.alloc (.cells #[.string sa, .string sb, .bool sc] 23))
           have X6 := X5.out.below b6 (Blk.lt X5.out)
           have hlt6 : w5.heap.size < w6.heap.size := Blk.lt X6
           have u0 : w6.cell? ⟨w5.heap.size, 0, none⟩ = some (.string sa) := X6.cell 0
           have u1 : w6.cell? ⟨w5.heap.size, 1, none⟩ = some (.string sb) := X6.cell 1
           have u2 : w6.cell? ⟨w5.heap.size, 2, none⟩ = some (.bool sc) := X6.cell 2
           clear s6 b6 X6)
        | (go_at_call 24; (with_reducible refine (stFindT A4.out x HXo.out R1 R2 HR.out).mono ?_); rintro e w5 ⟨rfl, s5, b5⟩
           have S5 := Lib.hid s5
           have X5 := X4.out.below b5 (Blk.lt X4.out)
           have z0 : w5.cell? ⟨w4.heap.size, 0, none⟩ = some (.string x.n) := X5.cell 0
           have z1 : w5.cell? ⟨w4.heap.size, 1, none⟩ = some (.string x.v) := X5.cell 1
           have z2 : w5.cell? ⟨w4.heap.size, 2, none⟩ = some (.bool x.nv) := X5.cell 2
           clear s5 b5 X5)
        | (go_at_call 25; (with_reducible refine (stFindR S5.out x R1 R2 HR.out).mono ?_); rintro e w6 ⟨rfl, s6, b6⟩
           have SF := Lib.hid s6
           clear s6 b6)
        | (go_at_call 27; (with_reducible refine (stCloneT V5.out).mono ?_); rintro e w6 ⟨p6, F6, rfl, t6, hF6, b6⟩
           have SF := Lib.hid (St.clones5 A4.out U5.out hG5.out B5.out t6 hF6 b6)
           clear t6 hF6 b6)
        | (go_at_call 26; (with_reducible refine (stCloneR Y5.out).mono ?_); rintro e w6 ⟨r6, G6, rfl, u6, hG6, b6⟩
           have SF := Lib.hid (St.clones6 A4.out U5.out hF5.out B5.out u6 hG6 b6)
           clear u6 hG6 b6)
        | (go_at_call 26; (with_reducible refine (stCloneR A4.out).mono ?_); rintro e w5 ⟨r5, G5, rfl, u5, hG5, b5⟩
           have V5 := Lib.hid (A4.out.next b5)
           have U5 := Lib.hid u5
           have B5 := Lib.hid b5
           have hG5 := Lib.hid hG5
           clear u5 b5)
        | (go_at_call 27; (with_reducible refine (stCloneT A4.out).mono ?_); rintro e w5 ⟨p5, F5, rfl, u5, hF5, b5⟩
           have Y5 := Lib.hid (A4.out.next b5)
           have U5 := Lib.hid u5
           have B5 := Lib.hid b5
           have hF5 := Lib.hid hF5
           clear u5 b5))
      all_goals first | have sf := SF.out | have sf := A4.out
      all_goals rcases sf.vals with ⟨v1, v2⟩ | ⟨p9, r9, v1, v2⟩
      all_goals cases v1
      all_goals cases v2
      all_goals have SZ := Lib.hid sf
      all_goals clear sf
      all_goals
        go_wp2_with (first
          | (go_at_call 28; (with_reducible refine (stSameOld S8.out).mono ?_); rintro e w9 ⟨rfl, s9, b9⟩
             have S9 := Lib.hid s9
             clear s9 b9)
          | (go_at_call 28; (with_reducible refine (stSame SZ.out).mono ?_); rintro e w8 ⟨rfl, s8, b8⟩
             have S8 := Lib.hid s8
             clear s8 b8))
        go_roundg g1
        case measure => omega
        case rel => first | exact ⟨k + 1, _, _, _, by omega, by go_num, rfl, S9.out⟩ | exact ⟨k + 1, _, _, _, by omega, by go_num, rfl, S8.out⟩
    | zero =>
      obtain rfl : k = M := by omega
      have hcase : (decide (k < n) = false) ∨ ((k : Int) < (n : Int) ∧ ¬ (k : Int) < 80 ∧ decide (k < n) = true) := by
        have := HM.out
        by_cases h1 : k < n
        · exact .inr ⟨by omega, by omega, decide_eq_true h1⟩
        · exact .inl (decide_eq_false h1)
      clear S2
      rcases hcase with hk1 | ⟨hk1, hk2, hk3⟩
      all_goals
        go_wp2_with (first
          | (go_at_call 28; (with_reducible refine (stSame HT.out).mono ?_); rintro e w8 ⟨rfl, s8, b8⟩
             have S8 := Lib.hid s8
             clear s8 b8))
        go_ret
        exact ⟨rfl, B1.out.trans (S8.out.below.mono B1.out.size)⟩
end Go.Proofs.Ytefjjmhbbcganaa
