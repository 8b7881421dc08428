/- Several texts in one: LwQ, LwR. -/
import Derived.Test.YtokbdkbljgdcpaaDoorYPB
import Derived.Test.YtokbdkbljgdcpaaDoorYPA
import Derived.Laws.StructEq
import Derived.Deep.RegionHeld
/- told among other things; pieces and a row of one slice as what told reads; frames and faults at a place of what was told. -/
namespace Go.Proofs.YtokbdkbljgdcpaaDoor
open Go.RowKit Go.Own Go.Frm
set_option linter.unusedVariables false
set_option maxRecDepth 100000
def ToldS (w0 w : World) (p m : Nat) (Z : List (Fm × Flt)) (st : Pst) (L : List Ob) (e : Ending) (w' : World) : Prop :=
  ∃ A1 c1 A2 c2 q l, e = .returned (.tuple #[.slice A1 q c1, .slice A2 q c2, .bool true]) ∧ l.length = q ∧ q ≤ 300000 ∧ tls l = Z ∧ St (fun _ => False) w0 w' (PFo p m st :: (L ++ [SLo w.heap.size 27 16 (.slice A1 q c1) q (fcells l), SLo w.heap.size 46 3 (.slice A2 q c2) q (xcells l), FrsO l]))
section
variable {w0 wa w : World} {L : List Ob} {p m : Nat}
theorem told_s {st : Pst} (s : St (fun _ => False) w0 wa (PFo p m st :: L)) (hb : Below wa.heap.size wa w) (hG : Gl w0) (D : Dry m st) {A : Option Addr} {n c : Nat} {bs : List (List UInt8)} (hbs : ∀ F : Nat → Prop, (∀ i, F i → w0.heap.size ≤ i ∧ i < wa.heap.size) → Pcs w F A n bs) (hnc : n ≤ c) (hn : n ≤ 1000000) (hT : st.held.length + bs.flatten.length ≤ 300000) :
    Calls Tryd.prog 26 #[.pointer (some ⟨p, 0, none⟩), .slice A n c] w fun e w' => ToldS w0 w p m (toldP m st bs).1 (toldP m st bs).2 L e w' := by
  obtain ⟨F, hF, hFr, hlo, hback⟩ := s.focus0
  have hf : Fr (fun _ => False) wa w := Fr.of_below hb (fun i h1 h2 => absurd h2 (by omega))
  have hF1 := hFr.fr wa w F _ hF hf (fun _ _ h => h)
  have hp := hG.pos
  have hlo' : ∀ i, F i → w0.heap.size ≤ i ∧ i < wa.heap.size := fun i hi => ⟨(hlo i hi).resolve_left (fun h => h), hFr.lt _ _ hF i hi⟩
  have hGw : Gl w := (hG.below s.below).below hb
  refine (told_c hF1 hGw (fun h => ?_) (fun h => ?_) D (hbs F hlo') hnc hn hT).mono ?_
  · have := hlo' _ h; omega
  · have := hlo' _ h; omega
  · rintro e w' ⟨A1, c1, A2, c2, q, l, rfl, h1, h2, h3, s'⟩
    exact ⟨A1, c1, A2, c2, q, l, rfl, h1, h2, h3, hback w' _ _ (s'.before hf)⟩
/-- one slice of octets -/
theorem pcs_one {w0 wa : World} (hsz : w0.heap.size ≤ wa.heap.size) {B : Option Addr} {nb cb : Nat} {ys : List UInt8} (hr : Rd wa 1 B nb (ys.map BV)) (hB : 0 < nb → ∀ a : Addr, B = some a → a.block < w0.heap.size) (hnb : nb ≤ cb) (hcb : cb ≤ 140737488355328) (F : Nat → Prop) (hF : ∀ i, F i → w0.heap.size ≤ i ∧ i < wa.heap.size) :
    Pcs (wa.alloc (.cells #[.slice B nb cb] 22)) F (some ⟨wa.heap.size, 0, none⟩) 1 [ys] := by
  refine ⟨rfl, fun i zs hi => ?_⟩
  have hi0 : i = 0 := by
    have := (List.getElem?_eq_some_iff.1 hi).1
    simp at this; exact this
  subst hi0
  simp at hi
  subst hi
  refine ⟨wa.heap.size, 0, B, nb, cb, rfl, fun h => ?_, ?_, fun hp a ha h => ?_, ?_, hnb, hcb⟩
  · have := (hF _ h).2; omega
  · exact (Blk.new wa 22 [.slice B nb cb]).cell 0
  · have := (hF _ h).1
    have := hB hp a ha
    omega
  · exact hr.below ((Below.refl _ _).alloc (Nat.le_refl _) _)
theorem mem_flat_len : ∀ (bs : List (List UInt8)) (zs : List UInt8), zs ∈ bs → zs.length ≤ bs.flatten.length
  | [], _, h => by cases h
  | b :: bs, zs, h => by
    rw [flat_len]
    rcases List.mem_cons.1 h with rfl | h
    · omega
    · have := mem_flat_len bs zs h; omega
/-- what pieces has cut -/
theorem pcs_cut {w0 wa w : World} {B : Option Addr} {nb : Nat} {ys : List UInt8} {A : Option Addr} {n c : Nat} {vs : List Value} {bs : List (List UInt8)} (hyl : ys.length = nb) (hb : Below wa.heap.size wa w) (hown : w.ownsRow wa.heap.size 22 1 (.slice A n c) n vs) (hfl : bs.flatten = ys) (hbl : bs.length = n) (hpc : PcOf wa B vs bs) (hB : 0 < nb → ∀ a : Addr, B = some a → a.block < w0.heap.size) (F : Nat → Prop) (hF : ∀ i, F i → w0.heap.size ≤ i ∧ i < wa.heap.size) :
    Pcs w F A n bs := by
  refine ⟨hbl, fun i zs hi => ?_⟩
  obtain ⟨Bi, ni, ci, hv, hr, h1, h2, h3⟩ := hpc.2 i zs hi
  have hil : i < n := by
    have := (List.getElem?_eq_some_iff.1 hi).1
    omega
  obtain ⟨b, o, u, hA, hu, hcell⟩ := (Rd.of_own hown).at_ hil
  rw [hv] at hu
  cases hu
  subst hA
  have hz : zs.length = ni := by simpa using hr.1
  have hle : zs.length ≤ ys.length := by
    rw [← hfl]
    exact mem_flat_len bs zs (List.mem_of_getElem? hi)
  have hgb := (hown.lt b (by rfl)).1
  refine ⟨b, o, Bi, ni, ci, rfl, fun h => ?_, hcell, fun hp a ha h => ?_, hr.below hb, h1, h2⟩
  · have := (hF _ h).2; omega
  · obtain ⟨a0, ha0, he⟩ := h3 a ha
    have := hB (by omega) a0 ha0
    have := (hF _ h).1
    omega
end
theorem flat_at {α : Type} (g : α → List Value) (K : Nat) (hg : ∀ t, (g t).length = K) : ∀ (l : List α) (i : Nat) (t : α) (k : Nat) (u : Value), l[i]? = some t → (g t)[k]? = some u → (l.flatMap g)[i * K + k]? = some u
  | [], i, t, k, u, h, _ => by simp at h
  | a :: l, 0, t, k, u, h, hk => by
    simp at h; subst h
    have hlt := (List.getElem?_eq_some_iff.1 hk).1
    rw [List.flatMap_cons, List.getElem?_append_left (by omega), Nat.zero_mul, Nat.zero_add]; exact hk
  | a :: l, i + 1, t, k, u, h, hk => by
    have ih := flat_at g K hg l i t k u (by simpa using h) hk
    rw [List.flatMap_cons, List.getElem?_append_right (by rw [hg, Nat.succ_mul]; omega), hg, Nat.succ_mul, show i * K + K + k - K = i * K + k by omega]
    exact ih
theorem flat_len' {α : Type} (g : α → List Value) (K : Nat) (hg : ∀ t, (g t).length = K) (l : List α) : (l.flatMap g).length = l.length * K := by
  induction l with
  | nil => simp
  | cons a l ih => rw [List.flatMap_cons, List.length_append, hg, ih, List.length_cons, Nat.succ_mul]; omega
/-- cells of an element of K cells -/
theorem rd_elem {α : Type} (g : α → List Value) (K : Nat) (hK : 0 < K) (hg : ∀ t, (g t).length = K) {W : World} {A : Option Addr} {q i : Nat} {l : List α} (h : Rd W K A q (l.flatMap g)) (hl : l.length = q) {t : α} (ht : l[i]? = some t) :
    ∃ b o, A = some ⟨b, o, none⟩ ∧ ∀ k u, (g t)[k]? = some u → W.cell? ⟨b, o + i * K + k, none⟩ = some u := by
  have hi := (List.getElem?_eq_some_iff.1 ht).1
  obtain ⟨b, o, hA, hc⟩ := h.2 (by omega)
  exact ⟨b, o, hA, fun k u hk => by rw [Nat.add_assoc]; exact hc _ u (flat_at g K hg l i t k u ht hk)⟩
theorem fl_neq (b : Bool) (c z : Int) (W : World) : (binOp .neq 46 (.agg #[.bool b, .int .u32 c, .int .i64 z]) (.agg #[.bool b, .int .u32 c, .int .i64 z])).run Tryd.prog W = .ok (.bool false) W := by
  rw [run_neq_struct, run_equalIn_agg _ _ _ _ _ (by kernel_rfl) (by kernel_rfl)]
  simp [Program.fieldsOf, Tryd.underlying46, Op.eqFields, go_sem]
end Go.Proofs.YtokbdkbljgdcpaaDoor

/- The law FramePieces. -/
namespace Go.Proofs.YtokbdkbljgdcpaaDoor
open Go.RowKit Go.Own Go.Frm
set_option linter.unusedVariables false
set_option maxRecDepth 100000
theorem ints_at {W : World} {A : Option Addr} {n c : Nat} (h : HoldsT Tryd.prog W 3 58 [.slice A n c]) : IntsAt W A n := by
  intro i hi
  obtain ⟨b, o, v, rfl, hc, hv⟩ := HoldsT.at_ (d := 2) Tryd.underlying58 (by kernel_rfl) h hi
  obtain ⟨z, rfl, hz⟩ := HoldsT.int (d := 1) Tryd.underlying3 hv
  obtain ⟨h1, h2⟩ := i64_of hz
  exact ⟨b, o, z, rfl, hc, h1, h2⟩
theorem IntsAt.below {W W' : World} {A : Option Addr} {n : Nat} (h : IntsAt W A n) (hb : Below W.heap.size W W') : IntsAt W' A n := by
  intro i hi
  obtain ⟨b, o, z, rfl, hc, rest⟩ := h i hi
  exact ⟨b, o, z, rfl, (hb.cell (World.block_lt_of_cell? _ _ hc)).trans hc, rest⟩
theorem tls_len (l : List Tl) : (tls l).length = l.length := by simp [tls]
theorem tls_at {l : List Tl} {i : Nat} {t : Tl} (h : l[i]? = some t) : (tls l)[i]? = some (t.f, t.x) := by simp [tls, h]
theorem frs_at {w0 w : World} {S : Nat → Prop} {L1 L2 : List Ob} {l : List Tl} {i : Nat} {t : Tl} (s : St S w0 w (L1 ++ FrsO l :: L2)) (h : l[i]? = some t) :
    ∃ A ca B cb, t.pv = .slice A t.f.pay.length ca ∧ t.lv = .slice B t.f.list.length cb ∧ Rd w 1 A t.f.pay.length (t.f.pay.map BV) ∧ Rd w 2 B t.f.list.length (scells t.f.list) ∧ t.f.list.length ≤ 9223372036854775807 := by
  obtain ⟨F, ⟨hF, _⟩, _⟩ := St.focus L1 (FrsO l) L2 s
  obtain ⟨A, c, B, d, h1, h2, h3, h4⟩ := hF t (List.mem_of_getElem? h)
  rw [h1] at h3
  rw [h2] at h4
  obtain ⟨A', c', e, k1, k2, _⟩ := own_shape h4
  exact ⟨A, c, B, d, h1, h2, Rd.of_own h3, Rd.of_own h4, by unfold maxLen at k2; omega⟩
theorem rd_lt' {W : World} {A : Option Addr} {n : Nat} {xs : List UInt8} (h : Rd W 1 A n (xs.map BV)) : 0 < n → ∀ a : Addr, A = some a → a.block < W.heap.size := fun hn => rd_lt h hn
set_option maxHeartbeats 8000000 in
theorem lawPieces {w : World} (z : Int) (hz : -9223372036854775808 ≤ z ∧ z ≤ 9223372036854775807) {B : Option Addr} {nb cb : Nat} {ys : List UInt8} (hr : Rd w 1 B nb (ys.map BV)) (hnb : nb ≤ cb) (hcb : cb ≤ 140737488351232) {C : Option Addr} {nc cc : Nat} (hc : HoldsT Tryd.prog w 3 58 [.slice C nc cc]) (hG : Gl w) :
    Calls Tryd.prog 6 #[.int .i64 z, .slice B nb cb, .slice C nc cc] w fun e w' => e = .returned (.bool true) ∧ Below w.heap.size w w' := by
  have hyl : ys.length = nb := by simpa using hr.1
  obtain ⟨m, hm⟩ : ∃ m, clampM z = m := ⟨_, rfl⟩
  have HG := Lib.hid hG
  have HM := Lib.hid hm
  have HZ := Lib.hid hz
  have HR := Lib.hid hr
  have HC := Lib.hid (ints_at hc)
  have HYL := Lib.hid hyl
  by_cases hbig : 30000 < nb
  · have k1 : (30000 : Int) < (nb : Int) := by omega
    clear hG hm hz hr hc hyl
    go_enter Tryd.func6, Tryd.ntmps6
    go_wp2_with (first
      | (go_at_call 12; (with_reducible refine (shown_c HG.out).mono ?_); rintro e w1 ⟨rfl, hb1⟩
         have HB1 := Lib.hid hb1
         clear hb1))
    go_ret
    exact ⟨rfl, HB1.out⟩
  · have k1 : ¬ (30000 : Int) < (nb : Int) := by omega
    have HN : Hid (nb ≤ 30000) := Nat.le_of_not_lt hbig
    obtain ⟨ZD, hZD⟩ : ∃ x, (Go.Frm.drain m ⟨ys, false⟩).1 = x := ⟨_, rfl⟩
    obtain ⟨sD, hsD⟩ : ∃ x, (Go.Frm.drain m ⟨ys, false⟩).2 = x := ⟨_, rfl⟩
    obtain ⟨hl, hhl⟩ : ∃ x, sD.held.length = x := ⟨_, rfl⟩
    have HZD := Lib.hid hZD
    have HSD := Lib.hid hsD
    have HHL := Lib.hid hhl
    clear hG hm hz hr hc hyl hbig hZD hsD hhl
    go_enter Tryd.func6, Tryd.ntmps6
    go_upto_region 4 with (first
      | (go_at_call 12; (with_reducible refine (shown_c HG.out).mono ?_); rintro e w1 ⟨rfl, hb1⟩
         have HB1 := Lib.hid hb1
         have HG1 := Lib.hid (HG.out.below HB1.out)
         clear hb1))
    clear k1
    go_upto_region 10 with (first
      | (go_at_call 17; (with_reducible refine (new_c z HZ.out).mono ?_); rintro e w4 ⟨p2, rfl, s4⟩
         rw [HM.out] at s4
         have S4 := Lib.hid (S3.out.add s4)
         have R4 := Lib.hid (HR.out.below (HB1.out.trans (S4.out.below.mono HB1.out.size)))
         have hb4 : Hid (∀ F : Nat → Prop, (∀ i, F i → w1.heap.size ≤ i ∧ i < w4.heap.size) → Pcs (w4.alloc (.cells #[.slice B nb cb] 22)) F (some ⟨w4.heap.size, 0, none⟩) 1 [ys]) := pcs_one S4.out.size R4.out (fun hp a ha => Nat.lt_of_lt_of_le (rd_lt' HR.out hp a ha) HB1.out.size) hnb (by omega)
         have hal4 : Hid (Below w4.heap.size w4 (w4.alloc (.cells #[.slice B nb cb] 22))) := (Below.refl _ _).alloc (Nat.le_refl _) _
         have hT4 : Hid (((⟨[], false⟩ : Pst).held.length) + [ys].flatten.length ≤ 300000) := by have := HYL.out; have := HN.out; show ([] : List UInt8).length + [ys].flatten.length ≤ 300000; simp; omega
         clear s4)
      | (go_at_call 17; (with_reducible refine (new_c z HZ.out).mono ?_); rintro e w3 ⟨p, rfl, s3⟩
         rw [HM.out] at s3
         have S3 := Lib.hid s3
         clear s3)
      | (go_at_call 26; (with_reducible refine (told_s S4.out hal4.out HG1.out (new_dry m) hb4.out (Nat.le_refl 1) (by omega) hT4.out).mono ?_); rintro e w5 ⟨A1, c1, A2, c2, q1, l1, rfl, hl1, hq1, hz1, s5⟩
         rw [told_pieces, List.flatten_singleton, HZD.out] at hz1
         rw [told_pieces, List.flatten_singleton, HSD.out] at s5
         have s5' : St (fun _ => False) w1 w5 [PFo p m sD, PFo p2 m ⟨[], false⟩, SLo (w4.alloc (.cells #[.slice B nb cb] 22)).heap.size 27 16 (.slice A1 q1 c1) q1 (fcells l1), SLo (w4.alloc (.cells #[.slice B nb cb] 22)).heap.size 46 3 (.slice A2 q1 c2) q1 (xcells l1), FrsO l1] := s5
         obtain ⟨bb, hbb⟩ : ∃ x, (w4.alloc (.cells #[.slice B nb cb] 22)).heap.size = x := ⟨_, rfl⟩
         rw [hbb] at s5'
         have S5 := Lib.hid s5'
         have HB5 := Lib.hid (HB1.out.trans (S5.out.below.mono HB1.out.size))
         have R5 := Lib.hid (HR.out.below HB5.out)
         have C5 := Lib.hid (HC.out.below HB5.out)
         have HL1 := Lib.hid hl1
         have HQ1 := Lib.hid hq1
         have HZ1 := Lib.hid hz1
         clear s5 s5' hl1 hz1 hbb hq1)
      | (go_at_call 27; (with_reducible refine (pieces_c R5.out hnb (by omega) C5.out).mono ?_); rintro e w6 ⟨A6, n6, c6, vs, bs, rfl, o6, b6, hfl, hn6, hbl, hpc⟩
         have hb6 : Hid (∀ F : Nat → Prop, (∀ i, F i → w1.heap.size ≤ i ∧ i < w5.heap.size) → Pcs w6 F A6 n6 bs) := pcs_cut HYL.out b6 o6 hfl hbl hpc (fun hp a ha => Nat.lt_of_lt_of_le (rd_lt' HR.out hp a ha) HB1.out.size)
         obtain ⟨A6', c6', e6, k61, k62, _⟩ := own_shape o6
         have hnc6 : n6 ≤ c6 := by cases e6; exact k61
         have B6 := Lib.hid b6
         have HFL := Lib.hid hfl
         have hT6 : Hid (((⟨[], false⟩ : Pst).held.length) + bs.flatten.length ≤ 300000) := by have := HYL.out; have := HN.out; rw [hfl]; show ([] : List UInt8).length + ys.length ≤ 300000; simp; omega
         clear o6 b6 hfl hbl hpc e6 k61 k62)
      | (go_at_call 26; (with_reducible refine (told_s S5.out.perm2 B6.out HG1.out (new_dry m) hb6.out hnc6 (by omega) hT6.out).mono ?_); rintro e w7 ⟨A3, c3, A4, c4, q2, l2, rfl, hl2, hq2, hz2, s7⟩
         rw [told_pieces, HFL.out, HZD.out] at hz2
         rw [told_pieces, HFL.out, HSD.out] at s7
         obtain rfl : q2 = q1 := by rw [← hl2, ← HL1.out, ← tls_len, ← tls_len, hz2, HZ1.out]
         have s7' : St (fun _ => False) w1 w7 [PFo p2 m sD, PFo p m sD, SLo bb 27 16 (.slice A1 q2 c1) q2 (fcells l1), SLo bb 46 3 (.slice A2 q2 c2) q2 (xcells l1), FrsO l1, SLo w6.heap.size 27 16 (.slice A3 q2 c3) q2 (fcells l2), SLo w6.heap.size 46 3 (.slice A4 q2 c4) q2 (xcells l2), FrsO l2] := s7
         have S7 := Lib.hid s7'
         have S7p := Lib.hid s7'.perm2
         have HL2 := Lib.hid hl2
         have HZ2 := Lib.hid hz2
         clear s7 s7' hl2 hz2 hq2))
    go_upto_region 13 with (first
      | (go_at_call 25; (with_reducible refine (size_n S7p.out hl HHL.out).mono ?_); rintro e w8 ⟨rfl, rfl⟩)
      | (go_at_call 25; (with_reducible refine (size_n S7.out hl HHL.out).mono ?_); rintro e w8 ⟨rfl, rfl⟩))
    go_loopg [16] q2 (fun gh t w' => ∃ i : Nat, gh + i = q2 ∧ t = .int .i64 (i : Int) ∧ St (fun _ => False) w1 w' [PFo p2 m sD, PFo p m sD, SLo bb 27 16 (.slice A1 q2 c1) q2 (fcells l1), SLo bb 46 3 (.slice A2 q2 c2) q2 (xcells l1), FrsO l1, SLo w6.heap.size 27 16 (.slice A3 q2 c3) q2 (fcells l2), SLo w6.heap.size 46 3 (.slice A4 q2 c4) q2 (xcells l2), FrsO l2])
    case atStart => exact ⟨0, by omega, rfl, S7.out⟩
    case round =>
      clear S7 S7p
      obtain ⟨i, hi, rfl, s8⟩ := hrel
      have S8 := Lib.hid s8
      have HI := Lib.hid hi
      clear s8
      cases gk with
      | zero =>
        obtain rfl : i = q2 := by omega
        clear hi
        go_wp2
        go_ret
        exact ⟨rfl, HB1.out.trans (S8.out.below.mono HB1.out.size)⟩
      | succ g1 =>
        have k2 : (i : Int) < (q2 : Int) := by omega
        have hi1 : i < l1.length := by rw [HL1.out]; omega
        have hi2 : i < l2.length := by rw [HL2.out]; omega
        obtain ⟨t1, ht1⟩ : ∃ t, l1[i]? = some t := ⟨_, List.getElem?_eq_getElem hi1⟩
        obtain ⟨t2, ht2⟩ : ∃ t, l2[i]? = some t := ⟨_, List.getElem?_eq_getElem hi2⟩
        have hsame : (t1.f, t1.x) = (t2.f, t2.x) := by
          have h1 := tls_at ht1
          have h2 := tls_at ht2
          rw [HZ1.out] at h1
          rw [HZ2.out, h1] at h2
          injection h2
        obtain ⟨Af, cf, Bf, df, e1, e2, rp1, rl1, hb1⟩ := frs_at (L1 := [_, _, _, _]) S8.out ht1
        obtain ⟨Ag, cg, Bg, dg, e3, e4, rp2, rl2, hb2⟩ := frs_at (L1 := [_, _, _, _, _, _, _]) S8.out ht2
        obtain ⟨f, pv1, lv1, ⟨b, cd, zf⟩⟩ := t1
        obtain ⟨f2, pv2, lv2, x2⟩ := t2
        simp only [Prod.mk.injEq] at hsame
        obtain ⟨rfl, rfl⟩ := hsame
        simp only at e1 e2 e3 e4 rp1 rl1 rp2 rl2 hb1
        subst e1 e2 e3 e4
        obtain ⟨b1, o1, rfl, hp1⟩ := rd_elem (fun t : Tl => frC t.f t.pv t.lv) 16 (by omega) (fun _ => rfl) (Rd.of_own S8.out.own2) HL1.out ht1
        obtain ⟨b2, o2, rfl, hp2⟩ := rd_elem (fun t : Tl => frC t.f t.pv t.lv) 16 (by omega) (fun _ => rfl) (Rd.of_own S8.out.own5) HL2.out ht2
        have S8d : Hid (St (fun _ => False) w1 wr.drew [PFo p2 m sD, PFo p m sD, SLo bb 27 16 (.slice (some ⟨b1, o1, none⟩) q2 c1) q2 (fcells l1), SLo bb 46 3 (.slice A2 q2 c2) q2 (xcells l1), FrsO l1, SLo w6.heap.size 27 16 (.slice (some ⟨b2, o2, none⟩) q2 c3) q2 (fcells l2), SLo w6.heap.size 46 3 (.slice A4 q2 c4) q2 (xcells l2), FrsO l2]) := S8.out.drewN 1
        have RP1 : Hid (Rd wr.drew 1 Af f.pay.length (f.pay.map BV)) := rp1.below (below_drewN (Below.refl _ wr) 1)
        have RL1 : Hid (Rd wr.drew 2 Bf f.list.length (scells f.list)) := rl1.below (below_drewN (Below.refl _ wr) 1)
        have RP2 : Hid (Rd wr.drew 1 Ag f.pay.length (f.pay.map BV)) := rp2.below (below_drewN (Below.refl _ wr) 1)
        have RL2 : Hid (Rd wr.drew 2 Bg f.list.length (scells f.list)) := rl2.below (below_drewN (Below.refl _ wr) 1)
        have HT1 := Lib.hid ht1
        have HT2 := Lib.hid ht2
        have HBB := Lib.hid hb1
        have HP1 : Hid (∀ (k : Nat) (u : Value), (frC f (.slice Af f.pay.length cf) (.slice Bf f.list.length df))[k]? = some u → wr.drew.cell? ⟨b1, o1 + i * 16 + k, none⟩ = some u) := hp1
        have HP2 : Hid (∀ (k : Nat) (u : Value), (frC f (.slice Ag f.pay.length cg) (.slice Bg f.list.length dg))[k]? = some u → wr.drew.cell? ⟨b2, o2 + i * 16 + k, none⟩ = some u) := hp2
        clear hp1 hp2 rp1 rl1 rp2 rl2 ht1 ht2 hi1 hi2 hb1 hb2 hi
        go_wp2
        go_region_held (fun w' => w'.cell? ⟨b1, o1 + i * 16, none⟩ = some (.int .i64 f.kind) ∧ w'.cell? ⟨b1, o1 + i * 16 + 1, none⟩ = some (.int .i64 f.stream) ∧ w'.cell? ⟨b1, o1 + i * 16 + 2, none⟩ = some (.bool f.fin) ∧ w'.cell? ⟨b1, o1 + i * 16 + 3, none⟩ = some (.bool f.eh) ∧ w'.cell? ⟨b1, o1 + i * 16 + 4, none⟩ = some (.bool f.ack) ∧ w'.cell? ⟨b1, o1 + i * 16 + 5, none⟩ = some (.bool f.prio) ∧ w'.cell? ⟨b1, o1 + i * 16 + 6, none⟩ = some (.slice Af f.pay.length cf) ∧ w'.cell? ⟨b1, o1 + i * 16 + 7, none⟩ = some (.int .i64 f.flags) ∧ w'.cell? ⟨b1, o1 + i * 16 + 8, none⟩ = some (.int .i64 f.pad) ∧ w'.cell? ⟨b1, o1 + i * 16 + 9, none⟩ = some (.int .i64 f.depend) ∧ w'.cell? ⟨b1, o1 + i * 16 + 10, none⟩ = some (.bool f.excl) ∧ w'.cell? ⟨b1, o1 + i * 16 + 11, none⟩ = some (.int .i64 f.weight) ∧ w'.cell? ⟨b1, o1 + i * 16 + 12, none⟩ = some (.int .u32 (f.code : Int)) ∧ w'.cell? ⟨b1, o1 + i * 16 + 13, none⟩ = some (.slice Bf f.list.length df) ∧ w'.cell? ⟨b1, o1 + i * 16 + 14, none⟩ = some (.int .i64 f.last) ∧ w'.cell? ⟨b1, o1 + i * 16 + 15, none⟩ = some (.int .i64 f.inc) ∧ w'.cell? ⟨b2, o2 + i * 16, none⟩ = some (.int .i64 f.kind) ∧ w'.cell? ⟨b2, o2 + i * 16 + 1, none⟩ = some (.int .i64 f.stream) ∧ w'.cell? ⟨b2, o2 + i * 16 + 2, none⟩ = some (.bool f.fin) ∧ w'.cell? ⟨b2, o2 + i * 16 + 3, none⟩ = some (.bool f.eh) ∧ w'.cell? ⟨b2, o2 + i * 16 + 4, none⟩ = some (.bool f.ack) ∧ w'.cell? ⟨b2, o2 + i * 16 + 5, none⟩ = some (.bool f.prio) ∧ w'.cell? ⟨b2, o2 + i * 16 + 6, none⟩ = some (.slice Ag f.pay.length cg) ∧ w'.cell? ⟨b2, o2 + i * 16 + 7, none⟩ = some (.int .i64 f.flags) ∧ w'.cell? ⟨b2, o2 + i * 16 + 8, none⟩ = some (.int .i64 f.pad) ∧ w'.cell? ⟨b2, o2 + i * 16 + 9, none⟩ = some (.int .i64 f.depend) ∧ w'.cell? ⟨b2, o2 + i * 16 + 10, none⟩ = some (.bool f.excl) ∧ w'.cell? ⟨b2, o2 + i * 16 + 11, none⟩ = some (.int .i64 f.weight) ∧ w'.cell? ⟨b2, o2 + i * 16 + 12, none⟩ = some (.int .u32 (f.code : Int)) ∧ w'.cell? ⟨b2, o2 + i * 16 + 13, none⟩ = some (.slice Bg f.list.length dg) ∧ w'.cell? ⟨b2, o2 + i * 16 + 14, none⟩ = some (.int .i64 f.last) ∧ w'.cell? ⟨b2, o2 + i * 16 + 15, none⟩ = some (.int .i64 f.inc))
          (first | exact ⟨HP1.out 0 _ rfl, HP1.out 1 _ rfl, HP1.out 2 _ rfl, HP1.out 3 _ rfl, HP1.out 4 _ rfl, HP1.out 5 _ rfl, HP1.out 6 _ rfl, HP1.out 7 _ rfl, HP1.out 8 _ rfl, HP1.out 9 _ rfl, HP1.out 10 _ rfl, HP1.out 11 _ rfl, HP1.out 12 _ rfl, HP1.out 13 _ rfl, HP1.out 14 _ rfl, HP1.out 15 _ rfl, HP2.out 0 _ rfl, HP2.out 1 _ rfl, HP2.out 2 _ rfl, HP2.out 3 _ rfl, HP2.out 4 _ rfl, HP2.out 5 _ rfl, HP2.out 6 _ rfl, HP2.out 7 _ rfl, HP2.out 8 _ rfl, HP2.out 9 _ rfl, HP2.out 10 _ rfl, HP2.out 11 _ rfl, HP2.out 12 _ rfl, HP2.out 13 _ rfl, HP2.out 14 _ rfl, HP2.out 15 _ rfl⟩ | exact ⟨HK1.out 0 _ rfl, HK1.out 1 _ rfl, HK1.out 2 _ rfl, HK1.out 3 _ rfl, HK1.out 4 _ rfl, HK1.out 5 _ rfl, HK1.out 6 _ rfl, HK1.out 7 _ rfl, HK1.out 8 _ rfl, HK1.out 9 _ rfl, HK1.out 10 _ rfl, HK1.out 11 _ rfl, HK1.out 12 _ rfl, HK1.out 13 _ rfl, HK1.out 14 _ rfl, HK1.out 15 _ rfl, HK2.out 0 _ rfl, HK2.out 1 _ rfl, HK2.out 2 _ rfl, HK2.out 3 _ rfl, HK2.out 4 _ rfl, HK2.out 5 _ rfl, HK2.out 6 _ rfl, HK2.out 7 _ rfl, HK2.out 8 _ rfl, HK2.out 9 _ rfl, HK2.out 10 _ rfl, HK2.out 11 _ rfl, HK2.out 12 _ rfl, HK2.out 13 _ rfl, HK2.out 14 _ rfl, HK2.out 15 _ rfl⟩)
          (first
          | (go_at_call 16; (with_reducible refine (same_c f RP1.out RL1.out RP2.out RL2.out HBB.out).mono ?_); rintro e w8 ⟨rfl, b8⟩
             have S9 := Lib.hid (S8d.out.next b8)
             obtain ⟨b5, o5, e5, hp5⟩ := rd_elem (fun t : Tl => frC t.f t.pv t.lv) 16 (by omega) (fun _ => rfl) (Rd.of_own S9.out.own2) HL1.out HT1.out
             obtain ⟨b6, o6, e6, hp6⟩ := rd_elem (fun t : Tl => frC t.f t.pv t.lv) 16 (by omega) (fun _ => rfl) (Rd.of_own S9.out.own5) HL2.out HT2.out
             cases e5
             cases e6
             have HK1 : Hid (∀ (k : Nat) (u : Value), (frC f (.slice Af f.pay.length cf) (.slice Bf f.list.length df))[k]? = some u → w8.cell? ⟨b1, o1 + i * 16 + k, none⟩ = some u) := hp5
             have HK2 : Hid (∀ (k : Nat) (u : Value), (frC f (.slice Ag f.pay.length cg) (.slice Bg f.list.length dg))[k]? = some u → w8.cell? ⟨b2, o2 + i * 16 + k, none⟩ = some u) := hp6
             clear hp5 hp6
             clear b8))
        obtain ⟨b3, o3, rfl, hp3⟩ := rd_elem (fun t : Tl => [.bool t.x.is, .int .u32 (t.x.code : Int), .int .i64 t.x.stream]) 3 (by omega) (fun _ => rfl) (Rd.of_own S9.out.own3) HL1.out HT1.out
        obtain ⟨b4, o4, rfl, hp4⟩ := rd_elem (fun t : Tl => [.bool t.x.is, .int .u32 (t.x.code : Int), .int .i64 t.x.stream]) 3 (by omega) (fun _ => rfl) (Rd.of_own S9.out.own6) HL2.out HT2.out
        have x0 : w8.cell? ⟨b3, o3 + i * 3, none⟩ = some (.bool b) := hp3 0 _ rfl
        have y0 : w8.cell? ⟨b4, o4 + i * 3, none⟩ = some (.bool b) := hp4 0 _ rfl
        have x1 : w8.cell? ⟨b3, o3 + i * 3 + 1, none⟩ = some (.int .u32 (cd : Int)) := hp3 1 _ rfl
        have y1 : w8.cell? ⟨b4, o4 + i * 3 + 1, none⟩ = some (.int .u32 (cd : Int)) := hp4 1 _ rfl
        have x2 : w8.cell? ⟨b3, o3 + i * 3 + 2, none⟩ = some (.int .i64 zf) := hp3 2 _ rfl
        have y2 : w8.cell? ⟨b4, o4 + i * 3 + 2, none⟩ = some (.int .i64 zf) := hp4 2 _ rfl
        have neq := fun W => fl_neq b (cd : Int) zf W
        clear hp3 hp4
        obtain ⟨i1, hi1x⟩ : ∃ x, i + 1 = x := ⟨_, rfl⟩
        have wi : IntKind.i64.wrap ((i : Int) + 1) = (i1 : Int) := by have := HI.out; have := HQ1.out; rw [IntKind.wrap_i64]; omega
        have HI1 := Lib.hid hi1x
        clear hi1x
        go_wp2
        go_quiet (fail)
        go_wp2
        go_roundg g1
        case measure => omega
        case rel =>
          have hi := HI.out
          have hq := HI1.out
          exact ⟨i1, by omega, rfl, S9.out.drewN _⟩
end Go.Proofs.YtokbdkbljgdcpaaDoor
