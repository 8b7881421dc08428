/- Several texts in one: LwQ, LwR0, FrmV, LwT. -/
import Derived.Test.YtokbdkbljgdcpaaDoorYPB
import Derived.Test.YtokbdkbljgdcpaaDoorYPA
import Derived.Laws.StructEq
import Derived.Deep.RegionHeld
/- told among other things; pieces and a row of one slice as what told reads; frames and faults at a place of what was told. -/
namespace Go.Proofs.YtokbdkbljgdcpaaDoor
open Go.RowKit Go.Own Go.Frm
set_option linter.unusedVariables false
set_option maxRecDepth 100000
def ToldS (w0 w : World) (p m : Nat) (Z : List (Fm × Flt)) (st : Pst) (L : List Ob) (e : Ending) (w' : World) : Prop :=
  ∃ A1 c1 A2 c2 q l, e = .returned (.tuple #[.slice A1 q c1, .slice A2 q c2, .bool true]) ∧ l.length = q ∧ q ≤ 300000 ∧ tls l = Z ∧ St (fun _ => False) w0 w' (PFo p m st :: (L ++ [SLo w.heap.size 27 16 (.slice A1 q c1) q (fcells l), SLo w.heap.size 46 3 (.slice A2 q c2) q (xcells l), FrsO l]))
section
variable {w0 wa w : World} {L : List Ob} {p m : Nat}
theorem told_s {st : Pst} (s : St (fun _ => False) w0 wa (PFo p m st :: L)) (hb : Below wa.heap.size wa w) (hG : Gl w0) (D : Dry m st) {A : Option Addr} {n c : Nat} {bs : List (List UInt8)} (hbs : ∀ F : Nat → Prop, (∀ i, F i → w0.heap.size ≤ i ∧ i < wa.heap.size) → Pcs w F A n bs) (hnc : n ≤ c) (hn : n ≤ 1000000) (hT : st.held.length + bs.flatten.length ≤ 300000) :
    Calls Tryd.prog 26 #[.pointer (some ⟨p, 0, none⟩), .slice A n c] w fun e w' => ToldS w0 w p m (toldP m st bs).1 (toldP m st bs).2 L e w' := by
  obtain ⟨F, hF, hFr, hlo, hback⟩ := s.focus0
  have hf : Fr (fun _ => False) wa w := Fr.of_below hb (fun i h1 h2 => absurd h2 (by omega))
  have hF1 := hFr.fr wa w F _ hF hf (fun _ _ h => h)
  have hp := hG.pos
  have hlo' : ∀ i, F i → w0.heap.size ≤ i ∧ i < wa.heap.size := fun i hi => ⟨(hlo i hi).resolve_left (fun h => h), hFr.lt _ _ hF i hi⟩
  have hGw : Gl w := (hG.below s.below).below hb
  refine (told_c hF1 hGw (fun h => ?_) (fun h => ?_) D (hbs F hlo') hnc hn hT).mono ?_
  · have := hlo' _ h; omega
  · have := hlo' _ h; omega
  · rintro e w' ⟨A1, c1, A2, c2, q, l, rfl, h1, h2, h3, s'⟩
    exact ⟨A1, c1, A2, c2, q, l, rfl, h1, h2, h3, hback w' _ _ (s'.before hf)⟩
/-- one slice of octets -/
theorem pcs_one {w0 wa : World} (hsz : w0.heap.size ≤ wa.heap.size) {B : Option Addr} {nb cb : Nat} {ys : List UInt8} (hr : Rd wa 1 B nb (ys.map BV)) (hB : 0 < nb → ∀ a : Addr, B = some a → a.block < w0.heap.size) (hnb : nb ≤ cb) (hcb : cb ≤ 140737488355328) (F : Nat → Prop) (hF : ∀ i, F i → w0.heap.size ≤ i ∧ i < wa.heap.size) :
    Pcs (wa.alloc (.cells #[.slice B nb cb] 22)) F (some ⟨wa.heap.size, 0, none⟩) 1 [ys] := by
  refine ⟨rfl, fun i zs hi => ?_⟩
  have hi0 : i = 0 := by
    have := (List.getElem?_eq_some_iff.1 hi).1
    simp at this; exact this
  subst hi0
  simp at hi
  subst hi
  refine ⟨wa.heap.size, 0, B, nb, cb, rfl, fun h => ?_, ?_, fun hp a ha h => ?_, ?_, hnb, hcb⟩
  · have := (hF _ h).2; omega
  · exact (Blk.new wa 22 [.slice B nb cb]).cell 0
  · have := (hF _ h).1
    have := hB hp a ha
    omega
  · exact hr.below ((Below.refl _ _).alloc (Nat.le_refl _) _)
theorem mem_flat_len : ∀ (bs : List (List UInt8)) (zs : List UInt8), zs ∈ bs → zs.length ≤ bs.flatten.length
  | [], _, h => by cases h
  | b :: bs, zs, h => by
    rw [flat_len]
    rcases List.mem_cons.1 h with rfl | h
    · omega
    · have := mem_flat_len bs zs h; omega
/-- what pieces has cut -/
theorem pcs_cut {w0 wa w : World} {B : Option Addr} {nb : Nat} {ys : List UInt8} {A : Option Addr} {n c : Nat} {vs : List Value} {bs : List (List UInt8)} (hyl : ys.length = nb) (hb : Below wa.heap.size wa w) (hown : w.ownsRow wa.heap.size 22 1 (.slice A n c) n vs) (hfl : bs.flatten = ys) (hbl : bs.length = n) (hpc : PcOf wa B vs bs) (hB : 0 < nb → ∀ a : Addr, B = some a → a.block < w0.heap.size) (F : Nat → Prop) (hF : ∀ i, F i → w0.heap.size ≤ i ∧ i < wa.heap.size) :
    Pcs w F A n bs := by
  refine ⟨hbl, fun i zs hi => ?_⟩
  obtain ⟨Bi, ni, ci, hv, hr, h1, h2, h3⟩ := hpc.2 i zs hi
  have hil : i < n := by
    have := (List.getElem?_eq_some_iff.1 hi).1
    omega
  obtain ⟨b, o, u, hA, hu, hcell⟩ := (Rd.of_own hown).at_ hil
  rw [hv] at hu
  cases hu
  subst hA
  have hz : zs.length = ni := by simpa using hr.1
  have hle : zs.length ≤ ys.length := by
    rw [← hfl]
    exact mem_flat_len bs zs (List.mem_of_getElem? hi)
  have hgb := (hown.lt b (by rfl)).1
  refine ⟨b, o, Bi, ni, ci, rfl, fun h => ?_, hcell, fun hp a ha h => ?_, hr.below hb, h1, h2⟩
  · have := (hF _ h).2; omega
  · obtain ⟨a0, ha0, he⟩ := h3 a ha
    have := hB (by omega) a0 ha0
    have := (hF _ h).1
    omega
end
theorem flat_at {α : Type} (g : α → List Value) (K : Nat) (hg : ∀ t, (g t).length = K) : ∀ (l : List α) (i : Nat) (t : α) (k : Nat) (u : Value), l[i]? = some t → (g t)[k]? = some u → (l.flatMap g)[i * K + k]? = some u
  | [], i, t, k, u, h, _ => by simp at h
  | a :: l, 0, t, k, u, h, hk => by
    simp at h; subst h
    have hlt := (List.getElem?_eq_some_iff.1 hk).1
    rw [List.flatMap_cons, List.getElem?_append_left (by omega), Nat.zero_mul, Nat.zero_add]; exact hk
  | a :: l, i + 1, t, k, u, h, hk => by
    have ih := flat_at g K hg l i t k u (by simpa using h) hk
    rw [List.flatMap_cons, List.getElem?_append_right (by rw [hg, Nat.succ_mul]; omega), hg, Nat.succ_mul, show i * K + K + k - K = i * K + k by omega]
    exact ih
theorem flat_len' {α : Type} (g : α → List Value) (K : Nat) (hg : ∀ t, (g t).length = K) (l : List α) : (l.flatMap g).length = l.length * K := by
  induction l with
  | nil => simp
  | cons a l ih => rw [List.flatMap_cons, List.length_append, hg, ih, List.length_cons, Nat.succ_mul]; omega
/-- cells of an element of K cells -/
theorem rd_elem {α : Type} (g : α → List Value) (K : Nat) (hK : 0 < K) (hg : ∀ t, (g t).length = K) {W : World} {A : Option Addr} {q i : Nat} {l : List α} (h : Rd W K A q (l.flatMap g)) (hl : l.length = q) {t : α} (ht : l[i]? = some t) :
    ∃ b o, A = some ⟨b, o, none⟩ ∧ ∀ k u, (g t)[k]? = some u → W.cell? ⟨b, o + i * K + k, none⟩ = some u := by
  have hi := (List.getElem?_eq_some_iff.1 ht).1
  obtain ⟨b, o, hA, hc⟩ := h.2 (by omega)
  exact ⟨b, o, hA, fun k u hk => by rw [Nat.add_assoc]; exact hc _ u (flat_at g K hg l i t k u ht hk)⟩
theorem fl_neq (b : Bool) (c z : Int) (W : World) : (binOp .neq 46 (.agg #[.bool b, .int .u32 c, .int .i64 z]) (.agg #[.bool b, .int .u32 c, .int .i64 z])).run Tryd.prog W = .ok (.bool false) W := by
  rw [run_neq_struct, run_equalIn_agg _ _ _ _ _ (by kernel_rfl) (by kernel_rfl)]
  simp [Program.fieldsOf, Tryd.underlying46, Op.eqFields, go_sem]
end Go.Proofs.YtokbdkbljgdcpaaDoor

/- What the laws FramePieces, FrameAgain, FrameBack share. -/
namespace Go.Proofs.YtokbdkbljgdcpaaDoor
open Go.RowKit Go.Own Go.Frm
set_option linter.unusedVariables false
set_option maxRecDepth 100000
theorem ints_at {W : World} {A : Option Addr} {n c : Nat} (h : HoldsT Tryd.prog W 3 58 [.slice A n c]) : IntsAt W A n := by
  intro i hi
  obtain ⟨b, o, v, rfl, hc, hv⟩ := HoldsT.at_ (d := 2) Tryd.underlying58 (by kernel_rfl) h hi
  obtain ⟨z, rfl, hz⟩ := HoldsT.int (d := 1) Tryd.underlying3 hv
  obtain ⟨h1, h2⟩ := i64_of hz
  exact ⟨b, o, z, rfl, hc, h1, h2⟩
theorem IntsAt.below {W W' : World} {A : Option Addr} {n : Nat} (h : IntsAt W A n) (hb : Below W.heap.size W W') : IntsAt W' A n := by
  intro i hi
  obtain ⟨b, o, z, rfl, hc, rest⟩ := h i hi
  exact ⟨b, o, z, rfl, (hb.cell (World.block_lt_of_cell? _ _ hc)).trans hc, rest⟩
theorem tls_len (l : List Tl) : (tls l).length = l.length := by simp [tls]
theorem tls_at {l : List Tl} {i : Nat} {t : Tl} (h : l[i]? = some t) : (tls l)[i]? = some (t.f, t.x) := by simp [tls, h]
theorem frs_at {w0 w : World} {S : Nat → Prop} {L1 L2 : List Ob} {l : List Tl} {i : Nat} {t : Tl} (s : St S w0 w (L1 ++ FrsO l :: L2)) (h : l[i]? = some t) :
    ∃ A ca B cb, t.pv = .slice A t.f.pay.length ca ∧ t.lv = .slice B t.f.list.length cb ∧ Rd w 1 A t.f.pay.length (t.f.pay.map BV) ∧ Rd w 2 B t.f.list.length (scells t.f.list) ∧ t.f.list.length ≤ 9223372036854775807 := by
  obtain ⟨F, ⟨hF, _⟩, _⟩ := St.focus L1 (FrsO l) L2 s
  obtain ⟨A, c, B, d, h1, h2, h3, h4⟩ := hF t (List.mem_of_getElem? h)
  rw [h1] at h3
  rw [h2] at h4
  obtain ⟨A', c', e, k1, k2, _⟩ := own_shape h4
  exact ⟨A, c, B, d, h1, h2, Rd.of_own h3, Rd.of_own h4, by unfold maxLen at k2; omega⟩
theorem rd_lt' {W : World} {A : Option Addr} {n : Nat} {xs : List UInt8} (h : Rd W 1 A n (xs.map BV)) : 0 < n → ∀ a : Addr, A = some a → a.block < W.heap.size := fun hn => rd_lt h hn
end Go.Proofs.YtokbdkbljgdcpaaDoor

/- Frames: what is told, each by itself. Nothing of the program. -/
namespace Go.Frm
set_option linter.unusedVariables false
/-- each that is told: a frame that may be, or a fault without one; behind one of the connection nothing is told -/
theorem drain_at (m : Nat) : ∀ (n : Nat) (st : Pst), st.held.length < n → ∀ (i : Nat) (f : Fm) (x : Flt), (drain m st).1[i]? = some (f, x) →
    (x = noF ∧ mayB f = true ∧ okF f ∧ (body f).length ≤ m) ∨ (x.is = true ∧ f = zeroF ∧ x.code ≠ 0 ∧ (x.stream = 0 → i + 1 = (drain m st).1.length ∧ (drain m st).2.held = []))
  | 0, _, h => absurd h (by omega)
  | n + 1, st, h => by
    intro i f x hi
    cases hn : (nextP m st).1.ok with
    | false => rw [drain_no m st hn] at hi; simp at hi
    | true =>
      obtain ⟨_, h2, _⟩ := next_less m st hn
      rw [drain_yes m st hn] at hi ⊢
      cases i with
      | zero =>
        simp at hi
        obtain ⟨rfl, rfl⟩ := hi
        rcases next_may m st hn with ⟨a, b, c, d, _⟩ | ⟨a, b, c, d⟩
        · exact .inl ⟨a, b, c, d⟩
        · refine .inr ⟨a, b, c, fun h0 => ?_⟩
          have hd := d h0
          have e2 := drain_no m (nextP m st).2 (done_ok m _ (by rw [hd]))
          simp only [e2]
          exact ⟨rfl, by rw [hd]⟩
      | succ i =>
        simp only [List.getElem?_cons_succ] at hi
        rcases drain_at m n (nextP m st).2 (by omega) i f x hi with h | ⟨a, b, c, d⟩
        · exact .inl h
        · refine .inr ⟨a, b, c, fun h0 => ?_⟩
          obtain ⟨d1, d2⟩ := d h0
          refine ⟨?_, d2⟩
          simp only [List.length_cons]
          omega
theorem pay_le (f : Fm) : f.pay.length ≤ (body f).length ∧ f.list.length ≤ (body f).length := by
  rw [body_len, mustB_len]
  omega
theorem writeP_ok (f : Fm) (h : mayB f = true) (hb : (body f).length ≤ 16777215) : writeP f = (wr f, 0) := by
  unfold writeP
  rw [h, decide_eq_true hb]; rfl
end Go.Frm

/- The law FrameAgain. -/
namespace Go.Proofs.YtokbdkbljgdcpaaDoor
open Go.RowKit Go.Own Go.Frm
set_option linter.unusedVariables false
set_option maxRecDepth 100000
theorem same_z {w : World} {A B : Option Addr} {c d : Nat} : Calls Tryd.prog 16 #[.agg #[.int .i64 0, .int .i64 0, .bool false, .bool false, .bool false, .bool false, .slice A 0 c, .int .i64 0, .int .i64 0, .int .i64 0, .bool false, .int .i64 0, .int .u32 0, .slice B 0 d, .int .i64 0, .int .i64 0], .agg #[.int .i64 0, .int .i64 0, .bool false, .bool false, .bool false, .bool false, .slice none 0 0, .int .i64 0, .int .i64 0, .int .i64 0, .bool false, .int .i64 0, .int .u32 0, .slice none 0 0, .int .i64 0, .int .i64 0]] w fun e w' => e = .returned (.bool true) ∧ Below w.heap.size w w' :=
  same_c zeroF (Rd.nil _ _ _) (Rd.nil _ _ _) (Rd.nil _ _ _) (Rd.nil _ _ _) (by omega)
theorem write_n (f : Fm) {w : World} (hc : okF f) (hmay : mayB f = true) (hb : (body f).length ≤ 16384) {A B : Option Addr} {n m c d : Nat} (hG : Gl w) (hp : Rd w 1 A n (f.pay.map BV)) (hn : n ≤ 100000000) (hnc : n ≤ c) (hrd : Rd w 2 B m (scells f.list)) (hm : m ≤ 100000000) (N : Nat) (hN : (Go.Frm.wr f).length = N) :
    Calls Tryd.prog 14 #[.agg #[.int .i64 f.kind, .int .i64 f.stream, .bool f.fin, .bool f.eh, .bool f.ack, .bool f.prio, .slice A n c, .int .i64 f.flags, .int .i64 f.pad, .int .i64 f.depend, .bool f.excl, .int .i64 f.weight, .int .u32 (f.code : Int), .slice B m d, .int .i64 f.last, .int .i64 f.inc]] w fun e w' => ∃ A' c', e = .returned (.tuple #[.slice A' N c', .int .i64 0]) ∧ w'.ownsRow w.heap.size 5 1 (.slice A' N c') N ((Go.Frm.wr f).map BV) ∧ Below w.heap.size w w' := by
  have h := write_c f hc A B n c m d hG hp hn hnc hrd hm
  rw [writeP_ok f hmay (by omega)] at h
  refine h.mono ?_
  rintro e w' ⟨A', c', rfl, ho, hb⟩
  simp only at ho ⊢
  rw [hN] at ho ⊢
  exact ⟨A', c', rfl, ho, hb⟩
theorem frs_cap {w0 w : World} {S : Nat → Prop} {L1 L2 : List Ob} {l : List Tl} {i : Nat} {t : Tl} (s : St S w0 w (L1 ++ FrsO l :: L2)) (h : l[i]? = some t) {A : Option Addr} {n c : Nat} (hp : t.pv = .slice A n c) : n ≤ c ∧ c ≤ 9223372036854775807 := by
  obtain ⟨F, ⟨hF, _⟩, _⟩ := St.focus L1 (FrsO l) L2 s
  obtain ⟨A', c', B, d, h1, h2, h3, h4⟩ := hF t (List.mem_of_getElem? h)
  rw [hp] at h1
  cases h1
  obtain ⟨A2, c2, e, k1, k2, _⟩ := own_shape h3
  rw [hp] at e
  cases e
  exact ⟨k1, k2⟩
set_option maxHeartbeats 8000000 in
theorem lawAgain {w : World} {B : Option Addr} {nb cb : Nat} {ys : List UInt8} (hr : Rd w 1 B nb (ys.map BV)) (hnb : nb ≤ cb) (hcb : cb ≤ 140737488351232) (hG : Gl w) :
    Calls Tryd.prog 7 #[.slice B nb cb] w fun e w' => e = .returned (.bool true) ∧ Below w.heap.size w w' := by
  have hyl : ys.length = nb := by simpa using hr.1
  have HG := Lib.hid hG
  have HR := Lib.hid hr
  have HYL := Lib.hid hyl
  by_cases hbig : 30000 < nb
  · have k1 : (30000 : Int) < (nb : Int) := by omega
    clear hG hr hyl
    go_enter Tryd.func7, Tryd.ntmps7
    go_wp2_with (first
      | (go_at_call 12; (with_reducible refine (shown_c HG.out).mono ?_); rintro e w1 ⟨rfl, hb1⟩
         have HB1 := Lib.hid hb1
         clear hb1))
    go_ret
    exact ⟨rfl, HB1.out⟩
  · have k1 : ¬ (30000 : Int) < (nb : Int) := by omega
    have HN : Hid (nb ≤ 30000) := Nat.le_of_not_lt hbig
    obtain ⟨ZD, hZD⟩ : ∃ x, (Go.Frm.drain 16384 ⟨ys, false⟩).1 = x := ⟨_, rfl⟩
    obtain ⟨sD, hsD⟩ : ∃ x, (Go.Frm.drain 16384 ⟨ys, false⟩).2 = x := ⟨_, rfl⟩
    have hat := drain_at 16384 _ ⟨ys, false⟩ (Nat.lt_succ_self _)
    rw [hZD, hsD] at hat
    have HAT := Lib.hid hat
    have HZD := Lib.hid hZD
    have HSD := Lib.hid hsD
    clear hG hr hyl hbig hZD hsD hat
    go_enter Tryd.func7, Tryd.ntmps7
    go_upto_region 4 with (first
      | (go_at_call 12; (with_reducible refine (shown_c HG.out).mono ?_); rintro e w1 ⟨rfl, hb1⟩
         have HB1 := Lib.hid hb1
         have HG1 := Lib.hid (HG.out.below HB1.out)
         clear hb1))
    clear k1
    go_upto_region 11 with (first
      | (go_at_call 17; (with_reducible refine (new_c 0 (by omega)).mono ?_); rintro e w4 ⟨p, rfl, s4⟩
         have s4' : St (fun _ => False) w1 w4 [PFo p 16384 ⟨[], false⟩] := s4
         have S4 := Lib.hid s4'
         have R4 := Lib.hid (HR.out.below (HB1.out.trans (S4.out.below.mono HB1.out.size)))
         have hb4 : Hid (∀ F : Nat → Prop, (∀ i, F i → w1.heap.size ≤ i ∧ i < w4.heap.size) → Pcs (w4.alloc (.cells #[.slice B nb cb] 22)) F (some ⟨w4.heap.size, 0, none⟩) 1 [ys]) := pcs_one S4.out.size R4.out (fun hp a ha => Nat.lt_of_lt_of_le (rd_lt' HR.out hp a ha) HB1.out.size) hnb (by omega)
         have hal4 : Hid (Below w4.heap.size w4 (w4.alloc (.cells #[.slice B nb cb] 22))) := (Below.refl _ _).alloc (Nat.le_refl _) _
         have hT4 : Hid (((⟨[], false⟩ : Pst).held.length) + [ys].flatten.length ≤ 300000) := by have := HYL.out; have := HN.out; show ([] : List UInt8).length + [ys].flatten.length ≤ 300000; simp; omega
         clear s4 s4')
      | (go_at_call 26; (with_reducible refine (told_s S4.out hal4.out HG1.out (new_dry 16384) hb4.out (Nat.le_refl 1) (by omega) hT4.out).mono ?_); rintro e w5 ⟨A1, c1, A2, c2, q, l, rfl, hl1, hq1, hz1, s5⟩
         rw [told_pieces, List.flatten_singleton, HZD.out] at hz1
         rw [told_pieces, List.flatten_singleton, HSD.out] at s5
         obtain ⟨bb, hbb⟩ : ∃ x, (w4.alloc (.cells #[.slice B nb cb] 22)).heap.size = x := ⟨_, rfl⟩
         rw [hbb] at s5
         have s5' : St (fun _ => False) w1 w5 [PFo p 16384 sD, SLo bb 27 16 (.slice A1 q c1) q (fcells l), SLo bb 46 3 (.slice A2 q c2) q (xcells l), FrsO l] := s5
         have S5 := Lib.hid s5'
         have HL1 := Lib.hid hl1
         have HQ1 := Lib.hid hq1
         have HZ1 := Lib.hid hz1
         clear s5 s5' hl1 hz1 hbb hq1))
    go_loopg [8] q (fun gh t w' => ∃ i : Nat, gh + i = q ∧ t = .int .i64 (i : Int) ∧ St (fun _ => False) w1 w' [PFo p 16384 sD, SLo bb 27 16 (.slice A1 q c1) q (fcells l), SLo bb 46 3 (.slice A2 q c2) q (xcells l), FrsO l])
    case atStart => exact ⟨0, by omega, rfl, S5.out⟩
    case round =>
      clear S5
      obtain ⟨i, hi, rfl, s8⟩ := hrel
      have S8 := Lib.hid s8
      have HI := Lib.hid hi
      clear s8
      cases gk with
      | zero =>
        obtain rfl : i = q := by omega
        clear hi
        go_wp2
        go_ret
        exact ⟨rfl, HB1.out.trans (S8.out.below.mono HB1.out.size)⟩
      | succ g1 =>
        have k2 : (i : Int) < (q : Int) := by omega
        have hi1 : i < l.length := by rw [HL1.out]; omega
        obtain ⟨t1, ht1⟩ : ∃ t, l[i]? = some t := ⟨_, List.getElem?_eq_getElem hi1⟩
        have hway := HAT.out i t1.f t1.x (by have h1 := tls_at ht1; rw [HZ1.out] at h1; exact h1)
        have hZl : ZD.length = q := by rw [← HZ1.out, tls_len]; exact HL1.out
        rw [hZl] at hway
        obtain ⟨Af, cf, Bf, df, e1, e2, rp1, rl1, hb1⟩ := frs_at (L1 := [_, _, _]) S8.out ht1
        obtain ⟨hcap, hcap2⟩ := frs_cap (L1 := [_, _, _]) S8.out ht1 e1
        obtain ⟨b1, o1, rfl, hp1⟩ := rd_elem (fun t : Tl => frC t.f t.pv t.lv) 16 (by omega) (fun _ => rfl) (Rd.of_own S8.out.own1) HL1.out ht1
        obtain ⟨b3, o3, rfl, hp3⟩ := rd_elem (fun t : Tl => [.bool t.x.is, .int .u32 (t.x.code : Int), .int .i64 t.x.stream]) 3 (by omega) (fun _ => rfl) (Rd.of_own S8.out.own2) HL1.out ht1
        obtain ⟨i1, hi1x⟩ : ∃ x, i + 1 = x := ⟨_, rfl⟩
        have wi : IntKind.i64.wrap ((i : Int) + 1) = (i1 : Int) := by have := HI.out; have := HQ1.out; rw [IntKind.wrap_i64]; omega
        have HI1 := Lib.hid hi1x
        obtain ⟨f, pv, lv, ⟨b, cd, zf⟩⟩ := t1
        simp only at hway e1 e2 rp1 rl1 hb1 hcap
        have HT1 := Lib.hid ht1
        rcases hway with ⟨hx, hmay, hok, hbd⟩ | ⟨hb, hf, hcd, hend⟩
        · as_aux_lemma =>
            cases hx
            subst e1 e2
            obtain ⟨pl1, pl2⟩ := pay_le f
            obtain ⟨N, hN⟩ : ∃ x, (Go.Frm.wr f).length = x := ⟨_, rfl⟩
            have hNb : N = 9 + (body f).length := by rw [← hN, wr_len]
            have p0 : wr.cell? ⟨b1, o1 + i * 16, none⟩ = some (.int .i64 f.kind) := hp1 0 _ rfl
            have p1 : wr.cell? ⟨b1, o1 + i * 16 + 1, none⟩ = some (.int .i64 f.stream) := hp1 1 _ rfl
            have p2 : wr.cell? ⟨b1, o1 + i * 16 + 2, none⟩ = some (.bool f.fin) := hp1 2 _ rfl
            have p3 : wr.cell? ⟨b1, o1 + i * 16 + 3, none⟩ = some (.bool f.eh) := hp1 3 _ rfl
            have p4 : wr.cell? ⟨b1, o1 + i * 16 + 4, none⟩ = some (.bool f.ack) := hp1 4 _ rfl
            have p5 : wr.cell? ⟨b1, o1 + i * 16 + 5, none⟩ = some (.bool f.prio) := hp1 5 _ rfl
            have p6 : wr.cell? ⟨b1, o1 + i * 16 + 6, none⟩ = some (.slice Af f.pay.length cf) := hp1 6 _ rfl
            have p7 : wr.cell? ⟨b1, o1 + i * 16 + 7, none⟩ = some (.int .i64 f.flags) := hp1 7 _ rfl
            have p8 : wr.cell? ⟨b1, o1 + i * 16 + 8, none⟩ = some (.int .i64 f.pad) := hp1 8 _ rfl
            have p9 : wr.cell? ⟨b1, o1 + i * 16 + 9, none⟩ = some (.int .i64 f.depend) := hp1 9 _ rfl
            have p10 : wr.cell? ⟨b1, o1 + i * 16 + 10, none⟩ = some (.bool f.excl) := hp1 10 _ rfl
            have p11 : wr.cell? ⟨b1, o1 + i * 16 + 11, none⟩ = some (.int .i64 f.weight) := hp1 11 _ rfl
            have p12 : wr.cell? ⟨b1, o1 + i * 16 + 12, none⟩ = some (.int .u32 (f.code : Int)) := hp1 12 _ rfl
            have p13 : wr.cell? ⟨b1, o1 + i * 16 + 13, none⟩ = some (.slice Bf f.list.length df) := hp1 13 _ rfl
            have p14 : wr.cell? ⟨b1, o1 + i * 16 + 14, none⟩ = some (.int .i64 f.last) := hp1 14 _ rfl
            have p15 : wr.cell? ⟨b1, o1 + i * 16 + 15, none⟩ = some (.int .i64 f.inc) := hp1 15 _ rfl
            have x0 : wr.cell? ⟨b3, o3 + i * 3, none⟩ = some (.bool false) := hp3 0 _ rfl
            have HMAY := Lib.hid hmay
            have HOK := Lib.hid hok
            have HBD := Lib.hid hbd
            have RP1 := Lib.hid rp1
            have RL1 := Lib.hid rl1
            have HBB := Lib.hid hb1
            have HCAP := Lib.hid hcap
            have HNN := Lib.hid hN
            have HG8 := Lib.hid (HG1.out.below S8.out.below)
            have hp1n : Hid (f.pay.length ≤ 100000000) := by show f.pay.length ≤ 100000000; omega
            have hl1n : Hid (f.list.length ≤ 100000000) := by show f.list.length ≤ 100000000; omega
            have hN2 : N ≤ 16393 := by omega
            have kN : ¬ (16393 : Int) < (N : Int) := by omega
            have HFd : Hid (feedN 16384 ⟨[], false⟩ N = N) := by show min N (16384 + 9 - 0) = N; omega
            have HPd : Hid (feedP 16384 ⟨[], false⟩ (Go.Frm.wr f) = ⟨Go.Frm.wr f, false⟩) := by
              show feedP 16384 ⟨[], false⟩ (Go.Frm.wr f) = _
              unfold feedP
              rw [hN, HFd.out, List.take_of_length_le (by omega), List.nil_append]
            have HNX : Hid (nextP 16384 ⟨Go.Frm.wr f, false⟩ = (⟨f, ⟨false, 0, 0⟩, true⟩, ⟨[], false⟩)) := by
              have h := next_wr 16384 f [] hmay hok hbd (by omega)
              rw [List.append_nil] at h
              exact h
            have HP1 : Hid (∀ (k : Nat) (u : Value), (frC f (.slice Af f.pay.length cf) (.slice Bf f.list.length df))[k]? = some u → wr.cell? ⟨b1, o1 + i * 16 + k, none⟩ = some u) := hp1
            have hbl : b1 < wr.heap.size := World.block_lt_of_cell? _ _ p0
            clear hp1 hp3 rp1 rl1 hi1 hb1 hi ht1 hmay hok hbd hN hNb pl1 pl2 hcap hcap2 hi1x hZl
            go_upto_region 18 with (first
              | (go_at_call 14; (with_reducible refine (write_n f HOK.out HMAY.out HBD.out HG8.out RP1.out hp1n.out HCAP.out RL1.out hl1n.out N HNN.out).mono ?_); rintro e w9 ⟨Aw, cw, rfl, ow, bw⟩
                 have S9 := Lib.hid (S8.out.next bw)
                 have HG9 := Lib.hid (HG1.out.below S9.out.below)
                 have RW9 := Lib.hid (Rd.of_own ow)
                 obtain ⟨Aw', cw', ew, kw1, kw2, _⟩ := own_shape ow
                 have hcw : N ≤ cw := by cases ew; exact kw1
                 have hcw2 : cw ≤ 9223372036854775807 := by cases ew; exact kw2
                 have HBW := Lib.hid bw
                 clear ow bw ew kw1 kw2))
            go_upto_region 23 with (first
              | (go_at_call 17; (with_reducible refine (new_c 0 (by omega)).mono ?_); rintro e w10 ⟨p2, rfl, s10⟩
                 have s10' : St (fun _ => False) w9 w10 [PFo p2 16384 ⟨[], false⟩] := s10
                 have T10 := Lib.hid s10'
                 have R10 := Lib.hid (RW9.out.below s10'.below)
                 clear s10 s10')
              | (go_at_call 23; (with_reducible refine (feed_S T10.out R10.out hcw hcw2 N HFd.out _ HPd.out).mono ?_); rintro e w11 ⟨rfl, s11⟩
                 have T11 := Lib.hid s11
                 clear s11)
              | (go_at_call 21; (with_reducible refine (next_T T11.out HG9.out (fun h => h) (fun h => h) HNX.out).mono ?_); rintro e w12 ⟨Ag, cg, Bg, dg, rfl, s12⟩
                 have S12 := Lib.hid s12
                 clear s12))
            have s12' : St (fun _ => False) w9 w12 [PFo p2 16384 ⟨[], false⟩, FrsO [⟨f, .slice Ag f.pay.length cg, .slice Bg f.list.length dg, ⟨false, 0, 0⟩⟩]] := S12.out
            obtain ⟨Ag', cg', Bg', dg', eg1, eg2, rq1, rq2, _⟩ := frs_at (L1 := [_]) (i := 0) s12' rfl
            cases eg1
            cases eg2
            have s13 : St (fun _ => False) w9 ((w12.alloc (.cells #[.int .i64 f.kind, .int .i64 f.stream, .bool f.fin, .bool f.eh, .bool f.ack, .bool f.prio, .slice Ag f.pay.length cg, .int .i64 f.flags, .int .i64 f.pad, .int .i64 f.depend, .bool f.excl, .int .i64 f.weight, .int .u32 (f.code : Int), .slice Bg f.list.length dg, .int .i64 f.last, .int .i64 f.inc] 27)).alloc (.cells #[.bool false, .int .u32 0, .int .i64 0] 46)).drew [PFo p2 16384 ⟨[], false⟩, FrsO [⟨f, .slice Ag f.pay.length cg, .slice Bg f.list.length dg, ⟨false, 0, 0⟩⟩]] := ((s12'.alloc _).alloc _).drewN 1
            have hb12 : Below w12.heap.size w12 ((w12.alloc (.cells #[.int .i64 f.kind, .int .i64 f.stream, .bool f.fin, .bool f.eh, .bool f.ack, .bool f.prio, .slice Ag f.pay.length cg, .int .i64 f.flags, .int .i64 f.pad, .int .i64 f.depend, .bool f.excl, .int .i64 f.weight, .int .u32 (f.code : Int), .slice Bg f.list.length dg, .int .i64 f.last, .int .i64 f.inc] 27)).alloc (.cells #[.bool false, .int .u32 0, .int .i64 0] 46)).drew := below_drewN (((Below.refl _ _).alloc (Nat.le_refl _) _).alloc (by simp) _) 1
            have B13 : Hid (Below wr.heap.size wr ((w12.alloc (.cells #[.int .i64 f.kind, .int .i64 f.stream, .bool f.fin, .bool f.eh, .bool f.ack, .bool f.prio, .slice Ag f.pay.length cg, .int .i64 f.flags, .int .i64 f.pad, .int .i64 f.depend, .bool f.excl, .int .i64 f.weight, .int .u32 (f.code : Int), .slice Bg f.list.length dg, .int .i64 f.last, .int .i64 f.inc] 27)).alloc (.cells #[.bool false, .int .u32 0, .int .i64 0] 46)).drew) := HBW.out.trans (s13.below.mono HBW.out.size)
            have T13 := Lib.hid s13
            have S13 := Lib.hid (S9.out.next s13.below)
            have RQ1 := Lib.hid (rq1.below hb12)
            have RQ2 := Lib.hid (rq2.below hb12)
            have RP3 := Lib.hid (RP1.out.below B13.out)
            have RL3 := Lib.hid (RL1.out.below B13.out)
            have HX1 : Hid (∀ (k : Nat) (u : Value), (frC f (.slice Ag f.pay.length cg) (.slice Bg f.list.length dg))[k]? = some u → ((w12.alloc (.cells #[.int .i64 f.kind, .int .i64 f.stream, .bool f.fin, .bool f.eh, .bool f.ack, .bool f.prio, .slice Ag f.pay.length cg, .int .i64 f.flags, .int .i64 f.pad, .int .i64 f.depend, .bool f.excl, .int .i64 f.weight, .int .u32 (f.code : Int), .slice Bg f.list.length dg, .int .i64 f.last, .int .i64 f.inc] 27)).alloc (.cells #[.bool false, .int .u32 0, .int .i64 0] 46)).drew.cell? ⟨w12.heap.size, k, none⟩ = some u) := fun k u h => (((Blk.new w12 27 (frC f (.slice Ag f.pay.length cg) (.slice Bg f.list.length dg))).alloc _).cell k).trans h
            have HX2 : Hid (∀ (k : Nat) (u : Value), (frC f (.slice Af f.pay.length cf) (.slice Bf f.list.length df))[k]? = some u → ((w12.alloc (.cells #[.int .i64 f.kind, .int .i64 f.stream, .bool f.fin, .bool f.eh, .bool f.ack, .bool f.prio, .slice Ag f.pay.length cg, .int .i64 f.flags, .int .i64 f.pad, .int .i64 f.depend, .bool f.excl, .int .i64 f.weight, .int .u32 (f.code : Int), .slice Bg f.list.length dg, .int .i64 f.last, .int .i64 f.inc] 27)).alloc (.cells #[.bool false, .int .u32 0, .int .i64 0] 46)).drew.cell? ⟨b1, o1 + i * 16 + k, none⟩ = some u) := fun k u h => (B13.out.cell (p := ⟨b1, o1 + i * 16 + k, none⟩) hbl).trans (HP1.out k u h)
            have HX3 : Hid (((w12.alloc (.cells #[.int .i64 f.kind, .int .i64 f.stream, .bool f.fin, .bool f.eh, .bool f.ack, .bool f.prio, .slice Ag f.pay.length cg, .int .i64 f.flags, .int .i64 f.pad, .int .i64 f.depend, .bool f.excl, .int .i64 f.weight, .int .u32 (f.code : Int), .slice Bg f.list.length dg, .int .i64 f.last, .int .i64 f.inc] 27)).alloc (.cells #[.bool false, .int .u32 0, .int .i64 0] 46)).drew.cell? ⟨w12.heap.size + 1, 0, none⟩ = some (.bool false)) := by
              have h : Blk ((w12.alloc (.cells #[.int .i64 f.kind, .int .i64 f.stream, .bool f.fin, .bool f.eh, .bool f.ack, .bool f.prio, .slice Ag f.pay.length cg, .int .i64 f.flags, .int .i64 f.pad, .int .i64 f.depend, .bool f.excl, .int .i64 f.weight, .int .u32 (f.code : Int), .slice Bg f.list.length dg, .int .i64 f.last, .int .i64 f.inc] 27)).alloc (.cells #[.bool false, .int .u32 0, .int .i64 0] 46)) (w12.alloc (.cells #[.int .i64 f.kind, .int .i64 f.stream, .bool f.fin, .bool f.eh, .bool f.ack, .bool f.prio, .slice Ag f.pay.length cg, .int .i64 f.flags, .int .i64 f.pad, .int .i64 f.depend, .bool f.excl, .int .i64 f.weight, .int .u32 (f.code : Int), .slice Bg f.list.length dg, .int .i64 f.last, .int .i64 f.inc] 27)).heap.size 46 [.bool false, .int .u32 0, .int .i64 0] := Blk.new _ _ _
              have e : (w12.alloc (.cells #[.int .i64 f.kind, .int .i64 f.stream, .bool f.fin, .bool f.eh, .bool f.ack, .bool f.prio, .slice Ag f.pay.length cg, .int .i64 f.flags, .int .i64 f.pad, .int .i64 f.depend, .bool f.excl, .int .i64 f.weight, .int .u32 (f.code : Int), .slice Bg f.list.length dg, .int .i64 f.last, .int .i64 f.inc] 27)).heap.size = w12.heap.size + 1 := by simp
              rw [e] at h
              exact h.cell 0
            have hlt : Hid (w12.heap.size + 1 < ((w12.alloc (.cells #[.int .i64 f.kind, .int .i64 f.stream, .bool f.fin, .bool f.eh, .bool f.ack, .bool f.prio, .slice Ag f.pay.length cg, .int .i64 f.flags, .int .i64 f.pad, .int .i64 f.depend, .bool f.excl, .int .i64 f.weight, .int .u32 (f.code : Int), .slice Bg f.list.length dg, .int .i64 f.last, .int .i64 f.inc] 27)).alloc (.cells #[.bool false, .int .u32 0, .int .i64 0] 46)).drew.heap.size) := World.block_lt_of_cell? _ _ HX3.out
            clear s12' s13 hb12 rq1 rq2
            go_region_held (fun w' => w'.cell? ⟨w12.heap.size, 0, none⟩ = some (.int .i64 f.kind) ∧ w'.cell? ⟨w12.heap.size, 1, none⟩ = some (.int .i64 f.stream) ∧ w'.cell? ⟨w12.heap.size, 2, none⟩ = some (.bool f.fin) ∧ w'.cell? ⟨w12.heap.size, 3, none⟩ = some (.bool f.eh) ∧ w'.cell? ⟨w12.heap.size, 4, none⟩ = some (.bool f.ack) ∧ w'.cell? ⟨w12.heap.size, 5, none⟩ = some (.bool f.prio) ∧ w'.cell? ⟨w12.heap.size, 6, none⟩ = some (.slice Ag f.pay.length cg) ∧ w'.cell? ⟨w12.heap.size, 7, none⟩ = some (.int .i64 f.flags) ∧ w'.cell? ⟨w12.heap.size, 8, none⟩ = some (.int .i64 f.pad) ∧ w'.cell? ⟨w12.heap.size, 9, none⟩ = some (.int .i64 f.depend) ∧ w'.cell? ⟨w12.heap.size, 10, none⟩ = some (.bool f.excl) ∧ w'.cell? ⟨w12.heap.size, 11, none⟩ = some (.int .i64 f.weight) ∧ w'.cell? ⟨w12.heap.size, 12, none⟩ = some (.int .u32 (f.code : Int)) ∧ w'.cell? ⟨w12.heap.size, 13, none⟩ = some (.slice Bg f.list.length dg) ∧ w'.cell? ⟨w12.heap.size, 14, none⟩ = some (.int .i64 f.last) ∧ w'.cell? ⟨w12.heap.size, 15, none⟩ = some (.int .i64 f.inc) ∧ w'.cell? ⟨b1, o1 + i * 16, none⟩ = some (.int .i64 f.kind) ∧ w'.cell? ⟨b1, o1 + i * 16 + 1, none⟩ = some (.int .i64 f.stream) ∧ w'.cell? ⟨b1, o1 + i * 16 + 2, none⟩ = some (.bool f.fin) ∧ w'.cell? ⟨b1, o1 + i * 16 + 3, none⟩ = some (.bool f.eh) ∧ w'.cell? ⟨b1, o1 + i * 16 + 4, none⟩ = some (.bool f.ack) ∧ w'.cell? ⟨b1, o1 + i * 16 + 5, none⟩ = some (.bool f.prio) ∧ w'.cell? ⟨b1, o1 + i * 16 + 6, none⟩ = some (.slice Af f.pay.length cf) ∧ w'.cell? ⟨b1, o1 + i * 16 + 7, none⟩ = some (.int .i64 f.flags) ∧ w'.cell? ⟨b1, o1 + i * 16 + 8, none⟩ = some (.int .i64 f.pad) ∧ w'.cell? ⟨b1, o1 + i * 16 + 9, none⟩ = some (.int .i64 f.depend) ∧ w'.cell? ⟨b1, o1 + i * 16 + 10, none⟩ = some (.bool f.excl) ∧ w'.cell? ⟨b1, o1 + i * 16 + 11, none⟩ = some (.int .i64 f.weight) ∧ w'.cell? ⟨b1, o1 + i * 16 + 12, none⟩ = some (.int .u32 (f.code : Int)) ∧ w'.cell? ⟨b1, o1 + i * 16 + 13, none⟩ = some (.slice Bf f.list.length df) ∧ w'.cell? ⟨b1, o1 + i * 16 + 14, none⟩ = some (.int .i64 f.last) ∧ w'.cell? ⟨b1, o1 + i * 16 + 15, none⟩ = some (.int .i64 f.inc))
              (first | exact ⟨HX1.out 0 _ rfl, HX1.out 1 _ rfl, HX1.out 2 _ rfl, HX1.out 3 _ rfl, HX1.out 4 _ rfl, HX1.out 5 _ rfl, HX1.out 6 _ rfl, HX1.out 7 _ rfl, HX1.out 8 _ rfl, HX1.out 9 _ rfl, HX1.out 10 _ rfl, HX1.out 11 _ rfl, HX1.out 12 _ rfl, HX1.out 13 _ rfl, HX1.out 14 _ rfl, HX1.out 15 _ rfl, HX2.out 0 _ rfl, HX2.out 1 _ rfl, HX2.out 2 _ rfl, HX2.out 3 _ rfl, HX2.out 4 _ rfl, HX2.out 5 _ rfl, HX2.out 6 _ rfl, HX2.out 7 _ rfl, HX2.out 8 _ rfl, HX2.out 9 _ rfl, HX2.out 10 _ rfl, HX2.out 11 _ rfl, HX2.out 12 _ rfl, HX2.out 13 _ rfl, HX2.out 14 _ rfl, HX2.out 15 _ rfl⟩ | exact ⟨HY1.out 0 _ rfl, HY1.out 1 _ rfl, HY1.out 2 _ rfl, HY1.out 3 _ rfl, HY1.out 4 _ rfl, HY1.out 5 _ rfl, HY1.out 6 _ rfl, HY1.out 7 _ rfl, HY1.out 8 _ rfl, HY1.out 9 _ rfl, HY1.out 10 _ rfl, HY1.out 11 _ rfl, HY1.out 12 _ rfl, HY1.out 13 _ rfl, HY1.out 14 _ rfl, HY1.out 15 _ rfl, HY2.out 0 _ rfl, HY2.out 1 _ rfl, HY2.out 2 _ rfl, HY2.out 3 _ rfl, HY2.out 4 _ rfl, HY2.out 5 _ rfl, HY2.out 6 _ rfl, HY2.out 7 _ rfl, HY2.out 8 _ rfl, HY2.out 9 _ rfl, HY2.out 10 _ rfl, HY2.out 11 _ rfl, HY2.out 12 _ rfl, HY2.out 13 _ rfl, HY2.out 14 _ rfl, HY2.out 15 _ rfl⟩)
              (first
              | (go_at_call 16; (with_reducible refine (same_c f RQ1.out RQ2.out RP3.out RL3.out HBB.out).mono ?_); rintro e w14 ⟨rfl, b14⟩
                 have S14 := Lib.hid (S13.out.next b14)
                 have T14 := Lib.hid (T13.out.next b14)
                 have HY1 : Hid (∀ (k : Nat) (u : Value), (frC f (.slice Ag f.pay.length cg) (.slice Bg f.list.length dg))[k]? = some u → w14.cell? ⟨w12.heap.size, k, none⟩ = some u) := fun k u h => (b14.cell (p := ⟨w12.heap.size, k, none⟩) (Nat.lt_trans (Nat.lt_succ_self _) hlt.out)).trans (HX1.out k u h)
                 have HY2 : Hid (∀ (k : Nat) (u : Value), (frC f (.slice Af f.pay.length cf) (.slice Bf f.list.length df))[k]? = some u → w14.cell? ⟨b1, o1 + i * 16 + k, none⟩ = some u) := fun k u h => (b14.cell (p := ⟨b1, o1 + i * 16 + k, none⟩) (Nat.lt_of_lt_of_le hbl B13.out.size)).trans (HX2.out k u h)
                 have xf : w14.cell? ⟨w12.heap.size + 1, 0, none⟩ = some (.bool false) := (b14.cell (p := ⟨w12.heap.size + 1, 0, none⟩) hlt.out).trans HX3.out
                 clear b14))
            go_wp2_with (first
              | (go_at_call 25; (with_reducible refine (size_n T14.out 0 rfl).mono ?_); rintro e w15 ⟨rfl, rfl⟩))
            go_roundg g1
            case measure => omega
            case rel =>
              have h1 := HI.out
              have h2 := HI1.out
              exact ⟨i1, by omega, rfl, S14.out⟩
        · as_aux_lemma =>
            subst hb
            subst hf
            have e1' : pv = .slice Af 0 cf := e1
            have e2' : lv = .slice Bf 0 df := e2
            clear e1 e2
            subst e1' e2'
            have p0 : wr.cell? ⟨b1, o1 + i * 16, none⟩ = some (.int .i64 0) := hp1 0 _ rfl
            have p1 : wr.cell? ⟨b1, o1 + i * 16 + 1, none⟩ = some (.int .i64 0) := hp1 1 _ rfl
            have p2 : wr.cell? ⟨b1, o1 + i * 16 + 2, none⟩ = some (.bool false) := hp1 2 _ rfl
            have p3 : wr.cell? ⟨b1, o1 + i * 16 + 3, none⟩ = some (.bool false) := hp1 3 _ rfl
            have p4 : wr.cell? ⟨b1, o1 + i * 16 + 4, none⟩ = some (.bool false) := hp1 4 _ rfl
            have p5 : wr.cell? ⟨b1, o1 + i * 16 + 5, none⟩ = some (.bool false) := hp1 5 _ rfl
            have p6 : wr.cell? ⟨b1, o1 + i * 16 + 6, none⟩ = some (.slice Af 0 cf) := hp1 6 _ rfl
            have p7 : wr.cell? ⟨b1, o1 + i * 16 + 7, none⟩ = some (.int .i64 0) := hp1 7 _ rfl
            have p8 : wr.cell? ⟨b1, o1 + i * 16 + 8, none⟩ = some (.int .i64 0) := hp1 8 _ rfl
            have p9 : wr.cell? ⟨b1, o1 + i * 16 + 9, none⟩ = some (.int .i64 0) := hp1 9 _ rfl
            have p10 : wr.cell? ⟨b1, o1 + i * 16 + 10, none⟩ = some (.bool false) := hp1 10 _ rfl
            have p11 : wr.cell? ⟨b1, o1 + i * 16 + 11, none⟩ = some (.int .i64 0) := hp1 11 _ rfl
            have p12 : wr.cell? ⟨b1, o1 + i * 16 + 12, none⟩ = some (.int .u32 0) := hp1 12 _ rfl
            have p13 : wr.cell? ⟨b1, o1 + i * 16 + 13, none⟩ = some (.slice Bf 0 df) := hp1 13 _ rfl
            have p14 : wr.cell? ⟨b1, o1 + i * 16 + 14, none⟩ = some (.int .i64 0) := hp1 14 _ rfl
            have p15 : wr.cell? ⟨b1, o1 + i * 16 + 15, none⟩ = some (.int .i64 0) := hp1 15 _ rfl
            have x0 : wr.cell? ⟨b3, o3 + i * 3, none⟩ = some (.bool true) := hp3 0 _ rfl
            have X1 : Hid (wr.cell? ⟨b3, o3 + i * 3 + 1, none⟩ = some (.int .u32 (cd : Int))) := hp3 1 _ rfl
            have X2 : Hid (wr.cell? ⟨b3, o3 + i * 3 + 2, none⟩ = some (.int .i64 zf)) := hp3 2 _ rfl
            have hbl := World.block_lt_of_cell? _ _ x0
            have ecd : ((cd : Int) == 0) = false := by simp; omega
            have HEND := Lib.hid hend
            have hq300 := HQ1.out
            have wq : IntKind.i64.wrap ((q : Int) - 1) = ((q - 1 : Nat) : Int) := by rw [IntKind.wrap_i64]; omega
            have HWQ := Lib.hid wq
            clear hp1 hp3 rp1 rl1 hi1 hb1 hi ht1 hcap hcap2 hi1x hZl hend hcd wq hq300
            go_upto_region 15 with (first
              | (go_at_call 16; (with_reducible refine same_z.mono ?_); rintro e w9 ⟨rfl, b9⟩
                 have S9 := Lib.hid (S8.out.next b9)
                 have x1 := (b9.cell (p := ⟨b3, o3 + i * 3 + 1, none⟩) hbl).trans X1.out
                 have x2 := (b9.cell (p := ⟨b3, o3 + i * 3 + 2, none⟩) hbl).trans X2.out
                 clear b9))
            by_cases hz : zf = 0
            · subst hz
              obtain ⟨hq1', hh⟩ := HEND.out rfl
              have hqi : q - 1 = i := by omega
              have wq := HWQ.out
              rw [hqi] at wq
              have HH : Hid (sD.held.length = 0) := by show sD.held.length = 0; rw [hh]; rfl
              clear hqi hq1' hh
              go_wp2_with (first
                | (go_at_call 25; (with_reducible refine (size_n S9.out 0 HH.out).mono ?_); rintro e w15 ⟨rfl, rfl⟩))
              go_roundg g1
              case measure => omega
              case rel =>
                have h1 := HI.out
                have h2 := HI1.out
                exact ⟨i1, by omega, rfl, S9.out⟩
            · have ez : (zf == 0) = false := by simpa using hz
              clear hz
              go_wp2
              go_roundg g1
              case measure => omega
              case rel =>
                have h1 := HI.out
                have h2 := HI1.out
                exact ⟨i1, by omega, rfl, S9.out⟩
end Go.Proofs.YtokbdkbljgdcpaaDoor
