/- Several texts in one: LwQ, LwR0, LwU, LwV, LwW. -/
import Derived.Test.YtokbdkbljgdcpaaDoorYBB
import Derived.Test.YtokbdkbljgdcpaaDoorYBA
import Derived.Laws.StructEq
import Derived.Deep.RegionHeld
import Derived.Test.YtokbdkbljgdcpaaDoorY2
import Derived.Test.YtokbdkbljgdcpaaDoorY11
import Derived.Deep.DeepCutAuto
/- told among other things; pieces and a row of one slice as what told reads; frames and faults at a place of what was told. -/
namespace Go.Proofs.YtokbdkbljgdcpaaDoor
open Go.RowKit Go.Own Go.Frm
set_option linter.unusedVariables false
set_option maxRecDepth 100000
def ToldS (w0 w : World) (p m : Nat) (Z : List (Fm × Flt)) (st : Pst) (L : List Ob) (e : Ending) (w' : World) : Prop :=
  ∃ A1 c1 A2 c2 q l, e = .returned (.tuple #[.slice A1 q c1, .slice A2 q c2, .bool true]) ∧ l.length = q ∧ q ≤ 300000 ∧ tls l = Z ∧ St (fun _ => False) w0 w' (PFo p m st :: (L ++ [SLo w.heap.size 27 16 (.slice A1 q c1) q (fcells l), SLo w.heap.size 46 3 (.slice A2 q c2) q (xcells l), FrsO l]))
section
variable {w0 wa w : World} {L : List Ob} {p m : Nat}
theorem told_s {st : Pst} (s : St (fun _ => False) w0 wa (PFo p m st :: L)) (hb : Below wa.heap.size wa w) (hG : Gl w0) (D : Dry m st) {A : Option Addr} {n c : Nat} {bs : List (List UInt8)} (hbs : ∀ F : Nat → Prop, (∀ i, F i → w0.heap.size ≤ i ∧ i < wa.heap.size) → Pcs w F A n bs) (hnc : n ≤ c) (hn : n ≤ 1000000) (hT : st.held.length + bs.flatten.length ≤ 300000) :
    Calls Tryd.prog 26 #[.pointer (some ⟨p, 0, none⟩), .slice A n c] w fun e w' => ToldS w0 w p m (toldP m st bs).1 (toldP m st bs).2 L e w' := by
  obtain ⟨F, hF, hFr, hlo, hback⟩ := s.focus0
  have hf : Fr (fun _ => False) wa w := Fr.of_below hb (fun i h1 h2 => absurd h2 (by omega))
  have hF1 := hFr.fr wa w F _ hF hf (fun _ _ h => h)
  have hp := hG.pos
  have hlo' : ∀ i, F i → w0.heap.size ≤ i ∧ i < wa.heap.size := fun i hi => ⟨(hlo i hi).resolve_left (fun h => h), hFr.lt _ _ hF i hi⟩
  have hGw : Gl w := (hG.below s.below).below hb
  refine (told_c hF1 hGw (fun h => ?_) (fun h => ?_) D (hbs F hlo') hnc hn hT).mono ?_
  · have := hlo' _ h; omega
  · have := hlo' _ h; omega
  · rintro e w' ⟨A1, c1, A2, c2, q, l, rfl, h1, h2, h3, s'⟩
    exact ⟨A1, c1, A2, c2, q, l, rfl, h1, h2, h3, hback w' _ _ (s'.before hf)⟩
/-- one slice of octets -/
theorem pcs_one {w0 wa : World} (hsz : w0.heap.size ≤ wa.heap.size) {B : Option Addr} {nb cb : Nat} {ys : List UInt8} (hr : Rd wa 1 B nb (ys.map BV)) (hB : 0 < nb → ∀ a : Addr, B = some a → a.block < w0.heap.size) (hnb : nb ≤ cb) (hcb : cb ≤ 9223372036854775807) (F : Nat → Prop) (hF : ∀ i, F i → w0.heap.size ≤ i ∧ i < wa.heap.size) :
    Pcs (wa.alloc (.cells #[.slice B nb cb] 22)) F (some ⟨wa.heap.size, 0, none⟩) 1 [ys] := by
  refine ⟨rfl, fun i zs hi => ?_⟩
  have hi0 : i = 0 := by
    have := (List.getElem?_eq_some_iff.1 hi).1
    simp at this; exact this
  subst hi0
  simp at hi
  subst hi
  refine ⟨wa.heap.size, 0, B, nb, cb, rfl, fun h => ?_, ?_, fun hp a ha h => ?_, ?_, hnb, hcb⟩
  · have := (hF _ h).2; omega
  · exact (Blk.new wa 22 [.slice B nb cb]).cell 0
  · have := (hF _ h).1
    have := hB hp a ha
    omega
  · exact hr.below ((Below.refl _ _).alloc (Nat.le_refl _) _)
theorem mem_flat_len : ∀ (bs : List (List UInt8)) (zs : List UInt8), zs ∈ bs → zs.length ≤ bs.flatten.length
  | [], _, h => by cases h
  | b :: bs, zs, h => by
    rw [flat_len]
    rcases List.mem_cons.1 h with rfl | h
    · omega
    · have := mem_flat_len bs zs h; omega
/-- what pieces has cut -/
theorem pcs_cut {w0 wa w : World} {B : Option Addr} {nb : Nat} {ys : List UInt8} {A : Option Addr} {n c : Nat} {vs : List Value} {bs : List (List UInt8)} (hyl : ys.length = nb) (hb : Below wa.heap.size wa w) (hown : w.ownsRow wa.heap.size 22 1 (.slice A n c) n vs) (hfl : bs.flatten = ys) (hbl : bs.length = n) (hpc : PcOf wa B vs bs) (hB : 0 < nb → ∀ a : Addr, B = some a → a.block < w0.heap.size) (F : Nat → Prop) (hF : ∀ i, F i → w0.heap.size ≤ i ∧ i < wa.heap.size) :
    Pcs w F A n bs := by
  refine ⟨hbl, fun i zs hi => ?_⟩
  obtain ⟨Bi, ni, ci, hv, hr, h1, h2, h3⟩ := hpc.2 i zs hi
  have hil : i < n := by
    have := (List.getElem?_eq_some_iff.1 hi).1
    omega
  obtain ⟨b, o, u, hA, hu, hcell⟩ := (Rd.of_own hown).at_ hil
  rw [hv] at hu
  cases hu
  subst hA
  have hz : zs.length = ni := by simpa using hr.1
  have hle : zs.length ≤ ys.length := by
    rw [← hfl]
    exact mem_flat_len bs zs (List.mem_of_getElem? hi)
  have hgb := (hown.lt b (by rfl)).1
  refine ⟨b, o, Bi, ni, ci, rfl, fun h => ?_, hcell, fun hp a ha h => ?_, hr.below hb, h1, h2⟩
  · have := (hF _ h).2; omega
  · obtain ⟨a0, ha0, he⟩ := h3 a ha
    have := hB (by omega) a0 ha0
    have := (hF _ h).1
    omega
end
theorem flat_at {α : Type} (g : α → List Value) (K : Nat) (hg : ∀ t, (g t).length = K) : ∀ (l : List α) (i : Nat) (t : α) (k : Nat) (u : Value), l[i]? = some t → (g t)[k]? = some u → (l.flatMap g)[i * K + k]? = some u
  | [], i, t, k, u, h, _ => by simp at h
  | a :: l, 0, t, k, u, h, hk => by
    simp at h; subst h
    have hlt := (List.getElem?_eq_some_iff.1 hk).1
    rw [List.flatMap_cons, List.getElem?_append_left (by omega), Nat.zero_mul, Nat.zero_add]; exact hk
  | a :: l, i + 1, t, k, u, h, hk => by
    have ih := flat_at g K hg l i t k u (by simpa using h) hk
    rw [List.flatMap_cons, List.getElem?_append_right (by rw [hg, Nat.succ_mul]; omega), hg, Nat.succ_mul, show i * K + K + k - K = i * K + k by omega]
    exact ih
theorem flat_len' {α : Type} (g : α → List Value) (K : Nat) (hg : ∀ t, (g t).length = K) (l : List α) : (l.flatMap g).length = l.length * K := by
  induction l with
  | nil => simp
  | cons a l ih => rw [List.flatMap_cons, List.length_append, hg, ih, List.length_cons, Nat.succ_mul]; omega
/-- cells of an element of K cells -/
theorem rd_elem {α : Type} (g : α → List Value) (K : Nat) (hK : 0 < K) (hg : ∀ t, (g t).length = K) {W : World} {A : Option Addr} {q i : Nat} {l : List α} (h : Rd W K A q (l.flatMap g)) (hl : l.length = q) {t : α} (ht : l[i]? = some t) :
    ∃ b o, A = some ⟨b, o, none⟩ ∧ ∀ k u, (g t)[k]? = some u → W.cell? ⟨b, o + i * K + k, none⟩ = some u := by
  have hi := (List.getElem?_eq_some_iff.1 ht).1
  obtain ⟨b, o, hA, hc⟩ := h.2 (by omega)
  exact ⟨b, o, hA, fun k u hk => by rw [Nat.add_assoc]; exact hc _ u (flat_at g K hg l i t k u ht hk)⟩
theorem fl_neq (b : Bool) (c z : Int) (W : World) : (binOp .neq 46 (.agg #[.bool b, .int .u32 c, .int .i64 z]) (.agg #[.bool b, .int .u32 c, .int .i64 z])).run Tryd.prog W = .ok (.bool false) W := by
  rw [run_neq_struct, run_equalIn_agg _ _ _ _ _ (by kernel_rfl) (by kernel_rfl)]
  simp [Program.fieldsOf, Tryd.underlying46, Op.eqFields, go_sem]
end Go.Proofs.YtokbdkbljgdcpaaDoor

/- What the laws FramePieces, FrameAgain, FrameBack share. -/
namespace Go.Proofs.YtokbdkbljgdcpaaDoor
open Go.RowKit Go.Own Go.Frm
set_option linter.unusedVariables false
set_option maxRecDepth 100000
theorem ints_at {W : World} {A : Option Addr} {n c : Nat} (h : HoldsT Tryd.prog W 3 58 [.slice A n c]) : IntsAt W A n := by
  intro i hi
  obtain ⟨b, o, v, rfl, hc, hv⟩ := HoldsT.at_ (d := 2) Tryd.underlying58 (by kernel_rfl) h hi
  obtain ⟨z, rfl, hz⟩ := HoldsT.int (d := 1) Tryd.underlying3 hv
  obtain ⟨h1, h2⟩ := i64_of hz
  exact ⟨b, o, z, rfl, hc, h1, h2⟩
theorem IntsAt.below {W W' : World} {A : Option Addr} {n : Nat} (h : IntsAt W A n) (hb : Below W.heap.size W W') : IntsAt W' A n := by
  intro i hi
  obtain ⟨b, o, z, rfl, hc, rest⟩ := h i hi
  exact ⟨b, o, z, rfl, (hb.cell (World.block_lt_of_cell? _ _ hc)).trans hc, rest⟩
theorem tls_len (l : List Tl) : (tls l).length = l.length := by simp [tls]
theorem tls_at {l : List Tl} {i : Nat} {t : Tl} (h : l[i]? = some t) : (tls l)[i]? = some (t.f, t.x) := by simp [tls, h]
theorem frs_at {w0 w : World} {S : Nat → Prop} {L1 L2 : List Ob} {l : List Tl} {i : Nat} {t : Tl} (s : St S w0 w (L1 ++ FrsO l :: L2)) (h : l[i]? = some t) :
    ∃ A ca B cb, t.pv = .slice A t.f.pay.length ca ∧ t.lv = .slice B t.f.list.length cb ∧ Rd w 1 A t.f.pay.length (t.f.pay.map BV) ∧ Rd w 2 B t.f.list.length (scells t.f.list) ∧ t.f.list.length ≤ 9223372036854775807 := by
  obtain ⟨F, ⟨hF, _⟩, _⟩ := St.focus L1 (FrsO l) L2 s
  obtain ⟨A, c, B, d, h1, h2, h3, h4⟩ := hF t (List.mem_of_getElem? h)
  rw [h1] at h3
  rw [h2] at h4
  obtain ⟨A', c', e, k1, k2, _⟩ := own_shape h4
  exact ⟨A, c, B, d, h1, h2, Rd.of_own h3, Rd.of_own h4, by unfold maxLen at k2; omega⟩
theorem rd_lt' {W : World} {A : Option Addr} {n : Nat} {xs : List UInt8} (h : Rd W 1 A n (xs.map BV)) : 0 < n → ∀ a : Addr, A = some a → a.block < W.heap.size := fun hn => rd_lt h hn
end Go.Proofs.YtokbdkbljgdcpaaDoor

/- A frame that is handed in, by its type. -/
namespace Go.Proofs.YtokbdkbljgdcpaaDoor
open Go.RowKit Go.Own Go.Frm
set_option linter.unusedVariables false
set_option maxRecDepth 100000
theorem HoldsT.flds {P : Program} {W : World} {d : Nat} {t : TypeId} {cs : List Value} {fs : Array Field} (ht : P.underlying t = some (.struct fs)) (h : HoldsT P W (d + 1) t cs) : cs.length = P.cellsOf t ∧ ∀ (i : Nat) (f : Field), fs[i]? = some f → HoldsT P W d f.type ((cs.drop f.offset).take (P.cellsOf f.type)) := by
  unfold HoldsT at h
  rw [ht] at h
  exact h
theorem fld1 {P : Program} {W : World} {d : Nat} {cs : List Value} {fs : Array Field} (h : ∀ (i : Nat) (f : Field), fs[i]? = some f → HoldsT P W d f.type ((cs.drop f.offset).take (P.cellsOf f.type))) (i : Nat) (t : TypeId) (o : Nat) (hf : (fs[i]?).map (fun f => (f.type, f.offset)) = some (t, o)) (hc : P.cellsOf t = 1) : HoldsT P W d t ((cs.drop o).take 1) := by
  cases hfi : fs[i]? with
  | none => rw [hfi] at hf; cases hf
  | some f =>
    rw [hfi] at hf
    simp only [Option.map_some, Option.some.injEq, Prod.mk.injEq] at hf
    obtain ⟨h1, h2⟩ := hf
    have := h i f hfi
    rw [h1, h2, hc] at this
    exact this
theorem c_int : Tryd.prog.cellsOf 3 = 1 := by kernel_rfl
theorem c_bool : Tryd.prog.cellsOf 4 = 1 := by kernel_rfl
theorem c_bytes : Tryd.prog.cellsOf 22 = 1 := by kernel_rfl
theorem c_code : Tryd.prog.cellsOf 24 = 1 := by kernel_rfl
theorem c_setts : Tryd.prog.cellsOf 25 = 1 := by kernel_rfl
theorem c_u32 : Tryd.prog.cellsOf 23 = 1 := by kernel_rfl
theorem c_set : Tryd.prog.cellsOf 50 = 2 := by kernel_rfl
theorem c_frame : Tryd.prog.cellsOf 27 = 16 := by kernel_rfl
def setOk (s : Int × Nat) : Prop := (-9223372036854775808 ≤ s.1 ∧ s.1 ≤ 9223372036854775807) ∧ s.2 < 4294967296
theorem u32_of' {n : Int} (h : (Lit.int .u32 n).wf = true) : 0 ≤ n ∧ n ≤ 4294967295 := by
  simpa [Lit.wf, IntKind.min, IntKind.max, IntKind.signed, IntKind.bits] using h
theorem set_cells {W : World} {d : Nat} {cs : List Value} (h : HoldsT Tryd.prog W (d + 2) 50 cs) : ∃ s, cs = scell s ∧ setOk s := by
  obtain ⟨hl, hf⟩ := HoldsT.flds Tryd.underlying50 h
  rw [c_set] at hl
  have g0 := fld1 hf 0 3 0 rfl c_int
  have g1 := fld1 hf 1 23 1 rfl c_u32
  match cs, hl with
  | [c0, c1], _ =>
    obtain ⟨a, rfl, ha⟩ := HoldsT.int (d := d) Tryd.underlying3 g0
    obtain ⟨b, rfl, hb⟩ := HoldsT.int (d := d) Tryd.underlying23 g1
    have hb2 := u32_of' hb
    refine ⟨(a, b.toNat), ?_, i64_of ha, by show b.toNat < 4294967296; omega⟩
    unfold scell
    rw [Int.toNat_of_nonneg hb2.1]
theorem sets_of : ∀ (n : Nat) (vs : List Value), vs.length = n * 2 → (∀ i, i < n → ∃ s, (vs.drop (i * 2)).take 2 = scell s ∧ setOk s) → ∃ l : List (Int × Nat), vs = scells l ∧ ∀ s ∈ l, setOk s
  | 0, vs, h, _ => ⟨[], by have := List.eq_nil_of_length_eq_zero (l := vs) (by omega); rw [this]; rfl, fun s hs => by cases hs⟩
  | n + 1, vs, h, hp => by
    obtain ⟨s, hs, ok⟩ := hp 0 (by omega)
    obtain ⟨l, hl, hall⟩ := sets_of n (vs.drop 2) (by rw [List.length_drop]; omega) (fun i hi => by
      obtain ⟨s', h1, h2⟩ := hp (i + 1) (by omega)
      refine ⟨s', ?_, h2⟩
      rw [List.drop_drop, show 2 + i * 2 = (i + 1) * 2 by omega]
      exact h1)
    refine ⟨s :: l, ?_, fun x hx => by rcases List.mem_cons.1 hx with rfl | hx; exact ok; exact hall x hx⟩
    have e : scells (s :: l) = scell s ++ scells l := by simp [scells]
    rw [e, ← hl, ← hs]
    simp
theorem setts_arg {W : World} {d : Nat} {A : Option Addr} {n c : Nat} (h : HoldsT Tryd.prog W (d + 3) 25 [.slice A n c]) : ∃ l : List (Int × Nat), Rd W 2 A n (scells l) ∧ (∀ s ∈ l, setOk s) ∧ l.length = n ∧ n ≤ c ∧ c ≤ 140737488351232 := by
  obtain ⟨h1, h2, h3, vs, hr, hv⟩ := HoldsT.slice (d := d + 2) Tryd.underlying25 h
  rw [c_set] at hr hv
  have hrd := hr (by omega)
  obtain ⟨l, rfl, hall⟩ := sets_of n vs hrd.1 (fun i hi => set_cells (hv i hi))
  have hb : Tryd.prog.bytesOf 50 = 16 := by kernel_rfl
  rw [hb] at h3
  exact ⟨l, hrd, hall, rd_set_len hrd, h1, by omega⟩
/-- what is known of a frame that is handed in -/
structure FrArg (W : World) (cs : List Value) (f : Fm) (P : Option Addr) (pc : Nat) (B : Option Addr) (lc : Nat) : Prop where
  hcs : cs = frC f (.slice P f.pay.length pc) (.slice B f.list.length lc)
  pay : Rd W 1 P f.pay.length (f.pay.map BV)
  list : Rd W 2 B f.list.length (scells f.list)
  hpc : f.pay.length ≤ pc
  hpc2 : pc ≤ 140737488351232
  hlc : f.list.length ≤ lc
  hlc2 : lc ≤ 140737488351232
  ok : okF f
  kind : -9223372036854775808 ≤ f.kind ∧ f.kind ≤ 9223372036854775807
theorem frame_arg {W : World} {d : Nat} {cs : List Value} (h : HoldsT Tryd.prog W (d + 4) 27 cs) : ∃ f P pc B lc, FrArg W cs f P pc B lc := by
  obtain ⟨hl, hf⟩ := HoldsT.flds (d := d + 3) Tryd.underlying27 h
  rw [c_frame] at hl
  have g0 := fld1 hf 0 3 0 rfl c_int
  have g1 := fld1 hf 1 3 1 rfl c_int
  have g2 := fld1 hf 2 4 2 rfl c_bool
  have g3 := fld1 hf 3 4 3 rfl c_bool
  have g4 := fld1 hf 4 4 4 rfl c_bool
  have g5 := fld1 hf 5 4 5 rfl c_bool
  have g6 := fld1 hf 6 22 6 rfl c_bytes
  have g7 := fld1 hf 7 3 7 rfl c_int
  have g8 := fld1 hf 8 3 8 rfl c_int
  have g9 := fld1 hf 9 3 9 rfl c_int
  have g10 := fld1 hf 10 4 10 rfl c_bool
  have g11 := fld1 hf 11 3 11 rfl c_int
  have g12 := fld1 hf 12 24 12 rfl c_code
  have g13 := fld1 hf 13 25 13 rfl c_setts
  have g14 := fld1 hf 14 3 14 rfl c_int
  have g15 := fld1 hf 15 3 15 rfl c_int
  match cs, hl with
  | [c0, c1, c2, c3, c4, c5, c6, c7, c8, c9, c10, c11, c12, c13, c14, c15], _ =>
    obtain ⟨a0, rfl, h0⟩ := HoldsT.int (d := d + 2) Tryd.underlying3 g0
    obtain ⟨a1, rfl, h1⟩ := HoldsT.int (d := d + 2) Tryd.underlying3 g1
    obtain ⟨a2, rfl⟩ := HoldsT.bool (d := d + 2) Tryd.underlying4 g2
    obtain ⟨a3, rfl⟩ := HoldsT.bool (d := d + 2) Tryd.underlying4 g3
    obtain ⟨a4, rfl⟩ := HoldsT.bool (d := d + 2) Tryd.underlying4 g4
    obtain ⟨a5, rfl⟩ := HoldsT.bool (d := d + 2) Tryd.underlying4 g5
    obtain ⟨P, np, pc, rfl⟩ := HoldsT.isSlice (d := d + 2) Tryd.underlying22 g6
    obtain ⟨a7, rfl, h7⟩ := HoldsT.int (d := d + 2) Tryd.underlying3 g7
    obtain ⟨a8, rfl, h8⟩ := HoldsT.int (d := d + 2) Tryd.underlying3 g8
    obtain ⟨a9, rfl, h9⟩ := HoldsT.int (d := d + 2) Tryd.underlying3 g9
    obtain ⟨a10, rfl⟩ := HoldsT.bool (d := d + 2) Tryd.underlying4 g10
    obtain ⟨a11, rfl, h11⟩ := HoldsT.int (d := d + 2) Tryd.underlying3 g11
    obtain ⟨a12, rfl, h12⟩ := HoldsT.int (d := d + 2) Tryd.underlying24 g12
    obtain ⟨B, nl, lc, rfl⟩ := HoldsT.isSlice (d := d + 2) Tryd.underlying25 g13
    obtain ⟨a14, rfl, h14⟩ := HoldsT.int (d := d + 2) Tryd.underlying3 g14
    obtain ⟨a15, rfl, h15⟩ := HoldsT.int (d := d + 2) Tryd.underlying3 g15
    have hc := u32_of' h12
    obtain ⟨xs, hr⟩ := HoldsT.bytes (d := d + 1) Tryd.underlying22 Tryd.underlying5 (by kernel_rfl) g6
    obtain ⟨p1, p2, p3, _⟩ := HoldsT.slice (d := d + 2) Tryd.underlying22 g6
    have hb : Tryd.prog.bytesOf 5 = 1 := by kernel_rfl
    rw [hb] at p3
    have hxl : xs.length = np := by simpa using hr.1
    obtain ⟨l, hrl, hall, hll, l1, l2⟩ := setts_arg (d := d) g13
    subst hxl hll
    refine ⟨⟨a0, a1, a2, a3, a4, a5, xs, a7, a8, a9, a10, a11, a12.toNat, l, a14, a15⟩, P, pc, B, lc, ⟨?_, hr, hrl, p1, by omega, l1, l2, ⟨by show a12.toNat < 4294967296; omega, fun s hs => (hall s hs).2⟩, i64_of h0⟩⟩
    show _ = [_, _, _, _, _, _, _, _, _, _, _, _, _, _, _, _]
    simp only [Int.toNat_of_nonneg hc.1]
end Go.Proofs.YtokbdkbljgdcpaaDoor

/- small: a frame of which no more is taken than the law looks at. -/
namespace Go.Proofs.YtokbdkbljgdcpaaDoor
open Go.RowKit Go.Own Go.Frm
set_option linter.unusedVariables false
set_option maxRecDepth 100000
def smF (f : Fm) : Fm := { f with pay := f.pay.take 3000, list := f.list.take 500 }
theorem own_lit0 (w : World) (e : TypeId) (size : Nat) : (w.alloc (.cells #[] e)).ownsRow w.heap.size e size (.slice (some ⟨w.heap.size, 0, none⟩) 0 0) 0 [] := by
  have h := own_of_blk (n := 0) (size := size) (cap := 0) (Blk.new w e []) (by simp) (Nat.le_refl _) (by unfold maxLen; omega)
  rw [List.take_nil] at h
  refine ⟨h.1, ?_⟩
  rcases h.2 with hn | ⟨g, cap, cur, hv, hb, rest⟩
  · exact .inl hn
  · refine .inr ⟨g, cap, cur, hv, ?_, rest⟩
    cases hv
    exact Nat.le_refl _
theorem scells_take (l : List (Int × Nat)) (k : Nat) : (scells l).take (min l.length k * 2) = scells (l.take k) := by
  induction l generalizing k with
  | nil => simp [scells]
  | cons a l ih =>
    cases k with
    | zero => simp [scells]
    | succ k =>
      have e : scells (a :: l) = scell a ++ scells l := by simp [scells]
      have e2 : scells ((a :: l).take (k + 1)) = scell a ++ scells (l.take k) := by simp [scells]
      have e1 : (scell a).length = 2 := rfl
      rw [e, e2, ← ih k, List.take_append, e1, List.take_of_length_le (by rw [e1]; simp; omega)]
      congr 2
      simp
      omega
theorem b3_size' (w : World) (o1 o2 : Obj) : ((w.alloc o1).alloc o2).heap.size = w.heap.size + 1 + 1 := by simp
def SmallQ (w : World) (f : Fm) (e : Ending) (w' : World) : Prop := ∃ A ca B cb, e = .returned (.agg #[.int .i64 f.kind, .int .i64 f.stream, .bool f.fin, .bool f.eh, .bool f.ack, .bool f.prio, .slice A f.pay.length ca, .int .i64 f.flags, .int .i64 f.pad, .int .i64 f.depend, .bool f.excl, .int .i64 f.weight, .int .u32 (f.code : Int), .slice B f.list.length cb, .int .i64 f.last, .int .i64 f.inc]) ∧ FrOwn w' w.heap.size f (.slice A f.pay.length ca) (.slice B f.list.length cb) ∧ Below w.heap.size w w'
set_option maxHeartbeats 4000000 in
theorem small_c (f : Fm) {w : World} {P B : Option Addr} {np pc nl lc : Nat} (hp : Rd w 1 P np (f.pay.map BV)) (hpc : np ≤ pc) (hpc2 : pc ≤ 140737488351232) (hl : Rd w 2 B nl (scells f.list)) (hlc : nl ≤ lc) (hlc2 : lc ≤ 140737488351232) :
    Calls Tryd.prog 13 #[.agg #[.int .i64 f.kind, .int .i64 f.stream, .bool f.fin, .bool f.eh, .bool f.ack, .bool f.prio, .slice P np pc, .int .i64 f.flags, .int .i64 f.pad, .int .i64 f.depend, .bool f.excl, .int .i64 f.weight, .int .u32 (f.code : Int), .slice B nl lc, .int .i64 f.last, .int .i64 f.inc]] w (SmallQ w (smF f)) := by
  obtain ⟨n, hn⟩ : ∃ n, min np 3000 = n := ⟨_, rfl⟩
  obtain ⟨m, hm⟩ : ∃ m, min nl 500 = m := ⟨_, rfl⟩
  have i1 : (if (np : Int) < 3000 then (np : Int) else 3000) = (n : Int) := by split <;> omega
  have i2 : (if (3000 : Int) < (np : Int) then (3000 : Int) else (np : Int)) = (n : Int) := by split <;> omega
  have i3 : (if np < 3000 then (np : Int) else 3000) = (n : Int) := by split <;> omega
  have i4 : (if 3000 < np then (3000 : Int) else (np : Int)) = (n : Int) := by split <;> omega
  have i5 : (if (np : Int) ≤ 3000 then (np : Int) else 3000) = (n : Int) := by split <;> omega
  have i6 : (if np ≤ 3000 then (np : Int) else 3000) = (n : Int) := by split <;> omega
  have j1 : (if (nl : Int) < 500 then (nl : Int) else 500) = (m : Int) := by split <;> omega
  have j2 : (if (500 : Int) < (nl : Int) then (500 : Int) else (nl : Int)) = (m : Int) := by split <;> omega
  have j3 : (if nl < 500 then (nl : Int) else 500) = (m : Int) := by split <;> omega
  have j4 : (if 500 < nl then (500 : Int) else (nl : Int)) = (m : Int) := by split <;> omega
  have j5 : (if (nl : Int) ≤ 500 then (nl : Int) else 500) = (m : Int) := by split <;> omega
  have j6 : (if nl ≤ 500 then (nl : Int) else 500) = (m : Int) := by split <;> omega
  have hn1 : n ≤ np := by omega
  have hn2 : n ≤ pc := by omega
  have hn3 : n ≤ 3000 := by omega
  have hm1 : m ≤ nl := by omega
  have hm2 : m ≤ lc := by omega
  have hm3 : m ≤ 500 := by omega
  have hnp : f.pay.length = np := by simpa using hp.1
  have hnl : f.list.length = nl := rd_set_len hl
  have hp2 := hp.take (k := n) hn1
  rw [Nat.mul_one, ← List.map_take] at hp2
  have hl2 := hl.take (k := m) hm1
  have ep : f.pay.take n = (smF f).pay := by
    show f.pay.take n = f.pay.take 3000
    rw [← hn, ← hnp, List.take_eq_take_iff]; omega
  have el : (scells f.list).take (m * 2) = scells (smF f).list := by
    show _ = scells (f.list.take 500)
    rw [← hm, ← hnl]
    exact scells_take f.list 500
  rw [ep] at hp2
  rw [el] at hl2
  have lp : (smF f).pay.length = n := by show (f.pay.take 3000).length = n; rw [List.length_take]; omega
  have ll : (smF f).list.length = m := by show (f.list.take 500).length = m; rw [List.length_take]; omega
  have bA : Below w.heap.size w ((w.alloc (.cells #[.int .i64 f.kind, .int .i64 f.stream, .bool f.fin, .bool f.eh, .bool f.ack, .bool f.prio, .slice P np pc, .int .i64 f.flags, .int .i64 f.pad, .int .i64 f.depend, .bool f.excl, .int .i64 f.weight, .int .u32 (f.code : Int), .slice B nl lc, .int .i64 f.last, .int .i64 f.inc] 27)).alloc (.cells #[.int .i64 0, .int .i64 0, .bool false, .bool false, .bool false, .bool false, .slice none 0 0, .int .i64 0, .int .i64 0, .int .i64 0, .bool false, .int .i64 0, .int .u32 0, .slice none 0 0, .int .i64 0, .int .i64 0] 27)) := ((Below.refl _ w).alloc (Nat.le_refl _) _).alloc (by simp) _
  have sA : ((w.alloc (.cells #[.int .i64 f.kind, .int .i64 f.stream, .bool f.fin, .bool f.eh, .bool f.ack, .bool f.prio, .slice P np pc, .int .i64 f.flags, .int .i64 f.pad, .int .i64 f.depend, .bool f.excl, .int .i64 f.weight, .int .u32 (f.code : Int), .slice B nl lc, .int .i64 f.last, .int .i64 f.inc] 27)).alloc (.cells #[.int .i64 0, .int .i64 0, .bool false, .bool false, .bool false, .bool false, .slice none 0 0, .int .i64 0, .int .i64 0, .int .i64 0, .bool false, .int .i64 0, .int .u32 0, .slice none 0 0, .int .i64 0, .int .i64 0] 27)).heap.size = w.heap.size + 1 + 1 := b3_size' w _ _
  have bB : Below w.heap.size w (((w.alloc (.cells #[.int .i64 f.kind, .int .i64 f.stream, .bool f.fin, .bool f.eh, .bool f.ack, .bool f.prio, .slice P np pc, .int .i64 f.flags, .int .i64 f.pad, .int .i64 f.depend, .bool f.excl, .int .i64 f.weight, .int .u32 (f.code : Int), .slice B nl lc, .int .i64 f.last, .int .i64 f.inc] 27)).alloc (.cells #[.int .i64 0, .int .i64 0, .bool false, .bool false, .bool false, .bool false, .slice none 0 0, .int .i64 0, .int .i64 0, .int .i64 0, .bool false, .int .i64 0, .int .u32 0, .slice none 0 0, .int .i64 0, .int .i64 0] 27)).alloc (.cells #[] 5)) := bA.alloc (by rw [sA]; omega) _
  have O1 : Hid ((((w.alloc (.cells #[.int .i64 f.kind, .int .i64 f.stream, .bool f.fin, .bool f.eh, .bool f.ack, .bool f.prio, .slice P np pc, .int .i64 f.flags, .int .i64 f.pad, .int .i64 f.depend, .bool f.excl, .int .i64 f.weight, .int .u32 (f.code : Int), .slice B nl lc, .int .i64 f.last, .int .i64 f.inc] 27)).alloc (.cells #[.int .i64 0, .int .i64 0, .bool false, .bool false, .bool false, .bool false, .slice none 0 0, .int .i64 0, .int .i64 0, .int .i64 0, .bool false, .int .i64 0, .int .u32 0, .slice none 0 0, .int .i64 0, .int .i64 0] 27)).alloc (.cells #[] 5)).ownsRow (w.heap.size + 1 + 1) 5 1 (.slice (some ⟨w.heap.size + 1 + 1, 0, none⟩) 0 0) 0 []) := by
    have h := own_lit0 ((w.alloc (.cells #[.int .i64 f.kind, .int .i64 f.stream, .bool f.fin, .bool f.eh, .bool f.ack, .bool f.prio, .slice P np pc, .int .i64 f.flags, .int .i64 f.pad, .int .i64 f.depend, .bool f.excl, .int .i64 f.weight, .int .u32 (f.code : Int), .slice B nl lc, .int .i64 f.last, .int .i64 f.inc] 27)).alloc (.cells #[.int .i64 0, .int .i64 0, .bool false, .bool false, .bool false, .bool false, .slice none 0 0, .int .i64 0, .int .i64 0, .int .i64 0, .bool false, .int .i64 0, .int .u32 0, .slice none 0 0, .int .i64 0, .int .i64 0] 27)) 5 1
    rw [sA] at h
    exact h
  have R1 : Hid (Rd (((w.alloc (.cells #[.int .i64 f.kind, .int .i64 f.stream, .bool f.fin, .bool f.eh, .bool f.ack, .bool f.prio, .slice P np pc, .int .i64 f.flags, .int .i64 f.pad, .int .i64 f.depend, .bool f.excl, .int .i64 f.weight, .int .u32 (f.code : Int), .slice B nl lc, .int .i64 f.last, .int .i64 f.inc] 27)).alloc (.cells #[.int .i64 0, .int .i64 0, .bool false, .bool false, .bool false, .bool false, .slice none 0 0, .int .i64 0, .int .i64 0, .int .i64 0, .bool false, .int .i64 0, .int .u32 0, .slice none 0 0, .int .i64 0, .int .i64 0] 27)).alloc (.cells #[] 5)) 1 P n ((smF f).pay.map BV)) := hp2.below bB
  have K1 : Hid (Blk (((w.alloc (.cells #[.int .i64 f.kind, .int .i64 f.stream, .bool f.fin, .bool f.eh, .bool f.ack, .bool f.prio, .slice P np pc, .int .i64 f.flags, .int .i64 f.pad, .int .i64 f.depend, .bool f.excl, .int .i64 f.weight, .int .u32 (f.code : Int), .slice B nl lc, .int .i64 f.last, .int .i64 f.inc] 27)).alloc (.cells #[.int .i64 0, .int .i64 0, .bool false, .bool false, .bool false, .bool false, .slice none 0 0, .int .i64 0, .int .i64 0, .int .i64 0, .bool false, .int .i64 0, .int .u32 0, .slice none 0 0, .int .i64 0, .int .i64 0] 27)).alloc (.cells #[] 5)) w.heap.size 27 [.int .i64 f.kind, .int .i64 f.stream, .bool f.fin, .bool f.eh, .bool f.ack, .bool f.prio, .slice P np pc, .int .i64 f.flags, .int .i64 f.pad, .int .i64 f.depend, .bool f.excl, .int .i64 f.weight, .int .u32 (f.code : Int), .slice B nl lc, .int .i64 f.last, .int .i64 f.inc]) := ((Blk.new w 27 [.int .i64 f.kind, .int .i64 f.stream, .bool f.fin, .bool f.eh, .bool f.ack, .bool f.prio, .slice P np pc, .int .i64 f.flags, .int .i64 f.pad, .int .i64 f.depend, .bool f.excl, .int .i64 f.weight, .int .u32 (f.code : Int), .slice B nl lc, .int .i64 f.last, .int .i64 f.inc]).alloc _).alloc _
  have K2 : Hid (Blk (((w.alloc (.cells #[.int .i64 f.kind, .int .i64 f.stream, .bool f.fin, .bool f.eh, .bool f.ack, .bool f.prio, .slice P np pc, .int .i64 f.flags, .int .i64 f.pad, .int .i64 f.depend, .bool f.excl, .int .i64 f.weight, .int .u32 (f.code : Int), .slice B nl lc, .int .i64 f.last, .int .i64 f.inc] 27)).alloc (.cells #[.int .i64 0, .int .i64 0, .bool false, .bool false, .bool false, .bool false, .slice none 0 0, .int .i64 0, .int .i64 0, .int .i64 0, .bool false, .int .i64 0, .int .u32 0, .slice none 0 0, .int .i64 0, .int .i64 0] 27)).alloc (.cells #[] 5)) (w.heap.size + 1) 27 [.int .i64 0, .int .i64 0, .bool false, .bool false, .bool false, .bool false, .slice none 0 0, .int .i64 0, .int .i64 0, .int .i64 0, .bool false, .int .i64 0, .int .u32 0, .slice none 0 0, .int .i64 0, .int .i64 0]) := by
    have h : Blk ((w.alloc (.cells #[.int .i64 f.kind, .int .i64 f.stream, .bool f.fin, .bool f.eh, .bool f.ack, .bool f.prio, .slice P np pc, .int .i64 f.flags, .int .i64 f.pad, .int .i64 f.depend, .bool f.excl, .int .i64 f.weight, .int .u32 (f.code : Int), .slice B nl lc, .int .i64 f.last, .int .i64 f.inc] 27)).alloc (.cells #[.int .i64 0, .int .i64 0, .bool false, .bool false, .bool false, .bool false, .slice none 0 0, .int .i64 0, .int .i64 0, .int .i64 0, .bool false, .int .i64 0, .int .u32 0, .slice none 0 0, .int .i64 0, .int .i64 0] 27)) (w.alloc (.cells #[.int .i64 f.kind, .int .i64 f.stream, .bool f.fin, .bool f.eh, .bool f.ack, .bool f.prio, .slice P np pc, .int .i64 f.flags, .int .i64 f.pad, .int .i64 f.depend, .bool f.excl, .int .i64 f.weight, .int .u32 (f.code : Int), .slice B nl lc, .int .i64 f.last, .int .i64 f.inc] 27)).heap.size 27 [.int .i64 0, .int .i64 0, .bool false, .bool false, .bool false, .bool false, .slice none 0 0, .int .i64 0, .int .i64 0, .int .i64 0, .bool false, .int .i64 0, .int .u32 0, .slice none 0 0, .int .i64 0, .int .i64 0] := Blk.new _ _ _
    have e : (w.alloc (.cells #[.int .i64 f.kind, .int .i64 f.stream, .bool f.fin, .bool f.eh, .bool f.ack, .bool f.prio, .slice P np pc, .int .i64 f.flags, .int .i64 f.pad, .int .i64 f.depend, .bool f.excl, .int .i64 f.weight, .int .u32 (f.code : Int), .slice B nl lc, .int .i64 f.last, .int .i64 f.inc] 27)).heap.size = w.heap.size + 1 := by simp
    rw [e] at h
    exact h.alloc _
  have hs1 : Hid (w.heap.size + 1 + 1 ≤ (((w.alloc (.cells #[.int .i64 f.kind, .int .i64 f.stream, .bool f.fin, .bool f.eh, .bool f.ack, .bool f.prio, .slice P np pc, .int .i64 f.flags, .int .i64 f.pad, .int .i64 f.depend, .bool f.excl, .int .i64 f.weight, .int .u32 (f.code : Int), .slice B nl lc, .int .i64 f.last, .int .i64 f.inc] 27)).alloc (.cells #[.int .i64 0, .int .i64 0, .bool false, .bool false, .bool false, .bool false, .slice none 0 0, .int .i64 0, .int .i64 0, .int .i64 0, .bool false, .int .i64 0, .int .u32 0, .slice none 0 0, .int .i64 0, .int .i64 0] 27)).alloc (.cells #[] 5)).heap.size) := by show w.heap.size + 1 + 1 ≤ _; rw [← sA]; simp
  have BB := Lib.hid bB
  have LP := Lib.hid lp
  have LL := Lib.hid ll
  have RL := Lib.hid hl2
  clear hp hl hp2 hl2 ep el lp ll bA bB sA hn hm hnp hnl
  go_enter Tryd.func13, Tryd.ntmps13
  go_upto_region 3 with (first
    | (at_builtin
       refine wpList_append_rd rfl (.tmp 3) (.tmp 10) 22 rfl EB (.slice (some ⟨w.heap.size + 1 + 1, 0, none⟩) 0 0) 0 [] rfl O1.out P n pc ((smF f).pay.map BV) rfl R1.out (BV_one _) (by omega) (by unfold maxLen; omega) hs1.out ?_
       intro A6 c6 w6 ho6 hf6 h26
       simp only [Nat.zero_add, List.nil_append] at ho6
       have hne : ∀ i, i ≤ w.heap.size + 1 → ¬ some i = (Value.slice (some ⟨w.heap.size + 1 + 1, 0, none⟩) 0 0).ownBlock := fun i hi e => by have e2 : some i = some (w.heap.size + 1 + 1) := e; injection e2 with e3; omega
       have k1 := K1.out.fr hf6 (hne _ (by omega))
       have k2 := K2.out.fr hf6 (hne _ (by omega))
       have b6 : Below w.heap.size w w6 := BB.out.trans (hf6.below (Nat.le_trans (by omega) hs1.out) (fun i _ e => by have e2 : some i = some (w.heap.size + 1 + 1) := e; injection e2 with e3; omega))
       have f6 := Fr.setCell (S := (· = w.heap.size)) (Fr.refl (· = w.heap.size) w6) (p := ⟨w.heap.size, 6, none⟩) (.inl rfl) (.slice A6 n c6)
       have hlt6 : w.heap.size + 1 + 1 ≤ w6.heap.size := Nat.le_trans hs1.out hf6.size
       have B6 : Hid (Below w.heap.size w ((w6.setCell ⟨w.heap.size, 6, none⟩ (.slice A6 n c6)).alloc (.cells #[] 50))) := (b6.trans (f6.below b6.size (fun i _ e => by omega))).alloc (by simp; omega) _
       have e6 : (w6.setCell ⟨w.heap.size, 6, none⟩ (.slice A6 n c6)).heap.size = w6.heap.size := by simp
       have O2 : Hid (((w6.setCell ⟨w.heap.size, 6, none⟩ (.slice A6 n c6)).alloc (.cells #[] 50)).ownsRow w6.heap.size 50 2 (.slice (some ⟨w6.heap.size, 0, none⟩) 0 0) 0 []) := by
         have h := own_lit0 (w6.setCell ⟨w.heap.size, 6, none⟩ (.slice A6 n c6)) 50 2
         rw [e6] at h
         exact h
       have R2 : Hid (Rd ((w6.setCell ⟨w.heap.size, 6, none⟩ (.slice A6 n c6)).alloc (.cells #[] 50)) 2 B m (scells (smF f).list)) := RL.out.below B6.out
       have P2 : Hid (((w6.setCell ⟨w.heap.size, 6, none⟩ (.slice A6 n c6)).alloc (.cells #[] 50)).ownsRow (w.heap.size + 1 + 1) 5 1 (.slice A6 n c6) n ((smF f).pay.map BV)) := own_fr (S := fun _ => False) (own_fr ho6 f6 (fun g hg e => by have := (ho6.lt g hg).1; omega)) ((Fr.refl _ _).alloc _) (fun _ _ h => h)
       have K3 : Hid (Blk ((w6.setCell ⟨w.heap.size, 6, none⟩ (.slice A6 n c6)).alloc (.cells #[] 50)) w.heap.size 27 [.int .i64 f.kind, .int .i64 f.stream, .bool f.fin, .bool f.eh, .bool f.ack, .bool f.prio, .slice A6 n c6, .int .i64 f.flags, .int .i64 f.pad, .int .i64 f.depend, .bool f.excl, .int .i64 f.weight, .int .u32 (f.code : Int), .slice B nl lc, .int .i64 f.last, .int .i64 f.inc]) := (k1.set_ 6 (.slice A6 n c6)).alloc _
       have K4 : Hid (Blk ((w6.setCell ⟨w.heap.size, 6, none⟩ (.slice A6 n c6)).alloc (.cells #[] 50)) (w.heap.size + 1) 27 [.int .i64 0, .int .i64 0, .bool false, .bool false, .bool false, .bool false, .slice none 0 0, .int .i64 0, .int .i64 0, .int .i64 0, .bool false, .int .i64 0, .int .u32 0, .slice none 0 0, .int .i64 0, .int .i64 0]) := (k2.fr f6 (fun e => by omega)).alloc _
       have hs2 : Hid (w6.heap.size ≤ ((w6.setCell ⟨w.heap.size, 6, none⟩ (.slice A6 n c6)).alloc (.cells #[] 50)).heap.size) := by show w6.heap.size ≤ _; simp
       have H6 := Lib.hid hlt6
       have HPB : Hid (∀ g, (Value.slice A6 n c6).ownBlock = some g → w.heap.size + 1 + 1 ≤ g ∧ g < w6.heap.size) := fun g hg => ho6.lt g hg
       have z6 := k1.cell 6
       have z13 := k1.cell 13
       have y6 := k1.frozen 6
       have l6 := k1.lt
       simp only [List.getElem?_cons_zero, List.getElem?_cons_succ] at z6 z13
       clear ho6 hf6 h26 hne k1 k2 b6 f6 hlt6 e6)
    | (at_builtin
       refine wpList_append_rd rfl (.tmp 13) (.tmp 20) 25 rfl ES (.slice (some ⟨w6.heap.size, 0, none⟩) 0 0) 0 [] rfl O2.out B m lc (scells (smF f).list) rfl R2.out (scells_one _) (by omega) (by unfold maxLen; omega) hs2.out ?_
       intro A8 c8 w8 ho8 hf8 h28
       simp only [Nat.zero_add, List.nil_append] at ho8
       have own2 : ∀ i, some i = (Value.slice (some ⟨w6.heap.size, 0, none⟩) 0 0).ownBlock → i = w6.heap.size := fun i e => by have e2 : some i = some w6.heap.size := e; injection e2
       have hl6 := H6.out
       have k3 := K3.out.fr hf8 (fun e => by have := own2 _ e; omega)
       have k4 := K4.out.fr hf8 (fun e => by have := own2 _ e; omega)
       have p3 := own_fr P2.out hf8 (fun g hg e => by have := own2 _ e; have := HPB.out g hg; omega)
       have b8 : Below w.heap.size w w8 := B6.out.trans (hf8.below B6.out.size (fun i _ e => by have := own2 _ e; omega))
       have f8 := Fr.setCell (S := (· = w.heap.size)) (Fr.refl (· = w.heap.size) w8) (p := ⟨w.heap.size, 13, none⟩) (.inl rfl) (.slice A8 m c8)
       have K5 : Hid (Blk (w8.setCell ⟨w.heap.size, 13, none⟩ (.slice A8 m c8)) w.heap.size 27 [.int .i64 f.kind, .int .i64 f.stream, .bool f.fin, .bool f.eh, .bool f.ack, .bool f.prio, .slice A6 n c6, .int .i64 f.flags, .int .i64 f.pad, .int .i64 f.depend, .bool f.excl, .int .i64 f.weight, .int .u32 (f.code : Int), .slice A8 m c8, .int .i64 f.last, .int .i64 f.inc]) := k3.set_ 13 (.slice A8 m c8)
       have K6 : Hid (Blk (w8.setCell ⟨w.heap.size, 13, none⟩ (.slice A8 m c8)) (w.heap.size + 1) 27 zero16) := k4.fr f8 (fun e => by omega)
       have P5 : Hid ((w8.setCell ⟨w.heap.size, 13, none⟩ (.slice A8 m c8)).ownsRow (w.heap.size + 1 + 1) 5 1 (.slice A6 n c6) n ((smF f).pay.map BV)) := own_fr p3 f8 (fun g hg e => by have := HPB.out g hg; omega)
       have P6 : Hid ((w8.setCell ⟨w.heap.size, 13, none⟩ (.slice A8 m c8)).ownsRow w6.heap.size 50 2 (.slice A8 m c8) m (scells (smF f).list)) := own_fr ho8 f8 (fun g hg e => by have := (ho8.lt g hg).1; omega)
       have B8 : Hid (Below w.heap.size w (w8.setCell ⟨w.heap.size, 13, none⟩ (.slice A8 m c8))) := b8.trans (f8.below b8.size (fun i _ e => by omega))
       have z13 := k3.cell 13
       have y13 := k3.frozen 13
       have l8 := k3.lt
       simp only [List.getElem?_cons_zero, List.getElem?_cons_succ] at z13
       clear ho8 hf8 h28 own2 hl6 k3 k4 p3 b8 f8))
  generalize (w8.setCell ⟨w.heap.size, 13, none⟩ (.slice A8 m c8)) = w9 at K5 K6 P5 P6 B8 ⊢
  have z0 := K5.out.cell 0
  have z1 := K5.out.cell 1
  have z2 := K5.out.cell 2
  have z3 := K5.out.cell 3
  have z4 := K5.out.cell 4
  have z5 := K5.out.cell 5
  have z6 := K5.out.cell 6
  have z7 := K5.out.cell 7
  have z8 := K5.out.cell 8
  have z9 := K5.out.cell 9
  have z10 := K5.out.cell 10
  have z11 := K5.out.cell 11
  have z12 := K5.out.cell 12
  have z13 := K5.out.cell 13
  have z14 := K5.out.cell 14
  have z15 := K5.out.cell 15
  simp only [List.getElem?_cons_zero, List.getElem?_cons_succ] at z0 z1 z2 z3 z4 z5 z6 z7 z8 z9 z10 z11 z12 z13 z14 z15
  obtain ⟨r0, r1, r2, r3, r4, r5, r6, r7, r8, r9, r10, r11, r12, r13, r14, r15⟩ := cells16 K6.out
  have yf := fun i => K6.out.frozen i
  have l9 := K6.out.lt
  go_wp2
  obtain ⟨S1, S2⟩ := store16 K6.out (.int .i64 f.kind) (.int .i64 f.stream) (.bool f.fin) (.bool f.eh) (.bool f.ack) (.bool f.prio) (.slice A6 n c6) (.int .i64 f.flags) (.int .i64 f.pad) (.int .i64 f.depend) (.bool f.excl) (.int .i64 f.weight) (.int .u32 (f.code : Int)) (.slice A8 m c8) (.int .i64 f.last) (.int .i64 f.inc)
  refine bodyPost_ret (res_frame (p := 2) rfl rfl rfl S1) rfl ⟨A6, c6, A8, c8, ?_, ?_, ?_⟩
  · rw [LP.out, LL.out]; rfl
  · unfold FrOwn
    rw [LP.out, LL.out]
    have hl6 := H6.out
    refine ⟨A6, c6, A8, c8, rfl, rfl, own_lower (own_fr P5.out S2 (fun g hg e => ?_)) (by omega), own_lower (own_fr P6.out S2 (fun g hg e => ?_)) (by omega)⟩
    · have h1 := (P5.out.lt g hg).1
      have e : g = w.heap.size + 1 := e
      omega
    · have h1 := (P6.out.lt g hg).1
      have e : g = w.heap.size + 1 := e
      omega
  · exact B8.out.trans (S2.below B8.out.size (fun i _ e => by have e : i = w.heap.size + 1 := e; omega))
end Go.Proofs.YtokbdkbljgdcpaaDoor

/- What the law FrameBack needs: frames that are handed in; told on octets of the call's own; Write of any frame. -/
namespace Go.Proofs.YtokbdkbljgdcpaaDoor
open Go.RowKit Go.Own Go.Frm
set_option linter.unusedVariables false
set_option maxRecDepth 100000
theorem frames_at {W : World} {A : Option Addr} {n c i : Nat} (h : HoldsT Tryd.prog W 6 57 [.slice A n c]) (hi : i < n) :
    ∃ (b o : Nat) (f : Fm) (P : Option Addr) (pc : Nat) (B : Option Addr) (lc : Nat), A = some ⟨b, o, none⟩ ∧ (∀ (k : Nat) (u : Value), (frC f (.slice P f.pay.length pc) (.slice B f.list.length lc))[k]? = some u → W.cell? ⟨b, o + i * 16 + k, none⟩ = some u) ∧ Rd W 1 P f.pay.length (f.pay.map BV) ∧ f.pay.length ≤ pc ∧ pc ≤ 140737488351232 ∧ Rd W 2 B f.list.length (scells f.list) ∧ f.list.length ≤ lc ∧ lc ≤ 140737488351232 ∧ okF f := by
  obtain ⟨h1, h2, h3, vs, hr, hv⟩ := HoldsT.slice (d := 5) Tryd.underlying57 h
  rw [c_frame] at hr hv
  have hrd := hr (by omega)
  obtain ⟨b, o, hA, hc⟩ := hrd.2 (by omega)
  obtain ⟨f, P, pc, B, lc, g⟩ := frame_arg (d := 1) (hv i hi)
  refine ⟨b, o, f, P, pc, B, lc, hA, fun k u hk => ?_, g.pay, g.hpc, g.hpc2, g.list, g.hlc, g.hlc2, g.ok⟩
  rw [← g.hcs, List.getElem?_take, List.getElem?_drop] at hk
  split at hk
  · rw [Nat.add_assoc]; exact hc _ u hk
  · cases hk
section
variable {w0 wa w : World} {L : List Ob} {p m : Nat}
theorem told_A {st : Pst} (s : St (fun _ => False) w0 wa (PFo p m st :: L)) (hb : Below wa.heap.size wa w) (hG : Gl w0) (D : Dry m st) {A : Option Addr} {n c : Nat} {bs : List (List UInt8)} (hbs : ∀ F : Nat → Prop, (∀ i, F i → w0.heap.size ≤ i ∧ i < wa.heap.size) → (∀ O', O' ∈ L → ∃ F', O' wa F' ∧ ∀ i, F i → ¬ F' i) → Pcs w F A n bs) (hnc : n ≤ c) (hn : n ≤ 1000000) (hT : st.held.length + bs.flatten.length ≤ 300000) :
    Calls Tryd.prog 26 #[.pointer (some ⟨p, 0, none⟩), .slice A n c] w fun e w' => ToldS w0 w p m (toldP m st bs).1 (toldP m st bs).2 L e w' := by
  obtain ⟨F, hF, hlo, hap, hback⟩ := St.focusA [] (PFo p m st) L s
  have hFr := framed_PFo p m st
  have hf : Fr (fun _ => False) wa w := Fr.of_below hb (fun i h1 h2 => absurd h2 (by omega))
  have hF1 := hFr.fr wa w F _ hF hf (fun _ _ h => h)
  have hp := hG.pos
  have hlo' : ∀ i, F i → w0.heap.size ≤ i ∧ i < wa.heap.size := fun i hi => ⟨(hlo i hi).resolve_left (fun h => h), hFr.lt _ _ hF i hi⟩
  have hGw : Gl w := (hG.below s.below).below hb
  refine (told_c hF1 hGw (fun h => ?_) (fun h => ?_) D (hbs F hlo' hap) hnc hn hT).mono ?_
  · have := hlo' _ h; omega
  · have := hlo' _ h; omega
  · rintro e w' ⟨A1, c1, A2, c2, q, l, rfl, h1, h2, h3, s'⟩
    exact ⟨A1, c1, A2, c2, q, l, rfl, h1, h2, h3, hback w' _ _ (s'.before hf)⟩
/-- what pieces has cut of octets of the call's own -/
theorem pcs_own {B : Option Addr} {nb cb base : Nat} {ys : List UInt8} {A : Option Addr} {n c : Nat} {vs : List Value} {bs : List (List UInt8)} (hyl : ys.length = nb) (hm : SLo base 5 1 (.slice B nb cb) nb (ys.map BV) ∈ L) (hb : Below wa.heap.size wa w) (hown : w.ownsRow wa.heap.size 22 1 (.slice A n c) n vs) (hfl : bs.flatten = ys) (hbl : bs.length = n) (hpc : PcOf wa B vs bs) (F : Nat → Prop) (hF : ∀ i, F i → w0.heap.size ≤ i ∧ i < wa.heap.size) (hap : ∀ O', O' ∈ L → ∃ F', O' wa F' ∧ ∀ i, F i → ¬ F' i) :
    Pcs w F A n bs := by
  obtain ⟨F', ⟨_, hF'⟩, hdis⟩ := hap _ hm
  refine ⟨hbl, fun i zs hi => ?_⟩
  obtain ⟨Bi, ni, ci, hv, hr, h1, h2, h3⟩ := hpc.2 i zs hi
  have hil : i < n := by
    have := (List.getElem?_eq_some_iff.1 hi).1
    omega
  obtain ⟨b, o, u, hA, hu, hcell⟩ := (Rd.of_own hown).at_ hil
  rw [hv] at hu
  cases hu
  subst hA
  have hgb := (hown.lt b (by rfl)).1
  refine ⟨b, o, Bi, ni, ci, rfl, fun h => ?_, hcell, fun hp a ha h => ?_, hr.below hb, h1, h2⟩
  · have := (hF _ h).2; omega
  · obtain ⟨a0, ha0, he⟩ := h3 a ha
    refine hdis _ h ?_
    rw [hF']
    show (Value.slice B nb cb).ownBlock = some a.block
    rw [ha0, he]; rfl
end
/-- Write, whatever the frame is -/
def bkO (f : Fm) : List UInt8 × Int := bif mayB f then (Go.Frm.wr f, 0) else ([], 1)
theorem body_small (f : Fm) (h : mayB f = true) (h1 : f.pay.length ≤ 3000) (h2 : f.list.length ≤ 500) : (body f).length ≤ 6273 := by
  have P := (may_iff f).1 h
  have p0 := P.p0
  have p1 := P.p1
  rw [body_len, mustB_len, padA_len, padZ_len]
  cases (f.prio || hW f.k) <;> cases hT f.k <;> cases hC f.k <;> cases hI f.k <;> cases decide (0 < f.pad) <;> simp only [cond_true, cond_false] <;> omega
theorem bk_writeP (f : Fm) (h1 : f.pay.length ≤ 3000) (h2 : f.list.length ≤ 500) : writeP f = bkO f := by
  unfold bkO
  cases h : mayB f with
  | false => unfold writeP; rw [h]; rfl
  | true => rw [writeP_ok f h (by have := body_small f h h1 h2; omega)]; rfl
theorem write_k (f : Fm) {w : World} (hc : okF f) (h1 : f.pay.length ≤ 3000) (h2 : f.list.length ≤ 500) {A B : Option Addr} {n m c d : Nat} (hG : Gl w) (hp : Rd w 1 A n (f.pay.map BV)) (hn : n ≤ 3000) (hnc : n ≤ c) (hrd : Rd w 2 B m (scells f.list)) (hm : m ≤ 500) (xs : List UInt8) (N : Nat) (z : Int) (hX : bkO f = (xs, z)) (hN : xs.length = N) :
    Calls Tryd.prog 14 #[.agg #[.int .i64 f.kind, .int .i64 f.stream, .bool f.fin, .bool f.eh, .bool f.ack, .bool f.prio, .slice A n c, .int .i64 f.flags, .int .i64 f.pad, .int .i64 f.depend, .bool f.excl, .int .i64 f.weight, .int .u32 (f.code : Int), .slice B m d, .int .i64 f.last, .int .i64 f.inc]] w fun e w' => ∃ A' c', e = .returned (.tuple #[.slice A' N c', .int .i64 z]) ∧ w'.ownsRow w.heap.size 5 1 (.slice A' N c') N (xs.map BV) ∧ Below w.heap.size w w' := by
  have h := write_c f hc A B n c m d hG hp (by omega) hnc hrd (by omega)
  rw [bk_writeP f h1 h2, hX] at h
  refine h.mono ?_
  rintro e w' ⟨A', c', rfl, ho, hb⟩
  simp only at ho ⊢
  rw [hN] at ho ⊢
  exact ⟨A', c', rfl, ho, hb⟩
end Go.Proofs.YtokbdkbljgdcpaaDoor
