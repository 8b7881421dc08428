/- Several texts in one: Wo6, Wp, Wm1. -/
import Derived.Test.YtokbdkbljgdcpaaDoorY12
import Derived.Deep.LoopGhost
import Derived.Test.YtokbdkbljgdcpaaDoorY13
import Derived.Test.YtokbdkbljgdcpaaDoorY14
import Derived.Test.YtokbdkbljgdcpaaDoorY15
import Derived.Test.YtokbdkbljgdcpaaDoorY16
import Derived.Test.YtokbdkbljgdcpaaDoorY17
import Derived.Deep.RegionHeld
/- The contract of mustOf: class 6. -/
namespace Go.Proofs.YtokbdkbljgdcpaaDoor
open Go.RowKit Go.Own Go.Frm
set_option linter.unusedVariables false
set_option maxRecDepth 100000
set_option maxHeartbeats 4000000 in
theorem mustOf_6 (f : Fm) (k : Nat) (hk : f.kind = (k : Int)) (A B : Option Addr) (n c m d : Nat) {w : World} (hG : Gl w) (hrd : Rd w 2 B m (scells f.list)) (hm : m ≤ 100000000) (hids : ∀ s ∈ f.list, 0 ≤ s.1 ∧ s.1 ≤ 65535) (hvals : ∀ s ∈ f.list, s.2 < 4294967296)
   (eW : (bits .and .i64 ((partN k f.prio : Nat) : Int) 32 != 0) = false) (eT : (bits .and .i64 ((partN k f.prio : Nat) : Int) 512 != 0) = false) (eC : (bits .and .i64 ((partN k f.prio : Nat) : Int) 1024 != 0) = false) (eI : (bits .and .i64 ((partN k f.prio : Nat) : Int) 2048 != 0) = false) :
    Calls Tryd.prog 32 #[frV f (.slice A n c) (.slice B m d)] w (MuP w (([] : List UInt8) ++ listB f.list)) := by
  obtain ⟨kind, stream, fin, eh, ack, prio, pay, flags, pad, depend, excl, weight, code, list, last, inc⟩ := f
  simp only at *
  subst hk
  have HG := Lib.hid (show Gl ((w.alloc (.cells #[(.int .i64 (k : Int)), (.int .i64 stream), (.bool fin), (.bool eh), (.bool ack), (.bool prio), (.slice A n c), (.int .i64 flags), (.int .i64 pad), (.int .i64 depend), (.bool excl), (.int .i64 weight), (.int .u32 (code : Int)), (.slice B m d), (.int .i64 last), (.int .i64 inc)] 27)).alloc (.cells #[.slice none 0 0] 76)) from (hG.alloc _).alloc _)
  have HX := Lib.hid (blk_new1 w (.cells #[.slice none 0 0] 76) 27 (frC (Fm.mk (k : Int) stream fin eh ack prio pay flags pad depend excl weight code list last inc) (.slice A n c) (.slice B m d)))
  have HW : Hid (Wt (w.heap.size + 1) (w.heap.size + 1) [] ((w.alloc (.cells #[(.int .i64 (k : Int)), (.int .i64 stream), (.bool fin), (.bool eh), (.bool ack), (.bool prio), (.slice A n c), (.int .i64 flags), (.int .i64 pad), (.int .i64 depend), (.bool excl), (.int .i64 weight), (.int .u32 (code : Int)), (.slice B m d), (.int .i64 last), (.int .i64 inc)] 27)).alloc (.cells #[.slice none 0 0] 76))) := ⟨none, 0, blk_new2 w _ 76 [.slice none 0 0], World.ownsRow_nil _ _ _ _, Nat.le_refl _⟩
  have HB : Hid (Below w.heap.size w ((w.alloc (.cells #[(.int .i64 (k : Int)), (.int .i64 stream), (.bool fin), (.bool eh), (.bool ack), (.bool prio), (.slice A n c), (.int .i64 flags), (.int .i64 pad), (.int .i64 depend), (.bool excl), (.int .i64 weight), (.int .u32 (code : Int)), (.slice B m d), (.int .i64 last), (.int .i64 inc)] 27)).alloc (.cells #[.slice none 0 0] 76))) := ((Below.refl _ _).alloc (Nat.le_refl _) _).alloc (by simp) _
  have Hr := Lib.hid hrd
  have Hids := Lib.hid hids
  have Hvals := Lib.hid hvals
  have hlen := rd_set_len hrd
  have Hlen := Lib.hid hlen
  have EW := Lib.hid eW
  have ET := Lib.hid eT
  have EC := Lib.hid eC
  have EI := Lib.hid eI
  clear hG hrd hids hvals hlen eW eT eC eI
  obtain ⟨z0, z1, z2, z3, z4, z5, z6, z7, z8, z9, z10, z11, z12, z13, z14, z15⟩ := frCells HX.out
  simp only at z0 z1 z2 z3 z4 z5 z6 z7 z8 z9 z10 z11 z12 z13 z14 z15
  go_enter Tryd.func32, Tryd.ntmps32
  go_wp2_with (first
    | (go_at_call 55; (with_reducible refine (partsOf_any (Fm.mk (k : Int) stream fin eh ack prio pay flags pad depend excl weight code list last inc) k rfl _ _ _ HG.out).mono ?_); rintro e w5 ⟨rfl, hb⟩
       have hx5 := blk_below HX.out hb
       have hb5 := HB.out.trans (hb.mono HB.out.size)
       have hw5 := HW.out.below hb
       clear z0 z1 z2 z3 z4 z5 z6 z7 z8 z9 z10 z11 z12 z13 z14 z15 HX HB HW
       have HW := Lib.hid hw5
       have HX := Lib.hid hx5
       have HB := Lib.hid hb5
       obtain ⟨z0, z1, z2, z3, z4, z5, z6, z7, z8, z9, z10, z11, z12, z13, z14, z15⟩ := frCells HX.out
       simp only at z0 z1 z2 z3 z4 z5 z6 z7 z8 z9 z10 z11 z12 z13 z14 z15
       clear hb hw5 hx5 hb5)
    | (go_at_call 54; (with_reducible refine (has_any _ 32 _ _ EW.out).mono ?_); rintro e w6 ⟨rfl, rfl⟩)
    | (go_at_call 54; (with_reducible refine (has_any _ 512 _ _ ET.out).mono ?_); rintro e w6 ⟨rfl, rfl⟩)
    | (go_at_call 54; (with_reducible refine (has_any _ 1024 _ _ EC.out).mono ?_); rintro e w6 ⟨rfl, rfl⟩))
  clear z0 z1 z2 z3 z4 z5 z6 z7 z8 z9 z10 z11 z12 z13 z14 z15
  go_loopg [32] m (fun gh i w' => ∃ j : Nat, gh + j = m ∧ i = .int .i64 (j : Int) ∧ Wt (w.heap.size + 1) (w.heap.size + 1) (([] : List UInt8) ++ listB (list.take j)) w' ∧ Blk w' w.heap.size 27 (frC (Fm.mk (k : Int) stream fin eh ack prio pay flags pad depend excl weight code list last inc) (.slice A n c) (.slice B m d)) ∧ Below w.heap.size w w')
  case atStart => exact ⟨0, by omega, rfl, by have h := HW.out; simpa [listB] using h, HX.out, HB.out⟩
  case round =>
    obtain ⟨j, hj, rfl, hw, hx, hb⟩ := hrel
    clear HX HB HW
    cases gk with
    | succ g1 =>
      have hjm : j < m := by omega
      obtain ⟨⟨a, v⟩, hs⟩ : ∃ s, list[j]? = some s := ⟨_, List.getElem?_eq_getElem (by rw [Hlen.out]; exact hjm)⟩
      obtain ⟨b, o, rfl, c0, c1⟩ := rd_set (Hr.out.below hb) hs
      have hbl := World.block_lt_of_cell? _ _ c0
      have k1 : (j : Int) < (m : Int) := by omega
      have hmem := List.mem_of_getElem? hs
      obtain ⟨ha0, ha1⟩ := Hids.out _ hmem
      have hv0 := Hvals.out _ hmem
      simp only at ha0 ha1 hv0
      obtain ⟨a, rfl⟩ : ∃ an : Nat, a = (an : Int) := ⟨a.toNat, by omega⟩
      have hcat : Hid (listB (list.take (j + 1)) = listB (list.take j) ++ be a 2 ++ be v 4) := by
        show _ = _
        rw [List.take_add_one, hs]
        simp [listB]
      have hcv : IntKind.i64.wrap ((v : Nat) : Int) = ((v : Nat) : Int) := by rw [IntKind.wrap_i64]; omega
      have hlj : (list.take j).length = j := by rw [List.length_take, Hlen.out]; omega
      have Hlj := Lib.hid hlj
      have X2 : Blk (wr.alloc (.cells #[.int .i64 (a : Int), .int .u32 (v : Int)] 50)) wr.heap.size 50 [.int .i64 (a : Int), .int .u32 (v : Int)] := Blk.new wr _ _
      have q0 := X2.cell 0
      have q1 := X2.cell 1
      simp only [List.getElem?_cons_zero, List.getElem?_cons_succ] at q0 q1
      have HS := Lib.hid X2
      have hwa : Wt (w.heap.size + 1) (w.heap.size + 1) (([] : List UInt8) ++ listB (list.take j)) (wr.alloc (.cells #[.int .i64 (a : Int), .int .u32 (v : Int)] 50)) := hw.below ((Below.refl _ _).alloc (Nat.le_refl _) _)
      have hba : Below w.heap.size w (wr.alloc (.cells #[.int .i64 (a : Int), .int .u32 (v : Int)] 50)) := hb.alloc hb.size _
      have hxa := hx.alloc (.cells #[.int .i64 (a : Int), .int .u32 (v : Int)] 50)
      have hlt : wr.heap.size ≠ (w.heap.size + 1) := by
        obtain ⟨A1, c1, h1, _⟩ := hw
        have := h1.lt
        omega
      have hpp : Hid (([] : List UInt8).length ≤ 100) := by show _ ≤ _; simp
      have Hp := hpp
      have HW := Lib.hid hwa
      have HX := Lib.hid hxa
      have HB := Lib.hid hba
      clear hs hmem hw hx hb hwa hba hxa X2 hpp hlj
      go_wp2_with (first
        | (go_at_call 33; (with_reducible refine (put2s_c (v := a) HW.out (by omega) (by have := Hlj.out; simp only [List.length_append, listB_length, be_length, List.length_nil]; omega)).mono ?_); rintro e w5 ⟨rfl, hw, hb, hk⟩
           have hs5 := hk wr.heap.size _ _ HS.out hlt (by decide)
           have q0 := hs5.cell 0
           have q1 := hs5.cell 1
           simp only [List.getElem?_cons_zero, List.getElem?_cons_succ] at q0 q1
           have hx5 := HX.out.below hb (Nat.lt_succ_self _)
           have hb5 := HB.out.trans (hb.mono (Nat.le_succ _))
           clear HX HB HW HS
           have HW := Lib.hid hw
           have HX := Lib.hid hx5
           have HB := Lib.hid hb5
           clear hw hb hk hs5 hx5 hb5)
        | (go_at_call 33; (with_reducible refine (put4_c (v := v) HW.out (by omega) (by have := Hlj.out; simp only [List.length_append, listB_length, be_length, List.length_nil]; omega)).mono ?_); rintro e w5 ⟨rfl, hw, hb⟩
           have hx5 := HX.out.below hb (Nat.lt_succ_self _)
           have hb5 := HB.out.trans (hb.mono (Nat.le_succ _))
           clear HX HB HW
           have HW := Lib.hid hw
           have HX := Lib.hid hx5
           have HB := Lib.hid hb5
           clear hw hb hx5 hb5))
      go_roundg g1
      case measure => omega
      case rel =>
        refine ⟨j + 1, by omega, by go_num, ?_, HX.out, HB.out⟩
        rw [hcat.out]
        have h := HW.out
        simpa only [List.append_assoc] using h
    | zero =>
      obtain rfl : j = m := by omega
      have hall : list.take j = list := List.take_of_length_le (by rw [Hlen.out]; exact Nat.le_refl _)
      rw [hall] at hw
      have HW := Lib.hid hw
      have HX := Lib.hid hx
      have HB := Lib.hid hb
      have hpp : Hid (([] : List UInt8).length ≤ 100) := by show _ ≤ _; simp
      have hpl : (([] : List UInt8) ++ listB list).length = ([] : List UInt8).length + 6 * j := by rw [List.length_append, listB_length, Hlen.out]
      have Hpl := Lib.hid hpl
      obtain ⟨z0, z1, z2, z3, z4, z5, z6, z7, z8, z9, z10, z11, z12, z13, z14, z15⟩ := frCells hx
      simp only at z0 z1 z2 z3 z4 z5 z6 z7 z8 z9 z10 z11 z12 z13 z14 z15
      clear hw hx hb hall hpl
      obtain ⟨A9, c9, h9, o9, p9⟩ := id HW.out
      have y9 := h9.cell 0
      simp only [List.getElem?_cons_zero] at y9
      obtain ⟨ln, hln⟩ : ∃ ln, (([] : List UInt8) ++ listB list).length = ln := ⟨_, rfl⟩
      rw [hln] at y9
      have Hln := Lib.hid hln
      clear hln
      have l9 := h9.lt
      have H9 := Lib.hid h9
      have O9 := Lib.hid o9
      clear h9 o9
      go_wp2_with (first
        | (go_at_call 54; (with_reducible refine (has_any _ 2048 _ _ EI.out).mono ?_); rintro e w6 ⟨rfl, rfl⟩))
      go_ret
      exact ⟨A9, c9, congrArg (fun z => Ending.returned (Value.slice A9 z c9)) Hln.out.symm, own_low O9.out, HB.out⟩
end Go.Proofs.YtokbdkbljgdcpaaDoor

/- The contract of mustOf; what Write needs besides. -/
namespace Go.Proofs.YtokbdkbljgdcpaaDoor
open Go.RowKit Go.Own Go.Frm
set_option linter.unusedVariables false
set_option maxRecDepth 100000
theorem classes (k : Nat) (pr : Bool) (h : pr = true → hR k = true) :
    ((hW k || pr) = true ∧ hT k = false ∧ hC k = false ∧ hI k = false) ∨ ((hW k || pr) = false ∧ hT k = true ∧ hC k = false ∧ hI k = false) ∨ ((hW k || pr) = false ∧ hT k = true ∧ hC k = true ∧ hI k = false) ∨
    ((hW k || pr) = false ∧ hT k = false ∧ hC k = true ∧ hI k = false) ∨ ((hW k || pr) = false ∧ hT k = false ∧ hC k = false ∧ hI k = true) ∨ ((hW k || pr) = false ∧ hT k = false ∧ hC k = false ∧ hI k = false) := by
  rcases kinds k with rfl | rfl | rfl | rfl | rfl | rfl | rfl | rfl | rfl | rfl | hk
  all_goals first
    | (cases pr <;> simp [hW, hT, hC, hI, hR] at h ⊢; done)
    | (obtain ⟨h1, h2, h3, h4, h5, h6, h7, h8, h9, h10, h11, _⟩ := hi_letters k hk
       have hp := Parts.no h h4
       simp [h5, h6, h9, h10, hp])
theorem mustOf_c (f : Fm) (P : Parts f) (hc : okF f) (A B : Option Addr) (n c m d : Nat) {w : World} (hG : Gl w) (hrd : Rd w 2 B m (scells f.list)) (hm : m ≤ 100000000) :
    Calls Tryd.prog 32 #[frV f (.slice A n c) (.slice B m d)] w (MuP w (mustB f)) := by
  have k0 := P.k0
  have hk : f.kind = ((f.k : Nat) : Int) := by unfold Fm.k; omega
  have eW := has_prty f.k f.prio
  have eT := has_last f.k f.prio
  have eC := has_code f.k f.prio
  have eI := has_inc f.k f.prio
  have hwe := weighed_eq f P
  rcases classes f.k f.prio P.r with ⟨h1, h2, h3, h4⟩ | ⟨h1, h2, h3, h4⟩ | ⟨h1, h2, h3, h4⟩ | ⟨h1, h2, h3, h4⟩ | ⟨h1, h2, h3, h4⟩ | ⟨h1, h2, h3, h4⟩
  all_goals
    rw [h1] at eW
    rw [h2] at eT
    rw [h3] at eC
    rw [h4] at eI
    have h1' : (f.prio || hW f.k) = (hW f.k || f.prio) := Bool.or_comm _ _
    rw [h1] at h1'
  · rw [h1'] at hwe
    obtain ⟨a, b, c', d'⟩ := P.wb.resolve_left (by simp [hwe])
    have h := mustOf_1 f f.k hk A B n c m d hG hrd hm P.ids hc.2 eW eT eC eI f.depend.toNat (f.weight - 1).toNat (by omega) (by omega) (by omega) (by omega)
    have e : mustB f = be (f.depend.toNat + (bif f.excl then 2147483648 else 0)) 4 ++ be (f.weight - 1).toNat 1 ++ listB f.list := by
      unfold mustB prioB lastB codeB incB depN; rw [h1', h2, h3, h4]; simp
    rw [e]; exact h
  · have h := mustOf_2 f f.k hk A B n c m d hG hrd hm P.ids hc.2 eW eT eC eI f.last.toNat (by have := P.l0; omega) (by have := P.l1; omega)
    have e : mustB f = be f.last.toNat 4 ++ listB f.list := by
      unfold mustB prioB lastB codeB incB; rw [h1', h2, h3, h4]; simp
    rw [e]; exact h
  · have h := mustOf_3 f f.k hk A B n c m d hG hrd hm P.ids hc.2 eW eT eC eI f.last.toNat (by have := P.l0; omega) (by have := P.l1; omega) hc.1
    have e : mustB f = be f.last.toNat 4 ++ be f.code 4 ++ listB f.list := by
      unfold mustB prioB lastB codeB incB; rw [h1', h2, h3, h4]; simp
    rw [e]; exact h
  · have h := mustOf_4 f f.k hk A B n c m d hG hrd hm P.ids hc.2 eW eT eC eI hc.1
    have e : mustB f = be f.code 4 ++ listB f.list := by
      unfold mustB prioB lastB codeB incB; rw [h1', h2, h3, h4]; simp
    rw [e]; exact h
  · have hi := P.k8.resolve_left (by simp [hI_k _ h4])
    have h := mustOf_5 f f.k hk A B n c m d hG hrd hm P.ids hc.2 eW eT eC eI f.inc.toNat (by omega) (by omega)
    have hl : f.list = [] := P.l.resolve_right (fun hL => by rw [(hL_no _ hL).1] at h4; cases h4)
    have e : mustB f = [] ++ listB f.list ++ be f.inc.toNat 4 := by
      unfold mustB prioB lastB codeB incB; rw [h1', h2, h3, h4, hl]; simp [listB]
    rw [e]; exact h
  · have h := mustOf_6 f f.k hk A B n c m d hG hrd hm P.ids hc.2 eW eT eC eI
    have e : mustB f = [] ++ listB f.list := by
      unfold mustB prioB lastB codeB incB; rw [h1', h2, h3, h4]; simp
    rw [e]; exact h
theorem run_make_w {C : Nat} (hb : C ≤ 503316480) (w : World) : (Instr.makeSlice 76 (.int .i64 0) (.int .i64 (C : Int))).run Tryd.prog w = .ok (.slice (some ⟨w.heap.size, 0, none⟩) 0 C) (w.alloc (.cells (zeros zeroB C).toArray 5)) := by
  obtain ⟨ht, ⟨i, hi, hz0, hsize, hby⟩, hzs, hsz⟩ := EW
  have hr := run_make (P := Tryd.prog) w 76 5 i zeroB ht hi hz0 .i64 .i64 0 C (by omega) (by omega) (by rw [hby]; omega) (by omega)
  simp only [Int.toNat_natCast, hsize, Nat.mul_one, Int.toNat_zero] at hr
  rw [hr]
  congr 3
  apply Array.toList_inj.1
  rw [show zeroB.cells = #[zeroB] from rfl, toList_madeCells_one]
  rfl
theorem wt_new {w : World} {C : Nat} (hC : C ≤ 503316480) : Wt w.heap.size (w.heap.size + 1) [] ((w.alloc (.cells (zeros zeroB C).toArray 5)).alloc (.cells #[.slice (some ⟨w.heap.size, 0, none⟩) 0 C] 76)) := by
  refine ⟨some ⟨w.heap.size, 0, none⟩, C, blk_new2 w _ 76 [.slice (some ⟨w.heap.size, 0, none⟩) 0 C], ⟨rfl, .inr ⟨w.heap.size, C, _, rfl, Nat.le_refl _, blk_new1 w _ 5 (zeros zeroB C), Nat.zero_le _, by unfold maxLen; omega, by simp [zeros], by simp⟩⟩, by omega⟩
/-- behind an append, and a store into the box -/
theorem wt_put {w w6 : World} {base p k m c c6 : Nat} {A A6 : Option Addr} {xs ys : List UInt8} (hb : Blk w p 76 [.slice A k c]) (ho : w.ownsRow base 5 1 (.slice A k c) k (xs.map BV)) (hp : base ≤ p) (hbs : base ≤ w.heap.size)
    (h6 : w6.ownsRow base 5 1 (.slice A6 (k + m) c6) (k + m) (xs.map BV ++ ys.map BV)) (hf : Fr (fun i => some i = (Value.slice A k c).ownBlock) w w6) :
    Blk w6 p 76 [.slice A k c] ∧ Blk (w6.setCell ⟨p, 0, none⟩ (.slice A6 (k + m) c6)) p 76 [.slice A6 (k + m) c6] ∧ (w6.setCell ⟨p, 0, none⟩ (.slice A6 (k + m) c6)).ownsRow base 5 1 (.slice A6 (k + m) c6) (k + m) ((xs ++ ys).map BV) ∧ Below base w w6 ∧ Below base w (w6.setCell ⟨p, 0, none⟩ (.slice A6 (k + m) c6)) := by
  have hne : (Value.slice A k c).ownBlock ≠ some p := own_ne_blk ho hb (by decide)
  have hx6 := hb.fr hf (fun e => hne e.symm)
  have hne6 : (Value.slice A6 (k + m) c6).ownBlock ≠ some p := own_ne_blk h6 hx6 (by decide)
  have hf6 : Fr (fun i => i = p) w6 (w6.setCell ⟨p, 0, none⟩ (.slice A6 (k + m) c6)) := Fr.setCell (S := fun i => i = p) (Fr.refl _ _) (p := ⟨p, 0, none⟩) (.inl rfl) _
  have hb6 := hf.below hbs (fun i _ hi => (ho.lt i hi.symm).1)
  exact ⟨hx6, hx6.set_ 0 _, by rw [List.map_append]; exact own_fr h6 hf6 (fun g hg e => hne6 (by rw [hg, e])), hb6, hb6.setCell hp _⟩
theorem wt_some {w : World} {base n c : Nat} {A : Option Addr} {xs : List Value} (ho : w.ownsRow base 5 1 (.slice A n c) n xs) (hn : 0 < n) : ∃ g, A = some ⟨g, 0, none⟩ := by
  rcases ho.2 with ⟨h, _⟩ | ⟨g, cap, cur, h, _⟩
  · injection h with _ h2 _
    omega
  · injection h with h1 _ _
    exact ⟨g, h1⟩
theorem zeros_map (m : Nat) : (List.replicate m (0 : UInt8)).map BV = List.replicate m zeroB := by simp [BV, zeroB]
theorem wpList_append_zeros {w : World} {ops : Array Oper} {rest : List Oper} {o : Oper} {a : Act} {Q : Exit → Act → World → Prop} (hgd : o.guard = none) (s x : Operand)
    (ho : o.op = .call { callee := .builtin .append, args := #[s, x], argTypes := #[76, 3] }) {base : Nat}
    (g n cap : Nat) (xs : List Value) (hs : a.eval s = .slice (some ⟨g, 0, none⟩) n cap) (hown : w.ownsRow base 5 1 (.slice (some ⟨g, 0, none⟩) n cap) n xs) (m : Nat) (hx : a.eval x = .int .i64 (m : Int))
    (hb : n + m ≤ 1073741824) (hbase : base ≤ w.heap.size)
    (h : ∀ A' c' w', w'.ownsRow base 5 1 (.slice A' (n + m) c') (n + m) (xs ++ List.replicate m zeroB) → Fr (fun i => i = g) w w' → wpList Tryd.prog ops Q rest (a.put o.dst (.slice A' (n + m) c')) w') : wpList Tryd.prog ops Q (o :: rest) a w :=
  wpList_plain hgd fun _ hK => by
    obtain ⟨v', w', hrun, h2, h3, h4⟩ := run_append_own_zeros (ty := o.type) (kq := .i64) EW Tryd.underlying3 rfl rfl hown m (by omega) (by unfold maxLen; omega) hbase
    obtain ⟨A', c', rfl, _⟩ := own_shape h2
    unfold Oper.wp execOp
    simp only [ho, resolve, invoke, builtin, Sem.run_bind, Sem.run_pure, Result.andThen_ok, List.map_toArray, List.map_cons, List.map_nil, hs, hx, hrun]
    exact hK _ _ (h A' c' w' h2 h3)
end Go.Proofs.YtokbdkbljgdcpaaDoor

/- The contract of mayBe: way 1. -/
namespace Go.Proofs.YtokbdkbljgdcpaaDoor
open Go.RowKit Go.Own Go.Frm
set_option linter.unusedVariables false
set_option maxRecDepth 100000
set_option maxHeartbeats 4000000 in
theorem mayBe_1 (f : Fm) (A B : Option Addr) (n c m d : Nat) {w : World} (hG : Gl w) (e1 : (decide (0 ≤ f.kind) && decide (f.kind ≤ 255)) = false) :
    Calls Tryd.prog 31 #[frV f (.slice A n c) (.slice B m d)] w fun e w' => e = .returned (.bool (false)) ∧ Below w.heap.size w w' := by
  obtain ⟨kind, stream, fin, eh, ack, prio, pay, flags, pad, depend, excl, weight, code, list, last, inc⟩ := f
  simp only at *
  have G0d : Hid (Gl (w.alloc (.cells #[(.int .i64 kind), (.int .i64 stream), (.bool fin), (.bool eh), (.bool ack), (.bool prio), (.slice A n c), (.int .i64 flags), (.int .i64 pad), (.int .i64 depend), (.bool excl), (.int .i64 weight), (.int .u32 (code : Int)), (.slice B m d), (.int .i64 last), (.int .i64 inc)] 27)).drew) := (hG.alloc _).drew
  have X0 := Lib.hid (Blk.new w 27 (frC (Fm.mk kind stream fin eh ack prio pay flags pad depend excl weight code list last inc) (.slice A n c) (.slice B m d)))
  have J := frCells X0.out
  simp only at J
  have X0d : Hid (Blk (w.alloc (.cells #[(.int .i64 kind), (.int .i64 stream), (.bool fin), (.bool eh), (.bool ack), (.bool prio), (.slice A n c), (.int .i64 flags), (.int .i64 pad), (.int .i64 depend), (.bool excl), (.int .i64 weight), (.int .u32 (code : Int)), (.slice B m d), (.int .i64 last), (.int .i64 inc)] 27)).drew w.heap.size 27 (frC (Fm.mk kind stream fin eh ack prio pay flags pad depend excl weight code list last inc) (.slice A n c) (.slice B m d))) := X0
  have B0d : Hid (Below w.heap.size w (w.alloc (.cells #[(.int .i64 kind), (.int .i64 stream), (.bool fin), (.bool eh), (.bool ack), (.bool prio), (.slice A n c), (.int .i64 flags), (.int .i64 pad), (.int .i64 depend), (.bool excl), (.int .i64 weight), (.int .u32 (code : Int)), (.slice B m d), (.int .i64 last), (.int .i64 inc)] 27)).drew) := below_drewN ((Below.refl _ _).alloc (Nat.le_refl _) _) 1
  have HE1 := Lib.hid e1
  have Jd := Lib.hid J
  have sf := shf0
  clear hG J e1
  go_enter Tryd.func31, Tryd.ntmps31
  go_wp2
  refine wp_region_held_drew (S := (fun w' => w'.cell? ⟨w.heap.size, 0, none⟩ = some (.int .i64 kind) ∧ w'.cell? ⟨w.heap.size, 1, none⟩ = some (.int .i64 stream))) (by kernel_rfl) ?_ (fun hHeld => ?_)
  · exact ⟨Jd.out.1, Jd.out.2.1⟩
  refine wpAnyH_take (i := 0) (oi := { dst := some 3, op := Op.fieldAddr 27 (Operand.tmp 1) 0, type := 0, pos := "write.go:88", after := #[], guard := none }) (v := ?_) rfl (by kernel_rfl) (by kernel_rfl) (by kernel_rfl) (fun _ _ _ h => h) (Or.inl ⟨by kernel_rfl, ?_⟩) hHeld ?_
  rotate_left
  · intro w hSw; (try dsimp only at hSw); go_simp; try with_reducible rfl
  simp only [Act.put, List.setIfInBounds_toArray, List.set_cons_zero, List.set_cons_succ]
  refine wpAnyH_take (i := 1) (oi := { dst := some 4, op := Op.load 3 (Operand.tmp 3), type := 3, pos := "write.go:88", after := #[{ on := 0, ground := Ground.data }], guard := none }) (v := ?_) rfl (by kernel_rfl) (by kernel_rfl) (by kernel_rfl) (fun _ _ _ h => h) (Or.inl ⟨by kernel_rfl, ?_⟩) hHeld ?_
  rotate_left
  · intro w hSw; (try dsimp only at hSw); go_simp; try with_reducible rfl
  simp only [Act.put, List.setIfInBounds_toArray, List.set_cons_zero, List.set_cons_succ]
  refine wpAnyH_ready (rs := [2]) (by kernel_rfl) (by simp) ?_
  refine AllReadyH.cons rfl (fun K hK => ?_) AllReadyH.nil
  go_simp
  go_wp2_with (first
    | (go_at_call 50; (with_reducible refine (isIn_is kind 0 255 _ HE1.out _).mono ?_); rintro e w' ⟨rfl, rfl⟩))
  refine hK.out _ _ ?_ (fun hHeld2 => ?_)
  · exact ⟨Jd.out.1, Jd.out.2.1⟩
  clear hK K hHeld
  rename _ => hHeld
  refine wpAnyH_take (i := 3) (oi := { dst := some 6, op := Op.move (Operand.tmp 5), type := 4, pos := "write.go:88", after := #[{ on := 2, ground := Ground.data }, { on := 2, ground := Ground.chain }], guard := none }) (v := ?_) rfl (by kernel_rfl) (by kernel_rfl) (by kernel_rfl) (fun _ _ _ h => h) (Or.inl ⟨by kernel_rfl, ?_⟩) hHeld ?_
  rotate_left
  · intro w hSw; (try dsimp only at hSw); go_simp; try with_reducible rfl
  simp only [Act.put, List.setIfInBounds_toArray, List.set_cons_zero, List.set_cons_succ]
  refine wpAnyH_take (i := 4) (oi := { dst := some 7, op := Op.fieldAddr 27 (Operand.tmp 1) 1, type := 0, pos := "write.go:88", after := #[{ on := 3, ground := Ground.guard }], guard := some (3, true) }) (v := undef) rfl (by kernel_rfl) (by kernel_rfl) (by kernel_rfl) (fun _ _ _ h => h) (Or.inr ⟨by kernel_rfl, rfl⟩) hHeld ?_
  simp only [Act.put, List.setIfInBounds_toArray, List.set_cons_zero, List.set_cons_succ]
  refine wpAnyH_take (i := 5) (oi := { dst := some 8, op := Op.load 3 (Operand.tmp 7), type := 3, pos := "write.go:88", after := #[{ on := 4, ground := Ground.data }, { on := 3, ground := Ground.guard }], guard := some (3, true) }) (v := undef) rfl (by kernel_rfl) (by kernel_rfl) (by kernel_rfl) (fun _ _ _ h => h) (Or.inr ⟨by kernel_rfl, rfl⟩) hHeld ?_
  simp only [Act.put, List.setIfInBounds_toArray, List.set_cons_zero, List.set_cons_succ]
  refine wpAnyH_take (i := 6) (oi := { dst := some 9, op := Op.call { callee := Callee.value (Operand.func 50), args := #[Operand.tmp 8, Operand.const (Value.int IntKind.i64 0), Operand.const (Value.int IntKind.i64 2147483647)], argTypes := #[3, 3, 3] }, type := 4, pos := "write.go:89", after := #[{ on := 5, ground := Ground.data }, { on := 3, ground := Ground.chain }, { on := 3, ground := Ground.guard }], guard := some (3, true) }) (v := undef) rfl (by kernel_rfl) (by kernel_rfl) (by kernel_rfl) (fun _ _ _ h => h) (Or.inr ⟨by kernel_rfl, rfl⟩) hHeld ?_
  simp only [Act.put, List.setIfInBounds_toArray, List.set_cons_zero, List.set_cons_succ]
  refine wpAnyH_take (i := 7) (oi := { dst := some 10, op := Op.pick (Operand.tmp 6) (Operand.tmp 9) (Operand.const (Value.bool false)), type := 4, pos := "write.go:88", after := #[{ on := 3, ground := Ground.data }, { on := 6, ground := Ground.data }], guard := none }) (v := ?_) rfl (by kernel_rfl) (by kernel_rfl) (by kernel_rfl) (fun _ _ _ h => h) (Or.inl ⟨by kernel_rfl, ?_⟩) hHeld ?_
  rotate_left
  · intro w hSw; (try dsimp only at hSw); go_simp; try with_reducible rfl
  simp only [Act.put, List.setIfInBounds_toArray, List.set_cons_zero, List.set_cons_succ]
  refine wpAnyH_take (i := 8) (oi := { dst := some 11, op := Op.move (Operand.tmp 10), type := 4, pos := "write.go:88", after := #[{ on := 7, ground := Ground.data }, { on := 6, ground := Ground.chain }], guard := none }) (v := ?_) rfl (by kernel_rfl) (by kernel_rfl) (by kernel_rfl) (fun _ _ _ h => h) (Or.inl ⟨by kernel_rfl, ?_⟩) hHeld ?_
  rotate_left
  · intro w hSw; (try dsimp only at hSw); go_simp; try with_reducible rfl
  simp only [Act.put, List.setIfInBounds_toArray, List.set_cons_zero, List.set_cons_succ]
  refine wpAnyH_take (i := 9) (oi := { dst := some 12, op := Op.fieldAddr 27 (Operand.tmp 1) 0, type := 0, pos := "write.go:88", after := #[{ on := 8, ground := Ground.guard }], guard := some (8, true) }) (v := undef) rfl (by kernel_rfl) (by kernel_rfl) (by kernel_rfl) (fun _ _ _ h => h) (Or.inr ⟨by kernel_rfl, rfl⟩) hHeld ?_
  simp only [Act.put, List.setIfInBounds_toArray, List.set_cons_zero, List.set_cons_succ]
  refine wpAnyH_take (i := 10) (oi := { dst := some 13, op := Op.load 3 (Operand.tmp 12), type := 3, pos := "write.go:88", after := #[{ on := 9, ground := Ground.data }, { on := 8, ground := Ground.guard }], guard := some (8, true) }) (v := undef) rfl (by kernel_rfl) (by kernel_rfl) (by kernel_rfl) (fun _ _ _ h => h) (Or.inr ⟨by kernel_rfl, rfl⟩) hHeld ?_
  simp only [Act.put, List.setIfInBounds_toArray, List.set_cons_zero, List.set_cons_succ]
  refine wpAnyH_take (i := 11) (oi := { dst := some 14, op := Op.call { callee := Callee.value (Operand.func 51), args := #[Operand.tmp 13], argTypes := #[3] }, type := 104, pos := "write.go:90", after := #[{ on := 10, ground := Ground.data }, { on := 8, ground := Ground.chain }, { on := 8, ground := Ground.guard }], guard := some (8, true) }) (v := undef) rfl (by kernel_rfl) (by kernel_rfl) (by kernel_rfl) (fun _ _ _ h => h) (Or.inr ⟨by kernel_rfl, rfl⟩) hHeld ?_
  simp only [Act.put, List.setIfInBounds_toArray, List.set_cons_zero, List.set_cons_succ]
  refine wpAnyH_take (i := 12) (oi := { dst := some 15, op := Op.field 104 (Operand.tmp 14) 0, type := 102, pos := "write.go:88", after := #[{ on := 11, ground := Ground.data }, { on := 8, ground := Ground.guard }], guard := some (8, true) }) (v := undef) rfl (by kernel_rfl) (by kernel_rfl) (by kernel_rfl) (fun _ _ _ h => h) (Or.inr ⟨by kernel_rfl, rfl⟩) hHeld ?_
  simp only [Act.put, List.setIfInBounds_toArray, List.set_cons_zero, List.set_cons_succ]
  refine wpAnyH_take (i := 13) (oi := { dst := some 16, op := Op.fieldAddr 27 (Operand.tmp 1) 1, type := 0, pos := "write.go:88", after := #[{ on := 8, ground := Ground.guard }], guard := some (8, true) }) (v := undef) rfl (by kernel_rfl) (by kernel_rfl) (by kernel_rfl) (fun _ _ _ h => h) (Or.inr ⟨by kernel_rfl, rfl⟩) hHeld ?_
  simp only [Act.put, List.setIfInBounds_toArray, List.set_cons_zero, List.set_cons_succ]
  refine wpAnyH_take (i := 14) (oi := { dst := some 17, op := Op.load 3 (Operand.tmp 16), type := 3, pos := "write.go:88", after := #[{ on := 13, ground := Ground.data }, { on := 8, ground := Ground.guard }], guard := some (8, true) }) (v := undef) rfl (by kernel_rfl) (by kernel_rfl) (by kernel_rfl) (fun _ _ _ h => h) (Or.inr ⟨by kernel_rfl, rfl⟩) hHeld ?_
  simp only [Act.put, List.setIfInBounds_toArray, List.set_cons_zero, List.set_cons_succ]
  refine wpAnyH_take (i := 15) (oi := { dst := some 18, op := Op.call { callee := Callee.value (Operand.func 52), args := #[Operand.tmp 15, Operand.tmp 17], argTypes := #[102, 3] }, type := 4, pos := "write.go:90", after := #[{ on := 12, ground := Ground.data }, { on := 14, ground := Ground.data }, { on := 11, ground := Ground.chain }, { on := 8, ground := Ground.guard }], guard := some (8, true) }) (v := undef) rfl (by kernel_rfl) (by kernel_rfl) (by kernel_rfl) (fun _ _ _ h => h) (Or.inr ⟨by kernel_rfl, rfl⟩) hHeld ?_
  simp only [Act.put, List.setIfInBounds_toArray, List.set_cons_zero, List.set_cons_succ]
  refine wpAnyH_take (i := 16) (oi := { dst := some 19, op := Op.pick (Operand.tmp 11) (Operand.tmp 18) (Operand.const (Value.bool false)), type := 4, pos := "write.go:88", after := #[{ on := 8, ground := Ground.data }, { on := 15, ground := Ground.data }], guard := none }) (v := ?_) rfl (by kernel_rfl) (by kernel_rfl) (by kernel_rfl) (fun _ _ _ h => h) (Or.inl ⟨by kernel_rfl, ?_⟩) hHeld ?_
  rotate_left
  · intro w hSw; (try dsimp only at hSw); go_simp; try with_reducible rfl
  simp only [Act.put, List.setIfInBounds_toArray, List.set_cons_zero, List.set_cons_succ]
  refine wpAnyH_take (i := 17) (oi := { dst := some 20, op := Op.move (Operand.tmp 19), type := 4, pos := "write.go:88", after := #[{ on := 16, ground := Ground.data }, { on := 15, ground := Ground.chain }], guard := none }) (v := ?_) rfl (by kernel_rfl) (by kernel_rfl) (by kernel_rfl) (fun _ _ _ h => h) (Or.inl ⟨by kernel_rfl, ?_⟩) hHeld ?_
  rotate_left
  · intro w hSw; (try dsimp only at hSw); go_simp; try with_reducible rfl
  simp only [Act.put, List.setIfInBounds_toArray, List.set_cons_zero, List.set_cons_succ]
  refine wpAnyH_take (i := 18) (oi := { dst := some 21, op := Op.load 27 (Operand.tmp 1), type := 27, pos := "write.go:88", after := #[{ on := 17, ground := Ground.guard }], guard := some (17, true) }) (v := undef) rfl (by kernel_rfl) (by kernel_rfl) (by kernel_rfl) (fun _ _ _ h => h) (Or.inr ⟨by kernel_rfl, rfl⟩) hHeld ?_
  simp only [Act.put, List.setIfInBounds_toArray, List.set_cons_zero, List.set_cons_succ]
  refine wpAnyH_take (i := 19) (oi := { dst := some 22, op := Op.call { callee := Callee.value (Operand.func 53), args := #[Operand.tmp 21], argTypes := #[27] }, type := 83, pos := "write.go:91", after := #[{ on := 18, ground := Ground.data }, { on := 17, ground := Ground.chain }, { on := 17, ground := Ground.guard }], guard := some (17, true) }) (v := undef) rfl (by kernel_rfl) (by kernel_rfl) (by kernel_rfl) (fun _ _ _ h => h) (Or.inr ⟨by kernel_rfl, rfl⟩) hHeld ?_
  simp only [Act.put, List.setIfInBounds_toArray, List.set_cons_zero, List.set_cons_succ]
  refine wpAnyH_take (i := 20) (oi := { dst := some 23, op := Op.load 27 (Operand.tmp 1), type := 27, pos := "write.go:88", after := #[{ on := 17, ground := Ground.guard }], guard := some (17, true) }) (v := undef) rfl (by kernel_rfl) (by kernel_rfl) (by kernel_rfl) (fun _ _ _ h => h) (Or.inr ⟨by kernel_rfl, rfl⟩) hHeld ?_
  simp only [Act.put, List.setIfInBounds_toArray, List.set_cons_zero, List.set_cons_succ]
  refine wpAnyH_take (i := 21) (oi := { dst := some 24, op := Op.call { callee := Callee.value (Operand.func 55), args := #[Operand.tmp 23], argTypes := #[27] }, type := 83, pos := "write.go:91", after := #[{ on := 20, ground := Ground.data }, { on := 19, ground := Ground.chain }, { on := 17, ground := Ground.guard }], guard := some (17, true) }) (v := undef) rfl (by kernel_rfl) (by kernel_rfl) (by kernel_rfl) (fun _ _ _ h => h) (Or.inr ⟨by kernel_rfl, rfl⟩) hHeld ?_
  simp only [Act.put, List.setIfInBounds_toArray, List.set_cons_zero, List.set_cons_succ]
  refine wpAnyH_take (i := 22) (oi := { dst := some 25, op := Op.unOp UnOp.xor 83 (Operand.tmp 24), type := 83, pos := "write.go:88", after := #[{ on := 21, ground := Ground.data }, { on := 17, ground := Ground.guard }], guard := some (17, true) }) (v := undef) rfl (by kernel_rfl) (by kernel_rfl) (by kernel_rfl) (fun _ _ _ h => h) (Or.inr ⟨by kernel_rfl, rfl⟩) hHeld ?_
  simp only [Act.put, List.setIfInBounds_toArray, List.set_cons_zero, List.set_cons_succ]
  refine wpAnyH_take (i := 23) (oi := { dst := some 26, op := Op.call { callee := Callee.value (Operand.func 54), args := #[Operand.tmp 22, Operand.tmp 25], argTypes := #[83, 83] }, type := 4, pos := "write.go:91", after := #[{ on := 19, ground := Ground.data }, { on := 22, ground := Ground.data }, { on := 21, ground := Ground.chain }, { on := 17, ground := Ground.guard }], guard := some (17, true) }) (v := undef) rfl (by kernel_rfl) (by kernel_rfl) (by kernel_rfl) (fun _ _ _ h => h) (Or.inr ⟨by kernel_rfl, rfl⟩) hHeld ?_
  simp only [Act.put, List.setIfInBounds_toArray, List.set_cons_zero, List.set_cons_succ]
  refine wpAnyH_take (i := 24) (oi := { dst := some 27, op := Op.unOp UnOp.not 4 (Operand.tmp 26), type := 4, pos := "write.go:88", after := #[{ on := 23, ground := Ground.data }, { on := 17, ground := Ground.guard }], guard := some (17, true) }) (v := undef) rfl (by kernel_rfl) (by kernel_rfl) (by kernel_rfl) (fun _ _ _ h => h) (Or.inr ⟨by kernel_rfl, rfl⟩) hHeld ?_
  simp only [Act.put, List.setIfInBounds_toArray, List.set_cons_zero, List.set_cons_succ]
  refine wpAnyH_take (i := 25) (oi := { dst := some 28, op := Op.pick (Operand.tmp 20) (Operand.tmp 27) (Operand.const (Value.bool false)), type := 4, pos := "write.go:88", after := #[{ on := 17, ground := Ground.data }, { on := 24, ground := Ground.data }], guard := none }) (v := ?_) rfl (by kernel_rfl) (by kernel_rfl) (by kernel_rfl) (fun _ _ _ h => h) (Or.inl ⟨by kernel_rfl, ?_⟩) hHeld ?_
  rotate_left
  · intro w hSw; (try dsimp only at hSw); go_simp; try with_reducible rfl
  simp only [Act.put, List.setIfInBounds_toArray, List.set_cons_zero, List.set_cons_succ]
  refine wpAnyH_take (i := 26) (oi := { dst := some 29, op := Op.move (Operand.tmp 28), type := 4, pos := "write.go:88", after := #[{ on := 25, ground := Ground.data }, { on := 23, ground := Ground.chain }], guard := none }) (v := ?_) rfl (by kernel_rfl) (by kernel_rfl) (by kernel_rfl) (fun _ _ _ h => h) (Or.inl ⟨by kernel_rfl, ?_⟩) hHeld ?_
  rotate_left
  · intro w hSw; (try dsimp only at hSw); go_simp; try with_reducible rfl
  simp only [Act.put, List.setIfInBounds_toArray, List.set_cons_zero, List.set_cons_succ]
  refine wpAnyH_take (i := 27) (oi := { dst := some 30, op := Op.load 27 (Operand.tmp 1), type := 27, pos := "write.go:88", after := #[{ on := 26, ground := Ground.guard }], guard := some (26, true) }) (v := undef) rfl (by kernel_rfl) (by kernel_rfl) (by kernel_rfl) (fun _ _ _ h => h) (Or.inr ⟨by kernel_rfl, rfl⟩) hHeld ?_
  simp only [Act.put, List.setIfInBounds_toArray, List.set_cons_zero, List.set_cons_succ]
  refine wpAnyH_take (i := 28) (oi := { dst := some 31, op := Op.call { callee := Callee.value (Operand.func 56), args := #[Operand.tmp 30], argTypes := #[27] }, type := 4, pos := "write.go:92", after := #[{ on := 27, ground := Ground.data }, { on := 26, ground := Ground.chain }, { on := 26, ground := Ground.guard }], guard := some (26, true) }) (v := undef) rfl (by kernel_rfl) (by kernel_rfl) (by kernel_rfl) (fun _ _ _ h => h) (Or.inr ⟨by kernel_rfl, rfl⟩) hHeld ?_
  simp only [Act.put, List.setIfInBounds_toArray, List.set_cons_zero, List.set_cons_succ]
  refine wpAnyH_take (i := 29) (oi := { dst := some 32, op := Op.pick (Operand.tmp 29) (Operand.tmp 31) (Operand.const (Value.bool false)), type := 4, pos := "write.go:88", after := #[{ on := 26, ground := Ground.data }, { on := 28, ground := Ground.data }], guard := none }) (v := ?_) rfl (by kernel_rfl) (by kernel_rfl) (by kernel_rfl) (fun _ _ _ h => h) (Or.inl ⟨by kernel_rfl, ?_⟩) hHeld ?_
  rotate_left
  · intro w hSw; (try dsimp only at hSw); go_simp; try with_reducible rfl
  simp only [Act.put, List.setIfInBounds_toArray, List.set_cons_zero, List.set_cons_succ]
  refine wpAnyH_take (i := 30) (oi := { dst := some 2, op := Op.assign (Operand.tmp 32), type := 4, pos := "write.go:88", after := #[{ on := 29, ground := Ground.data }, { on := 28, ground := Ground.chain }, { on := 0, ground := Ground.phase }, { on := 1, ground := Ground.phase }, { on := 2, ground := Ground.phase }, { on := 3, ground := Ground.phase }, { on := 4, ground := Ground.phase }, { on := 5, ground := Ground.phase }, { on := 6, ground := Ground.phase }, { on := 7, ground := Ground.phase }, { on := 8, ground := Ground.phase }, { on := 9, ground := Ground.phase }, { on := 10, ground := Ground.phase }, { on := 11, ground := Ground.phase }, { on := 12, ground := Ground.phase }, { on := 13, ground := Ground.phase }, { on := 14, ground := Ground.phase }, { on := 15, ground := Ground.phase }, { on := 16, ground := Ground.phase }, { on := 17, ground := Ground.phase }, { on := 18, ground := Ground.phase }, { on := 19, ground := Ground.phase }, { on := 20, ground := Ground.phase }, { on := 21, ground := Ground.phase }, { on := 22, ground := Ground.phase }, { on := 23, ground := Ground.phase }, { on := 24, ground := Ground.phase }, { on := 25, ground := Ground.phase }, { on := 26, ground := Ground.phase }, { on := 27, ground := Ground.phase }, { on := 28, ground := Ground.phase }, { on := 29, ground := Ground.phase }], guard := none }) (v := ?_) rfl (by kernel_rfl) (by kernel_rfl) (by kernel_rfl) (fun _ _ _ h => h) (Or.inl ⟨by kernel_rfl, ?_⟩) hHeld ?_
  rotate_left
  · intro w hSw; (try dsimp only at hSw); go_simp; try with_reducible rfl
  simp only [Act.put, List.setIfInBounds_toArray, List.set_cons_zero, List.set_cons_succ]
  refine wpAnyH_done (by kernel_rfl) ?_ _
  go_wp2
  go_ret
  exact ⟨rfl, B0d.out⟩
end Go.Proofs.YtokbdkbljgdcpaaDoor
