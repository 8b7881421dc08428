/- Several texts in one: Wo3. -/
import Derived.Test.YtokbdkbljgdcpaaDoorY12
import Derived.Deep.LoopGhost
/- The contract of mustOf: class 3. -/
namespace Go.Proofs.YtokbdkbljgdcpaaDoor
open Go.RowKit Go.Own Go.Frm
set_option linter.unusedVariables false
set_option maxRecDepth 100000
set_option maxHeartbeats 4000000 in
theorem mustOf_3 (f : Fm) (k : Nat) (hk : f.kind = (k : Int)) (A B : Option Addr) (n c m d : Nat) {w : World} (hG : Gl w) (hrd : Rd w 2 B m (scells f.list)) (hm : m ≤ 100000000) (hids : ∀ s ∈ f.list, 0 ≤ s.1 ∧ s.1 ≤ 65535) (hvals : ∀ s ∈ f.list, s.2 < 4294967296)
   (eW : (bits .and .i64 ((partN k f.prio : Nat) : Int) 32 != 0) = false) (eT : (bits .and .i64 ((partN k f.prio : Nat) : Int) 512 != 0) = true) (eC : (bits .and .i64 ((partN k f.prio : Nat) : Int) 1024 != 0) = true) (eI : (bits .and .i64 ((partN k f.prio : Nat) : Int) 2048 != 0) = false) (la : Nat) (hla : f.last = (la : Int)) (hla2 : la < 2147483648) (hco : f.code < 4294967296) :
    Calls Tryd.prog 32 #[frV f (.slice A n c) (.slice B m d)] w (MuP w ((be la 4 ++ be f.code 4) ++ listB f.list)) := by
  obtain ⟨kind, stream, fin, eh, ack, prio, pay, flags, pad, depend, excl, weight, code, list, last, inc⟩ := f
  simp only at *
  subst hk
  subst hla
  have hcc : IntKind.i64.wrap ((code : Nat) : Int) = ((code : Nat) : Int) := by rw [IntKind.wrap_i64]; omega
  have HG := Lib.hid (show Gl ((w.alloc (.cells #[(.int .i64 (k : Int)), (.int .i64 stream), (.bool fin), (.bool eh), (.bool ack), (.bool prio), (.slice A n c), (.int .i64 flags), (.int .i64 pad), (.int .i64 depend), (.bool excl), (.int .i64 weight), (.int .u32 (code : Int)), (.slice B m d), (.int .i64 (la : Int)), (.int .i64 inc)] 27)).alloc (.cells #[.slice none 0 0] 76)) from (hG.alloc _).alloc _)
  have HX := Lib.hid (blk_new1 w (.cells #[.slice none 0 0] 76) 27 (frC (Fm.mk (k : Int) stream fin eh ack prio pay flags pad depend excl weight code list (la : Int) inc) (.slice A n c) (.slice B m d)))
  have HW : Hid (Wt (w.heap.size + 1) (w.heap.size + 1) [] ((w.alloc (.cells #[(.int .i64 (k : Int)), (.int .i64 stream), (.bool fin), (.bool eh), (.bool ack), (.bool prio), (.slice A n c), (.int .i64 flags), (.int .i64 pad), (.int .i64 depend), (.bool excl), (.int .i64 weight), (.int .u32 (code : Int)), (.slice B m d), (.int .i64 (la : Int)), (.int .i64 inc)] 27)).alloc (.cells #[.slice none 0 0] 76))) := ⟨none, 0, blk_new2 w _ 76 [.slice none 0 0], World.ownsRow_nil _ _ _ _, Nat.le_refl _⟩
  have HB : Hid (Below w.heap.size w ((w.alloc (.cells #[(.int .i64 (k : Int)), (.int .i64 stream), (.bool fin), (.bool eh), (.bool ack), (.bool prio), (.slice A n c), (.int .i64 flags), (.int .i64 pad), (.int .i64 depend), (.bool excl), (.int .i64 weight), (.int .u32 (code : Int)), (.slice B m d), (.int .i64 (la : Int)), (.int .i64 inc)] 27)).alloc (.cells #[.slice none 0 0] 76))) := ((Below.refl _ _).alloc (Nat.le_refl _) _).alloc (by simp) _
  have Hr := Lib.hid hrd
  have Hids := Lib.hid hids
  have Hvals := Lib.hid hvals
  have hlen := rd_set_len hrd
  have Hlen := Lib.hid hlen
  have EW := Lib.hid eW
  have ET := Lib.hid eT
  have EC := Lib.hid eC
  have EI := Lib.hid eI
  clear hG hrd hids hvals hlen eW eT eC eI
  obtain ⟨z0, z1, z2, z3, z4, z5, z6, z7, z8, z9, z10, z11, z12, z13, z14, z15⟩ := frCells HX.out
  simp only at z0 z1 z2 z3 z4 z5 z6 z7 z8 z9 z10 z11 z12 z13 z14 z15
  go_enter Tryd.func32, Tryd.ntmps32
  go_wp2_with (first
    | (go_at_call 55; (with_reducible refine (partsOf_any (Fm.mk (k : Int) stream fin eh ack prio pay flags pad depend excl weight code list (la : Int) inc) k rfl _ _ _ HG.out).mono ?_); rintro e w5 ⟨rfl, hb⟩
       have hx5 := blk_below HX.out hb
       have hb5 := HB.out.trans (hb.mono HB.out.size)
       have hw5 := HW.out.below hb
       clear z0 z1 z2 z3 z4 z5 z6 z7 z8 z9 z10 z11 z12 z13 z14 z15 HX HB HW
       have HW := Lib.hid hw5
       have HX := Lib.hid hx5
       have HB := Lib.hid hb5
       obtain ⟨z0, z1, z2, z3, z4, z5, z6, z7, z8, z9, z10, z11, z12, z13, z14, z15⟩ := frCells HX.out
       simp only at z0 z1 z2 z3 z4 z5 z6 z7 z8 z9 z10 z11 z12 z13 z14 z15
       clear hb hw5 hx5 hb5)
    | (go_at_call 54; (with_reducible refine (has_any _ 32 _ _ EW.out).mono ?_); rintro e w6 ⟨rfl, rfl⟩)
    | (go_at_call 54; (with_reducible refine (has_any _ 512 _ _ ET.out).mono ?_); rintro e w6 ⟨rfl, rfl⟩)
    | (go_at_call 54; (with_reducible refine (has_any _ 1024 _ _ EC.out).mono ?_); rintro e w6 ⟨rfl, rfl⟩)
    | (go_at_call 33; (with_reducible refine (put4_c (v := la) HW.out (by omega) (by first | simp [be_length] | (simp only [List.length_append, be_length, listB_length]; omega))).mono ?_); rintro e w5 ⟨rfl, hw, hb⟩
       (try rw [List.nil_append] at hw)
       have hx5 := HX.out.below hb (Nat.lt_succ_self _)
       have hb5 := HB.out.trans (hb.mono (Nat.le_succ _))
       clear z0 z1 z2 z3 z4 z5 z6 z7 z8 z9 z10 z11 z12 z13 z14 z15 HX HB HW
       have HW := Lib.hid hw
       have HX := Lib.hid hx5
       have HB := Lib.hid hb5
       obtain ⟨z0, z1, z2, z3, z4, z5, z6, z7, z8, z9, z10, z11, z12, z13, z14, z15⟩ := frCells HX.out
       simp only at z0 z1 z2 z3 z4 z5 z6 z7 z8 z9 z10 z11 z12 z13 z14 z15
       clear hw hb hx5 hb5)
    | (go_at_call 33; (with_reducible refine (put4_c (v := code) HW.out (by omega) (by first | simp [be_length] | (simp only [List.length_append, be_length, listB_length]; omega))).mono ?_); rintro e w5 ⟨rfl, hw, hb⟩
       (try rw [List.nil_append] at hw)
       have hx5 := HX.out.below hb (Nat.lt_succ_self _)
       have hb5 := HB.out.trans (hb.mono (Nat.le_succ _))
       clear z0 z1 z2 z3 z4 z5 z6 z7 z8 z9 z10 z11 z12 z13 z14 z15 HX HB HW
       have HW := Lib.hid hw
       have HX := Lib.hid hx5
       have HB := Lib.hid hb5
       obtain ⟨z0, z1, z2, z3, z4, z5, z6, z7, z8, z9, z10, z11, z12, z13, z14, z15⟩ := frCells HX.out
       simp only at z0 z1 z2 z3 z4 z5 z6 z7 z8 z9 z10 z11 z12 z13 z14 z15
       clear hw hb hx5 hb5))
  clear z0 z1 z2 z3 z4 z5 z6 z7 z8 z9 z10 z11 z12 z13 z14 z15
  go_loopg [32] m (fun gh i w' => ∃ j : Nat, gh + j = m ∧ i = .int .i64 (j : Int) ∧ Wt (w.heap.size + 1) (w.heap.size + 1) ((be la 4 ++ be code 4) ++ listB (list.take j)) w' ∧ Blk w' w.heap.size 27 (frC (Fm.mk (k : Int) stream fin eh ack prio pay flags pad depend excl weight code list (la : Int) inc) (.slice A n c) (.slice B m d)) ∧ Below w.heap.size w w')
  case atStart => exact ⟨0, by omega, rfl, by have h := HW.out; simpa [listB] using h, HX.out, HB.out⟩
  case round =>
    obtain ⟨j, hj, rfl, hw, hx, hb⟩ := hrel
    clear HX HB HW
    cases gk with
    | succ g1 =>
      have hjm : j < m := by omega
      obtain ⟨⟨a, v⟩, hs⟩ : ∃ s, list[j]? = some s := ⟨_, List.getElem?_eq_getElem (by rw [Hlen.out]; exact hjm)⟩
      obtain ⟨b, o, rfl, c0, c1⟩ := rd_set (Hr.out.below hb) hs
      have hbl := World.block_lt_of_cell? _ _ c0
      have k1 : (j : Int) < (m : Int) := by omega
      have hmem := List.mem_of_getElem? hs
      obtain ⟨ha0, ha1⟩ := Hids.out _ hmem
      have hv0 := Hvals.out _ hmem
      simp only at ha0 ha1 hv0
      obtain ⟨a, rfl⟩ : ∃ an : Nat, a = (an : Int) := ⟨a.toNat, by omega⟩
      have hcat : Hid (listB (list.take (j + 1)) = listB (list.take j) ++ be a 2 ++ be v 4) := by
        show _ = _
        rw [List.take_add_one, hs]
        simp [listB]
      have hcv : IntKind.i64.wrap ((v : Nat) : Int) = ((v : Nat) : Int) := by rw [IntKind.wrap_i64]; omega
      have hlj : (list.take j).length = j := by rw [List.length_take, Hlen.out]; omega
      have Hlj := Lib.hid hlj
      have X2 : Blk (wr.alloc (.cells #[.int .i64 (a : Int), .int .u32 (v : Int)] 50)) wr.heap.size 50 [.int .i64 (a : Int), .int .u32 (v : Int)] := Blk.new wr _ _
      have q0 := X2.cell 0
      have q1 := X2.cell 1
      simp only [List.getElem?_cons_zero, List.getElem?_cons_succ] at q0 q1
      have HS := Lib.hid X2
      have hwa : Wt (w.heap.size + 1) (w.heap.size + 1) ((be la 4 ++ be code 4) ++ listB (list.take j)) (wr.alloc (.cells #[.int .i64 (a : Int), .int .u32 (v : Int)] 50)) := hw.below ((Below.refl _ _).alloc (Nat.le_refl _) _)
      have hba : Below w.heap.size w (wr.alloc (.cells #[.int .i64 (a : Int), .int .u32 (v : Int)] 50)) := hb.alloc hb.size _
      have hxa := hx.alloc (.cells #[.int .i64 (a : Int), .int .u32 (v : Int)] 50)
      have hlt : wr.heap.size ≠ (w.heap.size + 1) := by
        obtain ⟨A1, c1, h1, _⟩ := hw
        have := h1.lt
        omega
      have hpp : Hid ((be la 4 ++ be code 4).length ≤ 100) := by show _ ≤ _; simp [be_length]
      have Hp := hpp
      have HW := Lib.hid hwa
      have HX := Lib.hid hxa
      have HB := Lib.hid hba
      clear hs hmem hw hx hb hwa hba hxa X2 hpp hlj
      go_wp2_with (first
        | (go_at_call 33; (with_reducible refine (put2s_c (v := a) HW.out (by omega) (by have := Hlj.out; simp only [List.length_append, listB_length, be_length]; omega)).mono ?_); rintro e w5 ⟨rfl, hw, hb, hk⟩
           have hs5 := hk wr.heap.size _ _ HS.out hlt (by decide)
           have q0 := hs5.cell 0
           have q1 := hs5.cell 1
           simp only [List.getElem?_cons_zero, List.getElem?_cons_succ] at q0 q1
           have hx5 := HX.out.below hb (Nat.lt_succ_self _)
           have hb5 := HB.out.trans (hb.mono (Nat.le_succ _))
           clear HX HB HW HS
           have HW := Lib.hid hw
           have HX := Lib.hid hx5
           have HB := Lib.hid hb5
           clear hw hb hk hs5 hx5 hb5)
        | (go_at_call 33; (with_reducible refine (put4_c (v := v) HW.out (by omega) (by have := Hlj.out; simp only [List.length_append, listB_length, be_length]; omega)).mono ?_); rintro e w5 ⟨rfl, hw, hb⟩
           have hx5 := HX.out.below hb (Nat.lt_succ_self _)
           have hb5 := HB.out.trans (hb.mono (Nat.le_succ _))
           clear HX HB HW
           have HW := Lib.hid hw
           have HX := Lib.hid hx5
           have HB := Lib.hid hb5
           clear hw hb hx5 hb5))
      go_roundg g1
      case measure => omega
      case rel =>
        refine ⟨j + 1, by omega, by go_num, ?_, HX.out, HB.out⟩
        rw [hcat.out]
        have h := HW.out
        simpa only [List.append_assoc] using h
    | zero =>
      obtain rfl : j = m := by omega
      have hall : list.take j = list := List.take_of_length_le (by rw [Hlen.out]; exact Nat.le_refl _)
      rw [hall] at hw
      have HW := Lib.hid hw
      have HX := Lib.hid hx
      have HB := Lib.hid hb
      have hpp : Hid ((be la 4 ++ be code 4).length ≤ 100) := by show _ ≤ _; simp [be_length]
      have hpl : ((be la 4 ++ be code 4) ++ listB list).length = (be la 4 ++ be code 4).length + 6 * j := by rw [List.length_append, listB_length, Hlen.out]
      have Hpl := Lib.hid hpl
      obtain ⟨z0, z1, z2, z3, z4, z5, z6, z7, z8, z9, z10, z11, z12, z13, z14, z15⟩ := frCells hx
      simp only at z0 z1 z2 z3 z4 z5 z6 z7 z8 z9 z10 z11 z12 z13 z14 z15
      clear hw hx hb hall hpl
      obtain ⟨A9, c9, h9, o9, p9⟩ := id HW.out
      have y9 := h9.cell 0
      simp only [List.getElem?_cons_zero] at y9
      obtain ⟨ln, hln⟩ : ∃ ln, ((be la 4 ++ be code 4) ++ listB list).length = ln := ⟨_, rfl⟩
      rw [hln] at y9
      have Hln := Lib.hid hln
      clear hln
      have l9 := h9.lt
      have H9 := Lib.hid h9
      have O9 := Lib.hid o9
      clear h9 o9
      go_wp2_with (first
        | (go_at_call 54; (with_reducible refine (has_any _ 2048 _ _ EI.out).mono ?_); rintro e w6 ⟨rfl, rfl⟩))
      go_ret
      exact ⟨A9, c9, congrArg (fun z => Ending.returned (Value.slice A9 z c9)) Hln.out.symm, own_low O9.out, HB.out⟩
end Go.Proofs.YtokbdkbljgdcpaaDoor
