/- Stage 10: FieldsBytes, the walk. -/
import Derived.Test.YtilabahcngjflaaDoorJlA
import Derived.Deep.Cut
import Derived.Deep.DeepCutAuto
import Derived.Deep.CutBlock
namespace Go.Proofs.YtilabahcngjflaaDoor
open Go.RowKit Go.Own Go.Tbl Go.Fie
set_option linter.unusedVariables false
set_option linter.unusedSimpArgs false
set_option maxRecDepth 100000
abbrev nV : ByteArray := ⟨#[118]⟩
abbrev nN : ByteArray := ⟨#[110]⟩
def textB (b : UInt8) (front : Bool) : ByteArray := bif front then ⟨#[b, 98]⟩ else ⟨#[97, b, 98]⟩
def valB (n : Nat) (front : Bool) : Bool := vbN n && !(front && blN n)
def goodB (n : Nat) (front : Bool) : Bool := (trailers [⟨textB (UInt8.ofNat n) front, nV, false⟩] == nbN n) && (trailers [⟨nN, textB (UInt8.ofNat n) front, false⟩] == valB n front)
theorem good_all : ∀ n, n < 256 → goodB n true = true ∧ goodB n false = true := by decide +kernel
set_option maxHeartbeats 8000000 in
theorem lawBytes {W : World} {z : Int} (hz : (Lit.int .u8 z).wf = true) (front : Bool) (hC : True) : Calls Tryd.prog 6 #[.int .u8 z, .bool front] W fun e w' => e = .returned (.bool true) ∧ Below W.heap.size W w' := by
  have hb : 0 ≤ z ∧ z ≤ 255 := by simpa [Lit.wf, IntKind.min, IntKind.max, IntKind.signed, IntKind.bits] using hz
  obtain ⟨n, rfl⟩ := Int.eq_ofNat_of_zero_le hb.1
  have hn : n < 256 := by omega
  clear hz hb
  have G0 := Lib.hid (shown_c W)
  go_enter Tryd.func6, Tryd.ntmps6
  go_upto_region 2 with (first
    | (go_at_call 10; (with_reducible refine G0.out.mono ?_); rintro e w1 ⟨rfl, hb1⟩
       have B1 := Lib.hid hb1
       clear hb1 G0))
  have hbv : BV (UInt8.ofNat n) = .int .u8 (n : Int) := by rw [BV]; congr 1; simp; omega
  have hcv := run_conv_bytes (P := Tryd.prog) (src := 38) (dst := 9) (e := 5) Tryd.underlying38 Tryd.underlying5 Tryd.underlying9 (c := 1) (xs := [UInt8.ofNat n]) (w := w1.alloc (.cells #[.int .u8 (n : Int)] 5)) (A := some ⟨w1.heap.size, 0, none⟩) (n := 1) (by
    have := Rd.of_blk (n := 1) (size := 1) (Blk.new w1 5 [.int .u8 (n : Int)]) (by simp)
    simpa [hbv] using this)
  clear hbv
  cases front
  · obtain ⟨T, hT⟩ : ∃ T, ({ data := #[97] } ++ { data := #[UInt8.ofNat n] } ++ { data := #[98] } : ByteArray) = T := ⟨_, rfl⟩
    go_upto_region 5 with (fail)
    try simp only [hT]
    have hTx : T = textB (UInt8.ofNat n) false := by
      rw [← hT]
      apply ByteArray.ext
      simp [textB]
    have hTs : T.size ≤ 1000 := by rw [hTx]; simp [textB, ByteArray.size]
    obtain ⟨hg1, hg2⟩ := good_all n hn
    have hg : goodB n false = true := by first | exact hg1 | exact hg2
    unfold goodB at hg
    rw [← hTx, Bool.and_eq_true, beq_iff_eq, beq_iff_eq] at hg
    obtain ⟨e1, e2⟩ := hg
    obtain ⟨x1, hx1⟩ : ∃ x, nbN n = x := ⟨_, rfl⟩
    obtain ⟨x2, hx2⟩ : ∃ x, valB n false = x := ⟨_, rfl⟩
    rw [hx1] at e1
    rw [hx2] at e2
    have HT1 : Hid (∀ (w : World) (A : Option Addr) (c : Nat), Rd w 3 A 1 (fcellsL ([(T, nV)].map mkF)) → Calls Tryd.prog 16 #[.slice A 1 c] w fun e w' => e = .returned (.bool x1) ∧ Below w.heap.size w w') := fun w A c hr => by
      have := trailers_c (c := c) hr (fun f hf => by rw [List.mem_singleton.1 hf]; exact ⟨by show T.size ≤ _; omega, by show nV.size ≤ _; decide⟩) (by omega)
      rwa [show [(T, nV)].map mkF = [⟨T, nV, false⟩] from rfl, e1] at this
    have HT2 : Hid (∀ (w : World) (A : Option Addr) (c : Nat), Rd w 3 A 1 (fcellsL ([(nN, T)].map mkF)) → Calls Tryd.prog 16 #[.slice A 1 c] w fun e w' => e = .returned (.bool x2) ∧ Below w.heap.size w w') := fun w A c hr => by
      have := trailers_c (c := c) hr (fun f hf => by rw [List.mem_singleton.1 hf]; exact ⟨by show nN.size ≤ _; decide, by show T.size ≤ _; omega⟩) (by omega)
      rwa [show [(nN, T)].map mkF = [⟨nN, T, false⟩] from rfl, e2] at this
    have B2 := Lib.hid (below_al B1.out (.cells #[.int .u8 (n : Int)] 5))
    have X1 := Lib.hid hx1
    have X2 := Lib.hid hx2
    have Hn := Lib.hid hn
    obtain ⟨y58, hy58⟩ : ∃ y, decide (n = 58) = y := ⟨_, rfl⟩
    have f58 : ((n : Int) != 58) = !y58 := by rw [← hy58, bne, Bool.eq_iff_iff]; simp <;> omega
    have Y58 := Lib.hid hy58
    obtain ⟨y0, hy0⟩ : ∃ y, decide (n = 0) = y := ⟨_, rfl⟩
    have f0 : ((n : Int) != 0) = !y0 := by rw [← hy0, bne, Bool.eq_iff_iff]; simp <;> omega
    have Y0 := Lib.hid hy0
    obtain ⟨y10, hy10⟩ : ∃ y, decide (n = 10) = y := ⟨_, rfl⟩
    have f10 : ((n : Int) != 10) = !y10 := by rw [← hy10, bne, Bool.eq_iff_iff]; simp <;> omega
    have Y10 := Lib.hid hy10
    obtain ⟨y13, hy13⟩ : ∃ y, decide (n = 13) = y := ⟨_, rfl⟩
    have f13 : ((n : Int) != 13) = !y13 := by rw [← hy13, bne, Bool.eq_iff_iff]; simp <;> omega
    have Y13 := Lib.hid hy13
    obtain ⟨y32, hy32⟩ : ∃ y, decide (n = 32) = y := ⟨_, rfl⟩
    have f32 : ((n : Int) == 32) = y32 := by rw [← hy32, Bool.eq_iff_iff]; simp <;> omega
    have Y32 := Lib.hid hy32
    obtain ⟨y9, hy9⟩ : ∃ y, decide (n = 9) = y := ⟨_, rfl⟩
    have f9 : ((n : Int) == 9) = y9 := by rw [← hy9, Bool.eq_iff_iff]; simp <;> omega
    have Y9 := Lib.hid hy9
    clear hy58 hy0 hy10 hy13 hy32 hy9
    obtain ⟨w2, hw2⟩ : ∃ w2, w1.alloc (.cells #[.int .u8 (n : Int)] 5) = w2 := ⟨_, rfl⟩
    rw [hw2] at B2 ⊢
    have G2 := Lib.hid (of_b (w := w2) _ rfl [.string T, .string nV] 2 2 1 [(T, nV)] rfl rfl rfl (by omega))
    clear hcv hT hTx hg1 hg2 e1 e2 hx1 hx2 hTs B1 hw2
    go_cut [7] (fun x wx => x = .bool x1 ∧ wx = w2)
    case first =>
      go_wp2
      all_goals
        go_meet
        refine ⟨?_, rfl⟩
        rw [← X1.out]
        congr 1
        have e58 := Y58.out
        clear f58 f0 f10 f13 f32 f9 Y58
        cases y58 <;> simp only [decide_eq_true_eq, decide_eq_false_iff_not] at e58 <;> first | contradiction | (rw [Bool.eq_iff_iff]; simp [nbN] <;> omega)
    case rest =>
      obtain ⟨rfl, hwx⟩ := hcut
      have hwx := hwx.symm
      subst hwx
      go_upto_region 6 with (fail)
      go_cut [8] (fun x wx => x = .bool x2 ∧ wx = w2)
      case first =>
        go_wp2
        all_goals
          go_meet
          refine ⟨?_, rfl⟩
          rw [← X2.out]
          congr 1
          have e0 := Y0.out
          have e10 := Y10.out
          have e13 := Y13.out
          have e32 := Y32.out
          have e9 := Y9.out
          clear f58 f0 f10 f13 f32 f9 Y0 Y10 Y13 Y32 Y9
          cases y0 <;> (try contradiction) <;> cases y10 <;> (try contradiction) <;> cases y13 <;> (try contradiction) <;> cases y32 <;> (try contradiction) <;> cases y9 <;> (try contradiction)
          all_goals
            simp only [decide_eq_true_eq, decide_eq_false_iff_not] at e0 e10 e13 e32 e9
            first | omega | (rw [Bool.eq_iff_iff]; simp [valB, vbN, blN] <;> omega)
      case rest =>
        obtain ⟨rfl, hwx⟩ := hcut
        have hwx := hwx.symm
        subst hwx
        go_wp2_with (first
      | (go_at_call 18; (with_reducible refine G2.out.mono ?_); rintro e w3 ⟨A3, c3, rfl, ho3, hb3⟩
         have B3 := Lib.hid (below_from B2.out hb3)
         have T3 := Lib.hid (HT1.out _ _ c3 (Rd.of_own ho3))
         clear ho3 hb3 G2 B2)
      | (go_at_call 16; (with_reducible refine T3.out.mono ?_); rintro e w4 ⟨rfl, hb4⟩
         have B4 := Lib.hid (below_from B3.out hb4)
         have G4 := Lib.hid (of_b (w := w4) _ rfl [.string nN, .string T] 2 2 1 [(nN, T)] rfl rfl rfl (by omega))
         clear hb4 T3 B3)
      | (go_at_call 18; (with_reducible refine G4.out.mono ?_); rintro e w5 ⟨A5, c5, rfl, ho5, hb5⟩
         have B5 := Lib.hid (below_from B4.out hb5)
         have T5 := Lib.hid (HT2.out _ _ c5 (Rd.of_own ho5))
         clear ho5 hb5 G4 B4)
      | (go_at_call 16; (with_reducible refine T5.out.mono ?_); rintro e w6 ⟨rfl, hb6⟩
         have B6 := Lib.hid (below_from B5.out hb6)
         clear hb6 T5 B5))
        go_ret
        exact ⟨ret_bool (by simp), B6.out⟩
  · obtain ⟨T, hT⟩ : ∃ T, (({ data := #[97] } ++ { data := #[UInt8.ofNat n] } ++ { data := #[98] } : ByteArray).extract 1 3) = T := ⟨_, rfl⟩
    go_upto_region 5 with (fail)
    try simp only [hT]
    have hTx : T = textB (UInt8.ofNat n) true := by
      rw [← hT]
      apply ByteArray.ext
      simp [textB]
    have hTs : T.size ≤ 1000 := by rw [hTx]; simp [textB, ByteArray.size]
    obtain ⟨hg1, hg2⟩ := good_all n hn
    have hg : goodB n true = true := by first | exact hg1 | exact hg2
    unfold goodB at hg
    rw [← hTx, Bool.and_eq_true, beq_iff_eq, beq_iff_eq] at hg
    obtain ⟨e1, e2⟩ := hg
    obtain ⟨x1, hx1⟩ : ∃ x, nbN n = x := ⟨_, rfl⟩
    obtain ⟨x2, hx2⟩ : ∃ x, valB n true = x := ⟨_, rfl⟩
    rw [hx1] at e1
    rw [hx2] at e2
    have HT1 : Hid (∀ (w : World) (A : Option Addr) (c : Nat), Rd w 3 A 1 (fcellsL ([(T, nV)].map mkF)) → Calls Tryd.prog 16 #[.slice A 1 c] w fun e w' => e = .returned (.bool x1) ∧ Below w.heap.size w w') := fun w A c hr => by
      have := trailers_c (c := c) hr (fun f hf => by rw [List.mem_singleton.1 hf]; exact ⟨by show T.size ≤ _; omega, by show nV.size ≤ _; decide⟩) (by omega)
      rwa [show [(T, nV)].map mkF = [⟨T, nV, false⟩] from rfl, e1] at this
    have HT2 : Hid (∀ (w : World) (A : Option Addr) (c : Nat), Rd w 3 A 1 (fcellsL ([(nN, T)].map mkF)) → Calls Tryd.prog 16 #[.slice A 1 c] w fun e w' => e = .returned (.bool x2) ∧ Below w.heap.size w w') := fun w A c hr => by
      have := trailers_c (c := c) hr (fun f hf => by rw [List.mem_singleton.1 hf]; exact ⟨by show nN.size ≤ _; decide, by show T.size ≤ _; omega⟩) (by omega)
      rwa [show [(nN, T)].map mkF = [⟨nN, T, false⟩] from rfl, e2] at this
    have B2 := Lib.hid (below_al B1.out (.cells #[.int .u8 (n : Int)] 5))
    have X1 := Lib.hid hx1
    have X2 := Lib.hid hx2
    have Hn := Lib.hid hn
    obtain ⟨y58, hy58⟩ : ∃ y, decide (n = 58) = y := ⟨_, rfl⟩
    have f58 : ((n : Int) != 58) = !y58 := by rw [← hy58, bne, Bool.eq_iff_iff]; simp <;> omega
    have Y58 := Lib.hid hy58
    obtain ⟨y0, hy0⟩ : ∃ y, decide (n = 0) = y := ⟨_, rfl⟩
    have f0 : ((n : Int) != 0) = !y0 := by rw [← hy0, bne, Bool.eq_iff_iff]; simp <;> omega
    have Y0 := Lib.hid hy0
    obtain ⟨y10, hy10⟩ : ∃ y, decide (n = 10) = y := ⟨_, rfl⟩
    have f10 : ((n : Int) != 10) = !y10 := by rw [← hy10, bne, Bool.eq_iff_iff]; simp <;> omega
    have Y10 := Lib.hid hy10
    obtain ⟨y13, hy13⟩ : ∃ y, decide (n = 13) = y := ⟨_, rfl⟩
    have f13 : ((n : Int) != 13) = !y13 := by rw [← hy13, bne, Bool.eq_iff_iff]; simp <;> omega
    have Y13 := Lib.hid hy13
    obtain ⟨y32, hy32⟩ : ∃ y, decide (n = 32) = y := ⟨_, rfl⟩
    have f32 : ((n : Int) == 32) = y32 := by rw [← hy32, Bool.eq_iff_iff]; simp <;> omega
    have Y32 := Lib.hid hy32
    obtain ⟨y9, hy9⟩ : ∃ y, decide (n = 9) = y := ⟨_, rfl⟩
    have f9 : ((n : Int) == 9) = y9 := by rw [← hy9, Bool.eq_iff_iff]; simp <;> omega
    have Y9 := Lib.hid hy9
    clear hy58 hy0 hy10 hy13 hy32 hy9
    obtain ⟨w2, hw2⟩ : ∃ w2, w1.alloc (.cells #[.int .u8 (n : Int)] 5) = w2 := ⟨_, rfl⟩
    rw [hw2] at B2 ⊢
    have G2 := Lib.hid (of_b (w := w2) _ rfl [.string T, .string nV] 2 2 1 [(T, nV)] rfl rfl rfl (by omega))
    clear hcv hT hTx hg1 hg2 e1 e2 hx1 hx2 hTs B1 hw2
    go_cut [7] (fun x wx => x = .bool x1 ∧ wx = w2)
    case first =>
      go_wp2
      all_goals
        go_meet
        refine ⟨?_, rfl⟩
        rw [← X1.out]
        congr 1
        have e58 := Y58.out
        clear f58 f0 f10 f13 f32 f9 Y58
        cases y58 <;> simp only [decide_eq_true_eq, decide_eq_false_iff_not] at e58 <;> first | contradiction | (rw [Bool.eq_iff_iff]; simp [nbN] <;> omega)
    case rest =>
      obtain ⟨rfl, hwx⟩ := hcut
      have hwx := hwx.symm
      subst hwx
      go_upto_region 6 with (fail)
      go_cut [8] (fun x wx => x = .bool x2 ∧ wx = w2)
      case first =>
        go_wp2
        all_goals
          go_meet
          refine ⟨?_, rfl⟩
          rw [← X2.out]
          congr 1
          have e0 := Y0.out
          have e10 := Y10.out
          have e13 := Y13.out
          have e32 := Y32.out
          have e9 := Y9.out
          clear f58 f0 f10 f13 f32 f9 Y0 Y10 Y13 Y32 Y9
          cases y0 <;> (try contradiction) <;> cases y10 <;> (try contradiction) <;> cases y13 <;> (try contradiction) <;> cases y32 <;> (try contradiction) <;> cases y9 <;> (try contradiction)
          all_goals
            simp only [decide_eq_true_eq, decide_eq_false_iff_not] at e0 e10 e13 e32 e9
            first | omega | (rw [Bool.eq_iff_iff]; simp [valB, vbN, blN] <;> omega)
      case rest =>
        obtain ⟨rfl, hwx⟩ := hcut
        have hwx := hwx.symm
        subst hwx
        go_wp2_with (first
      | (go_at_call 18; (with_reducible refine G2.out.mono ?_); rintro e w3 ⟨A3, c3, rfl, ho3, hb3⟩
         have B3 := Lib.hid (below_from B2.out hb3)
         have T3 := Lib.hid (HT1.out _ _ c3 (Rd.of_own ho3))
         clear ho3 hb3 G2 B2)
      | (go_at_call 16; (with_reducible refine T3.out.mono ?_); rintro e w4 ⟨rfl, hb4⟩
         have B4 := Lib.hid (below_from B3.out hb4)
         have G4 := Lib.hid (of_b (w := w4) _ rfl [.string nN, .string T] 2 2 1 [(nN, T)] rfl rfl rfl (by omega))
         clear hb4 T3 B3)
      | (go_at_call 18; (with_reducible refine G4.out.mono ?_); rintro e w5 ⟨A5, c5, rfl, ho5, hb5⟩
         have B5 := Lib.hid (below_from B4.out hb5)
         have T5 := Lib.hid (HT2.out _ _ c5 (Rd.of_own ho5))
         clear ho5 hb5 G4 B4)
      | (go_at_call 16; (with_reducible refine T5.out.mono ?_); rintro e w6 ⟨rfl, hb6⟩
         have B6 := Lib.hid (below_from B5.out hb6)
         clear hb6 T5 B5))
        go_ret
        exact ⟨ret_bool (by simp), B6.out⟩
end Go.Proofs.YtilabahcngjflaaDoor
