/- Several texts in one: Fh2. -/
import Derived.Test.YtokbdkbljgdcpaaDoorY24
import Derived.Deep.RegionHeld
/- headOf: the walk. -/
namespace Go.Proofs.YtokbdkbljgdcpaaDoor
open Go.RowKit Go.Own Go.Frm
set_option linter.unusedVariables false
set_option maxRecDepth 100000

def zeroC : List Value := [.int .i64 0, .int .i64 0, .bool false, .bool false, .bool false, .bool false, .slice none 0 0, .int .i64 0, .int .i64 0, .int .i64 0, .bool false, .int .i64 0, .int .u32 0, .slice none 0 0, .int .i64 0, .int .i64 0]
theorem idxB0 (W : World) : (Instr.index 112 (.agg #[.int .i64 1, .int .i64 1, .int .i64 4, .int .i64 1, .int .i64 2, .int .i64 4, .int .i64 8, .int .i64 8, .int .i64 16, .int .i64 32]) (.int .i64 0)).run Tryd.prog W = .ok (.agg #[.int .i64 1, .int .i64 1]) W := by kernel_rfl
theorem idxB1 (W : World) : (Instr.index 112 (.agg #[.int .i64 1, .int .i64 1, .int .i64 4, .int .i64 1, .int .i64 2, .int .i64 4, .int .i64 8, .int .i64 8, .int .i64 16, .int .i64 32]) (.int .i64 1)).run Tryd.prog W = .ok (.agg #[.int .i64 4, .int .i64 1]) W := by kernel_rfl
theorem idxB2 (W : World) : (Instr.index 112 (.agg #[.int .i64 1, .int .i64 1, .int .i64 4, .int .i64 1, .int .i64 2, .int .i64 4, .int .i64 8, .int .i64 8, .int .i64 16, .int .i64 32]) (.int .i64 2)).run Tryd.prog W = .ok (.agg #[.int .i64 2, .int .i64 4]) W := by kernel_rfl
theorem idxB3 (W : World) : (Instr.index 112 (.agg #[.int .i64 1, .int .i64 1, .int .i64 4, .int .i64 1, .int .i64 2, .int .i64 4, .int .i64 8, .int .i64 8, .int .i64 16, .int .i64 32]) (.int .i64 3)).run Tryd.prog W = .ok (.agg #[.int .i64 8, .int .i64 8]) W := by kernel_rfl
theorem idxB4 (W : World) : (Instr.index 112 (.agg #[.int .i64 1, .int .i64 1, .int .i64 4, .int .i64 1, .int .i64 2, .int .i64 4, .int .i64 8, .int .i64 8, .int .i64 16, .int .i64 32]) (.int .i64 4)).run Tryd.prog W = .ok (.agg #[.int .i64 16, .int .i64 32]) W := by kernel_rfl
theorem idxB (j : Nat) (hj : j < 5) (W : World) : (Instr.index 112 (.agg #[.int .i64 1, .int .i64 1, .int .i64 4, .int .i64 1, .int .i64 2, .int .i64 4, .int .i64 8, .int .i64 8, .int .i64 16, .int .i64 32]) (.int .i64 (j : Int))).run Tryd.prog W = .ok (.agg #[.int .i64 ((bitP j : Nat) : Int), .int .i64 ((bitB j : Nat) : Int)]) W := by
  have key : j = 0 ∨ j = 1 ∨ j = 2 ∨ j = 3 ∨ j = 4 := by omega
  rcases key with rfl | rfl | rfl | rfl | rfl
  · exact idxB0 W
  · exact idxB1 W
  · exact idxB2 W
  · exact idxB3 W
  · exact idxB4 W
theorem flag_j (fl j : Nat) (hfl : fl < 256) (hj : j < 5) : (bits .and .i64 (fl : Int) ((bitB j : Nat) : Int) != 0) = fl.testBit (bitF j) := by
  have key : j = 0 ∨ j = 1 ∨ j = 2 ∨ j = 3 ∨ j = 4 := by omega
  rcases key with rfl | rfl | rfl | rfl | rfl
  · exact and_pow fl 0 (by omega) (by omega)
  · exact and_pow fl 0 (by omega) (by omega)
  · exact and_pow fl 2 (by omega) (by omega)
  · exact and_pow fl 3 (by omega) (by omega)
  · exact and_pow fl 5 (by omega) (by omega)
set_option maxHeartbeats 4000000 in
theorem headOf_c {w : World} {A : Option Addr} {n c : Nat} {xs : List UInt8} (hr : Rd w 1 A n (xs.map BV)) (hnc : n ≤ c) (hc : c ≤ 9223372036854775807) (hx : 9 ≤ n) (hA : ∀ a, A = some a → a.block < w.heap.size) (hG : Gl w) :
    Calls Tryd.prog 38 #[.slice A n c] w fun e w' => e = .returned (hdV (hdN xs) (hdK xs) (hdF xs) (hdS xs)) ∧ Below w.heap.size w w' := by
  have hlen : xs.length = n := by simpa using hr.1
  have H0 : Hid (RG ((w.alloc (.cells #[.int .i64 0, .int .i64 0, .int .i64 0, .int .i64 0, .int .i64 0] 85)).alloc (.cells #[.int .i64 0, .int .i64 0, .bool false, .bool false, .bool false, .bool false, .slice none 0 0, .int .i64 0, .int .i64 0, .int .i64 0, .bool false, .int .i64 0, .int .u32 0, .slice none 0 0, .int .i64 0, .int .i64 0, .slice A n c] 114)) (w.heap.size + 1) zeroC xs) := by
    refine ⟨A, n, c, rfl, blk_new2 w _ _ _, (hr.below ((Below.refl _ _).alloc (Nat.le_refl _) _)).below ((Below.refl _ _).alloc (Nat.le_refl _) _), hnc, hc, fun a ha => Nat.lt_succ_of_lt (hA a ha)⟩
  have hB0 : Hid (Below w.heap.size w ((w.alloc (.cells #[.int .i64 0, .int .i64 0, .int .i64 0, .int .i64 0, .int .i64 0] 85)).alloc (.cells #[.int .i64 0, .int .i64 0, .bool false, .bool false, .bool false, .bool false, .slice none 0 0, .int .i64 0, .int .i64 0, .int .i64 0, .bool false, .int .i64 0, .int .u32 0, .slice none 0 0, .int .i64 0, .int .i64 0, .slice A n c] 114))) := ((Below.refl _ w).alloc (Nat.le_refl _) _).alloc (by simp) _
  have hR0 := Lib.hid (blk_new1 w (.cells #[.int .i64 0, .int .i64 0, .bool false, .bool false, .bool false, .bool false, .slice none 0 0, .int .i64 0, .int .i64 0, .int .i64 0, .bool false, .int .i64 0, .int .u32 0, .slice none 0 0, .int .i64 0, .int .i64 0, .slice A n c] 114) 85 [.int .i64 0, .int .i64 0, .int .i64 0, .int .i64 0, .int .i64 0])
  obtain ⟨v0, h0⟩ : ∃ v, num (xs.take 3) = v := ⟨_, rfl⟩
  obtain ⟨v1, h1⟩ : ∃ v, num ((xs.drop 3).take 1) = v := ⟨_, rfl⟩
  obtain ⟨v2, h2⟩ : ∃ v, num (((xs.drop 3).drop 1).take 1) = v := ⟨_, rfl⟩
  obtain ⟨v3, h3⟩ : ∃ v, low (num ((((xs.drop 3).drop 1).drop 1).take 4)) = v := ⟨_, rfl⟩
  have b0 : v0 < 16777216 := by rw [← h0]; exact num_take_lt _ 3
  have b1 : v1 < 256 := by rw [← h1]; exact num_take_lt _ 1
  have b2 : v2 < 256 := by rw [← h2]; exact num_take_lt _ 1
  have b3 : v3 < 2147483648 := by rw [← h3]; exact Nat.mod_lt _ (by omega)
  have q0 : 3 ≤ xs.length := by omega
  have q1 : 1 ≤ (xs.drop 3).length := by rw [List.length_drop]; omega
  have q2 : 1 ≤ ((xs.drop 3).drop 1).length := by rw [List.length_drop, List.length_drop]; omega
  have q3 : 4 ≤ (((xs.drop 3).drop 1).drop 1).length := by rw [List.length_drop, List.length_drop, List.length_drop]; omega
  have he : hdV (hdN xs) (hdK xs) (hdF xs) (hdS xs) = .agg #[.int .i64 (v0 : Int), .int .i64 (v1 : Int), .int .i64 (v2 : Int), .int .i64 (v3 : Int), .int .i64 ((hpN v1 v2 : Nat) : Int)] := by
    unfold hdN hdK hdF hdS
    rw [← h0, ← h1, ← h2, ← h3]
    simp only [List.drop_drop]
  have HE := Lib.hid he
  have V0 := Lib.hid h0
  have V1 := Lib.hid h1
  have V2 := Lib.hid h2
  have V3 := Lib.hid h3
  have HG := Lib.hid hG
  clear hr hA hG hlen h0 h1 h2 h3 he
  go_enter Tryd.func38, Tryd.ntmps38
  go_wp2_with (first
    | (go_at_call 59; (with_reducible refine (number_c H0.out 3 3 rfl (by omega) (by omega) q0).mono ?_); rintro e w1 ⟨rfl, h1, f1⟩
       rw [V0.out]
       have H1 := Lib.hid h1
       have R1 := Lib.hid (Blk.fr hR0.out f1 (fun e => by omega))
       have B1 := Lib.hid (hB0.out.trans (f1.below (by simp; omega) (fun i _ e => by omega)))
       clear h1 f1)
    | (go_at_call 59; (with_reducible refine (number_c H1.out 1 1 rfl (by omega) (by omega) q1).mono ?_); rintro e w2 ⟨rfl, h1, f1⟩
       rw [V1.out]
       have H2 := Lib.hid h1
       have R2 := Lib.hid (Blk.fr R1.out f1 (fun e => by omega))
       have B2 := Lib.hid (B1.out.trans (f1.below B1.out.size (fun i _ e => by omega)))
       clear h1 f1)
    | (go_at_call 59; (with_reducible refine (number_c H2.out 1 1 rfl (by omega) (by omega) q2).mono ?_); rintro e w3 ⟨rfl, h1, f1⟩
       rw [V2.out]
       have H3 := Lib.hid h1
       have R3 := Lib.hid (Blk.fr R2.out f1 (fun e => by omega))
       have B3 := Lib.hid (B2.out.trans (f1.below B2.out.size (fun i _ e => by omega)))
       clear h1 f1)
    | (go_at_call 60; (with_reducible refine (stream_c H3.out q3).mono ?_); rintro e w4 ⟨rfl, h1, f1⟩
       rw [V3.out]
       have R4 := Lib.hid (Blk.fr R3.out f1 (fun e => by omega))
       have B4 := Lib.hid (B3.out.trans (f1.below B3.out.size (fun i _ e => by omega)))
       have g4 := (HG.out.below B4.out).bits
       have y0 := g4 0 1 rfl
       have y1 := g4 1 1 rfl
       have y2 := g4 2 4 rfl
       have y3 := g4 3 1 rfl
       have y4 := g4 4 2 rfl
       have y5 := g4 5 4 rfl
       have y6 := g4 6 8 rfl
       have y7 := g4 7 8 rfl
       have y8 := g4 8 16 rfl
       have y9 := g4 9 32 rfl
       have p4 : 0 < w4.heap.size := World.block_lt_of_cell? _ _ y0
       clear h1 f1 g4))
  have hB5 : Below w.heap.size w (w4.alloc (.cells #[.int .i64 (v0 : Int), .int .i64 (v1 : Int), .int .i64 (v2 : Int), .int .i64 (v3 : Int), .int .i64 0] 85)) := B4.out.alloc B4.out.size _
  have hX5 : Blk (w4.alloc (.cells #[.int .i64 (v0 : Int), .int .i64 (v1 : Int), .int .i64 (v2 : Int), .int .i64 (v3 : Int), .int .i64 0] 85)) w4.heap.size 85 (hdW v0 v1 v2 v3 (bsum (hpJ v1 v2 0))) := by
    rw [hpJ_0]
    exact Blk.new w4 85 (hdW v0 v1 v2 v3 0)
  have B5 := Lib.hid hB5
  have X5 := Lib.hid hX5
  have R5 := Lib.hid (R4.out.alloc (.cells #[.int .i64 (v0 : Int), .int .i64 (v1 : Int), .int .i64 (v2 : Int), .int .i64 (v3 : Int), .int .i64 0] 85))
  have L5 : w.heap.size < w4.heap.size := R4.out.lt
  clear hB5 hX5 y0 y1 y2 y3 y4 y5 y6 y7 y8 y9
  go_loopg [18] 5 (fun gh i w' => ∃ j : Nat, gh + j = 5 ∧ i = .int .i64 (j : Int) ∧ Blk w' w4.heap.size 85 (hdW v0 v1 v2 v3 (bsum (hpJ v1 v2 j))) ∧ Below w.heap.size w w' ∧ Blk w' w.heap.size 85 [.int .i64 0, .int .i64 0, .int .i64 0, .int .i64 0, .int .i64 0])
  case atStart => exact ⟨0, by omega, rfl, X5.out, B5.out, R5.out⟩
  case round =>
    obtain ⟨j, hj, rfl, hX, hB, hRe⟩ := hrel
    cases gk with
    | succ g1 =>
      have hj5 : j < 5 := by omega
      have ix := idxB j hj5
      have hfl := flag_j v2 j b2 hj5
      have z0 := hX.cell 0
      have z1 := hX.cell 1
      have z2 := hX.cell 2
      have z3 := hX.cell 3
      have z4 := hX.cell 4
      have zf := hX.frozen 4
      have hlt := hX.lt
      simp only [List.getElem?_cons_zero, List.getElem?_cons_succ] at z0 z1 z2 z3 z4
      obtain ⟨m, hm⟩ : ∃ m, bsum (hpJ v1 v2 j) = m := ⟨_, rfl⟩
      obtain ⟨m', hm'⟩ : ∃ m', bsum (hpJ v1 v2 (j + 1)) = m' := ⟨_, rfl⟩
      rw [hm] at z4 hX
      have HM' := Lib.hid hm'
      have HX := Lib.hid hX
      have HB := Lib.hid hB
      have HRe := Lib.hid hRe
      clear hRe
      have k5 : (j : Int) < 5 := by omega
      obtain ⟨bp, hbp⟩ : ∃ b, bitP j = b := ⟨_, rfl⟩
      obtain ⟨bb, hbb⟩ : ∃ b, bitB j = b := ⟨_, rfl⟩
      rw [hbp, hbb] at ix
      rw [hbb] at hfl
      cases hft : v2.testBit (bitF j)
      · have hno := hp_no v1 v2 j hj5 hft
        rw [hm, hm'] at hno
        rw [hft] at hfl
        have HX' : Hid (Blk wr w4.heap.size 85 (hdW v0 v1 v2 v3 (bsum (hpJ v1 v2 (j + 1))))) := by
          have := HX.out
          rw [hno, ← hm'] at this
          exact this
        clear hft hm hm' hbp hbb hX hB hno
        go_wp2
        go_roundg g1
        case measure => omega
        case rel => exact ⟨j + 1, by omega, by go_num, HX'.out.alloc _, HB.out.alloc HB.out.size _, HRe.out.alloc _⟩
      · have hyes := hp_yes v1 v2 j hj5 hft
        rw [hm, hm', hbp] at hyes
        rw [hft] at hfl
        have HY := Lib.hid hyes
        clear hft hm hm' hbp hbb hX hB hyes
        go_wp2
        have GD : Hid (Gl (wr.alloc (.cells #[.int .i64 (bp : Int), .int .i64 (bb : Int)] 111)).drew) := Gl.drew ((HG.out.below HB.out).alloc _)
        have XD : Hid (Blk (wr.alloc (.cells #[.int .i64 (bp : Int), .int .i64 (bb : Int)] 111)).drew w4.heap.size 85 (hdW v0 v1 v2 v3 m)) := blk_drew (HX.out.alloc _)
        have BD : Hid (Below w.heap.size w (wr.alloc (.cells #[.int .i64 (bp : Int), .int .i64 (bb : Int)] 111)).drew) := below_drewN (HB.out.alloc HB.out.size _) 1
        have sf := shf1
        have RD : Hid (Blk (wr.alloc (.cells #[.int .i64 (bp : Int), .int .i64 (bb : Int)] 111)).drew w.heap.size 85 [.int .i64 0, .int .i64 0, .int .i64 0, .int .i64 0, .int .i64 0]) := blk_drew (HRe.out.alloc _)
        go_region_with (first
          | (go_at_call 51; (with_reducible refine (shapeOf_any v1 _ GD.out).mono ?_); rintro e w5 ⟨rfl, hb⟩
             have X5' := Lib.hid (blk_below XD.out hb)
             have R5' := Lib.hid (blk_below RD.out hb)
             have B5' := Lib.hid (BD.out.trans (hb.mono BD.out.size))
             have hz := X5'.out.frozen 4
             have s4 : w5.cell? ⟨w4.heap.size, 4, none⟩ = some (.int .i64 (m : Int)) := X5'.out.cell 4
             have s1 : w5.cell? ⟨w4.heap.size, 1, none⟩ = some (.int .i64 (v1 : Int)) := X5'.out.cell 1
             have s0 : w5.cell? ⟨wr.heap.size, 0, none⟩ = some (.int .i64 (bp : Int)) := (blk_below (blk_drew (Blk.new wr 111 [.int .i64 (bp : Int), .int .i64 (bb : Int)])) hb).cell 0
             clear hb))
        all_goals
          go_wp2
          go_roundg g1
          case measure => omega
          case rel =>
            refine ⟨j + 1, by omega, by go_num, ?_, B5'.out.setCell (Nat.le_of_lt L5) _, ?_⟩
            · have := X5'.out.set_ 4 (.int .i64 (m' : Int))
              rw [HM'.out]
              first
              | exact this
              | (rw [HY.out]; exact this)
            · exact Blk.fr (S := (· = w4.heap.size)) R5'.out (Fr.setCell (S := (· = w4.heap.size)) (Fr.refl _ _) (p := ⟨w4.heap.size, 4, none⟩) (.inl rfl) _) (fun e => by omega)
    | zero =>
      obtain rfl : j = 5 := by omega
      rw [hpJ_5] at hX
      have z0 := hX.cell 0
      have z1 := hX.cell 1
      have z2 := hX.cell 2
      have z3 := hX.cell 3
      have z4 := hX.cell 4
      simp only [List.getElem?_cons_zero, List.getElem?_cons_succ] at z0 z1 z2 z3 z4
      have t0 := hRe.cell 0
      have t1 := hRe.cell 1
      have t2 := hRe.cell 2
      have t3 := hRe.cell 3
      have t4 := hRe.cell 4
      have tf := hRe.frozen
      simp only [List.getElem?_cons_zero, List.getElem?_cons_succ] at t0 t1 t2 t3 t4
      have HRe := Lib.hid hRe
      have HX := Lib.hid hX
      have HB := Lib.hid hB
      clear hX hB hRe
      go_wp2
      refine bodyPost_ret (v := .agg #[.int .i64 (v0 : Int), .int .i64 (v1 : Int), .int .i64 (v2 : Int), .int .i64 (v3 : Int), .int .i64 ((hpN v1 v2 : Nat) : Int)]) (res_head (p := 2) rfl rfl (((((HRe.out.set_ 0 _).set_ 1 _).set_ 2 _).set_ 3 _).set_ 4 _)) rfl ⟨congrArg Ending.returned HE.out.symm, ?_⟩
      exact ((((HB.out.setCell (Nat.le_refl _) _).setCell (Nat.le_refl _) _).setCell (Nat.le_refl _) _).setCell (Nat.le_refl _) _).setCell (Nat.le_refl _) _
end Go.Proofs.YtokbdkbljgdcpaaDoor
