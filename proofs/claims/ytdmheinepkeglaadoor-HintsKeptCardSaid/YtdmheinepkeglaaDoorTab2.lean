/- The contracts of huffman's tables: codes. -/
import Derived.Test.YtdmheinepkeglaaDoorTab
namespace Go.Proofs.YtdmheinepkeglaaDoor
open Go.RowKit Go.Own Go.Huf
set_option linter.unusedVariables false

/-- the world behind p codes -/
structure CW (w : World) (g2 p : Nat) (w' : World) : Prop where
  below : Below w.heap.size w w'
  cnt : Cnt w'
  b0 : Blk w' w.heap.size 71 (cellsP (outP 0))
  b1 : Blk w' (w.heap.size + 1) 71 (cellsP (outP p))
  b2 : Blk w' g2 78 symCells
  lt : w.heap.size + 1 < g2
theorem sym_lt (n j : Nat) (hn : n < 31) (hj : j < cnt n) : sym (strt n + j) < 257 := by have := (sym_code n hn j hj).2.1; omega
theorem CW.next {w w' : World} {g2 p s v n : Nat} (h : CW w g2 p w') (hs : sym p = s) (hc : code s = (v, n)) :
    CW w g2 (p + 1) ((w'.setCell ⟨w.heap.size + 1, s * 2, none⟩ (.int .u32 (v : Int))).setCell ⟨w.heap.size + 1, s * 2 + 1, none⟩ (.int .i64 (n : Int))) := by
  have hf : Fr (· = w.heap.size + 1) w' ((w'.setCell ⟨w.heap.size + 1, s * 2, none⟩ (.int .u32 (v : Int))).setCell ⟨w.heap.size + 1, s * 2 + 1, none⟩ (.int .i64 (n : Int))) :=
    ((Fr.refl (· = w.heap.size + 1) w').setCell (p := ⟨w.heap.size + 1, s * 2, none⟩) (.inl rfl) _).setCell (p := ⟨w.heap.size + 1, s * 2 + 1, none⟩) (.inl rfl) _
  have hpos : 0 < w.heap.size + 1 ∧ w.heap.size ≤ w'.heap.size := ⟨by have := h.cnt.pos; have := h.b0.lt; omega, h.below.size⟩
  have hl := h.lt
  refine ⟨h.below.trans (hf.below (by omega) (fun i _ e => by omega)), h.cnt.fr hf (by omega), h.b0.fr hf (by omega), ?_, h.b2.fr hf (by omega), h.lt⟩
  have := (h.b1.set_ (s * 2) (.int .u32 (v : Int))).set_ (s * 2 + 1) (.int .i64 (n : Int))
  rw [outP, hs, hc, ← cellsP_set (outP p) s (v, n)]
  exact this

set_option maxRecDepth 100000 in
set_option maxHeartbeats 2000000 in
theorem codes_any (w : World) (hC : Cnt w) : Calls Tryd.prog 41 #[] w fun e w' => e = .returned (.agg codeCells.toArray) ∧ Below w.heap.size w w' := by
  have hz := zero_codes.1
  have hzs := zero_syms.1
  go_enter Tryd.func41, Tryd.ntmps41
  go_wp2_with (first
    | (go_at_call 44; (with_reducible refine (syms_any _).mono ?_); rintro e w1 ⟨rfl, hb1⟩; have Hb1 := Lib.hid hb1; clear hb1)
    | (refine wpList_store_syms rfl _ _ rfl rfl rfl ?_))
  clear hz hzs
  go_loopg [7, 3, 4] 31 (fun g i s3 s4 w' => ∃ n : Nat, g + n = 31 ∧ i = .int .i64 n ∧ s3 = .int .u32 (nx n : Nat) ∧ s4 = .int .i64 (strt n : Nat) ∧ CW w w1.heap.size (strt n) w')
  case atStart =>
    have hb := Hb1.out
    have hlt := hb.size
    simp at hlt
    have hb' : Below w.heap.size w w1 := (((Below.refl _ _).alloc (Nat.le_refl _) _).alloc (by simp) _).trans (hb.mono (by simp; omega))
    refine ⟨0, by omega, rfl, rfl, rfl, ⟨hb'.trans ((Below.refl _ _).alloc hb'.size _), hC.below (hb'.trans ((Below.refl _ _).alloc hb'.size _)), ?_, ?_, Blk.new _ _ _, by omega⟩⟩
    · exact (((Blk.new w 71 (cellsP (outP 0))).alloc _).below hb (by simp; omega)).alloc _
    · have := (((Blk.new (w.alloc (.cells (cellsP (outP 0)).toArray 71)) 71 (cellsP (outP 0)))).below hb (by simp)).alloc (.cells symCells.toArray 78)
      simpa [strt] using this
  case round =>
    obtain ⟨n, hg, rfl, rfl, rfl, hw⟩ := hrel
    have HW := Lib.hid hw
    clear hw hC
    cases gk with
    | succ g =>
      have hn : n < 31 := by omega
      have hc := HW.out.cnt n hn
      have hnx := nx_le n hn
      have hn2 := nx_two n
      have e2 : IntKind.u32.wrap ((nx n : Int) * 2) = (frst n : Nat) := by rw [← hn2]; rw [IntKind.wrap_u32]; omega
      go_wp2
      go_loopg [15, 3, 4] (cnt n) (fun g j s3 s4 w' => ∃ k : Nat, g + k = cnt n ∧ j = .int .u32 k ∧ s3 = .int .u32 ((frst n + k : Nat) : Int) ∧ s4 = .int .i64 ((strt n + k : Nat) : Int) ∧ CW w w1.heap.size (strt n + k) w')
      case atStart => exact ⟨0, by omega, rfl, by simp, rfl, HW.out⟩
      case round =>
        obtain ⟨k, hk, rfl, rfl, rfl, hw⟩ := hrel
        have HW2 := Lib.hid hw
        clear hw hc hn2 e2 HW
        cases gk with
        | succ g2 =>
          have hkn : k < cnt n := by omega
          have hsc := sym_code n hn k hkn
          obtain ⟨s, hs⟩ : ∃ s, sym (strt n + k) = s := ⟨_, rfl⟩
          rw [hs] at hsc
          have hp := hsc.2.2
          have hs2 := hsc.2.1
          have Hs := Lib.hid hs
          have Hsc := Lib.hid hsc.1
          clear hsc hs
          have hcell : wr.cell? ⟨w1.heap.size, strt n + k, none⟩ = some (.int .i16 (s : Int)) := by
            rw [HW2.out.b2.cell, symCells_at _ hp, Hs.out]
          have hl1 : (cellsP (outP (strt n + k))).length = 514 := by rw [cellsP_length, outP_length]
          obtain ⟨v0, hv0⟩ : ∃ v, wr.cell? ⟨w.heap.size + 1, s * 2, none⟩ = some v := ⟨_, (HW2.out.b1.cell _).trans (List.getElem?_eq_getElem (by rw [hl1]; omega))⟩
          obtain ⟨v1, hv1⟩ : ∃ v, wr.cell? ⟨w.heap.size + 1, s * 2 + 1, none⟩ = some v := ⟨_, (HW2.out.b1.cell _).trans (List.getElem?_eq_getElem (by rw [hl1]; omega))⟩
          have hf0 := HW2.out.b1.frozen (s * 2)
          have hf1 := HW2.out.b1.frozen (s * 2 + 1)
          clear hl1
          go_wp2
          go_roundg g2
          case measure => omega
          case rel => exact ⟨k + 1, by omega, by go_num, by go_num, by go_num, HW2.out.next Hs.out Hsc.out⟩
        | zero =>
          obtain rfl : k = cnt n := by omega
          go_wp2
          go_roundg g
          case measure => omega
          case rel => exact ⟨n + 1, by omega, by go_num, rfl, rfl, HW2.out⟩
    | zero =>
      obtain rfl : n = 31 := by omega
      go_wp2_with (first
        | (refine wpList_load_codes rfl _ rfl _ rfl (outP (strt 31)) (outP_length _) HW.out.b1 ?_)
        | (refine wpList_store_codes rfl _ _ rfl _ rfl _ _ (outP_length 0) (outP_length _) rfl HW.out.b0 ?_; intro w5 hb5 hf5))
      have hb : Below w.heap.size w w5 := HW.out.below.trans (hf5.below HW.out.below.size (fun i _ e => by omega))
      rw [show strt 31 = 257 from strt_all, outP_all] at *
      exact bodyPost_ret (v := .agg codeCells.toArray) (results_codes codeL_length rfl hb5) rfl ⟨rfl, hb⟩

theorem code_at (s : Nat) (hs : s < 257) : codeL[s]? = some (code s) := by
  rw [code, List.getD_eq_getElem?_getD, List.getElem?_eq_getElem (by rw [codeL_length]; omega)]
  rfl
theorem idx_codes (s : Nat) (hs : s < 257) (w : World) : (Instr.index 71 (.agg codeCells.toArray) (.int .i64 (s : Int))).run Tryd.prog w = .ok (.agg #[.int .u32 (((code s).1 : Nat) : Int), .int .i64 (((code s).2 : Nat) : Int)]) w := by
  have h := cellsP_at codeL s _ (code_at s hs)
  have hl := codeCells_length
  have he : codeCells.toArray.extract (s * 2) (s * 2 + 2) = #[.int .u32 (((code s).1 : Nat) : Int), .int .i64 (((code s).2 : Nat) : Int)] := by
    have h0 : (codeCells)[s * 2]'(by omega) = .int .u32 (((code s).1 : Nat) : Int) := by
      have := h.1; rw [← codeCells, List.getElem?_eq_getElem (by omega)] at this; exact Option.some.inj this
    have h1 : (codeCells)[s * 2 + 1]'(by omega) = .int .i64 (((code s).2 : Nat) : Int) := by
      have := h.2; rw [← codeCells, List.getElem?_eq_getElem (by omega)] at this; exact Option.some.inj this
    rw [List.extract_toArray]
    congr 1
    rw [List.extract_eq_take_drop, List.drop_eq_getElem_cons (by omega), List.drop_eq_getElem_cons (by omega), h0, h1, show s * 2 + 2 - s * 2 = 2 by omega]
    rfl
  have hz := zero_codes.2
  have h2 : ∀ w, (sizeOf 70).run Tryd.prog w = .ok 2 w := fun w => by kernel_rfl
  have h3 : ∀ w, (isAgg 70).run Tryd.prog w = .ok true w := fun w => by kernel_rfl
  simp [Instr.index, asIntOf, run_underlying Tryd.underlying71, h2, part, h3]
  rw [if_pos hs]
  simpa using he

end Go.Proofs.YtdmheinepkeglaaDoor
