/- Stage 10: FieldsKinds, the walk. -/
import Derived.Test.YtilabahcngjflaaDoorJlA
namespace Go.Proofs.YtilabahcngjflaaDoor
open Go.RowKit Go.Own Go.Tbl Go.Fie
set_option linter.unusedVariables false
set_option linter.unusedSimpArgs false
set_option maxRecDepth 100000
def lateQ : List (ByteArray × ByteArray) := [(nX, nY), (nMethod, nGet)]
def lateS : List (ByteArray × ByteArray) := [(nX, nY), (nStatus, n200)]
def cntB (bs : List Bool) (k : Nat) : Nat := ((bs.take k).filter id).length
theorem cntB_succ {bs : List Bool} {k : Nat} {b : Bool} (h : bs[k]? = some b) : cntB bs (k + 1) = cntB bs k + (if b then 1 else 0) := by
  unfold cntB
  rw [List.take_add_one, h]
  cases b <;> simp [List.filter_append]
theorem kinds_cnt (l : List Fld) : cntB [(request l).isSome, (response l).isSome, trailers l] 3 ≤ 1 := by
  unfold cntB
  cases hq : request l with
  | some m => rw [kinds_qs hq, kinds_qt hq]; exact Nat.le_refl _
  | none =>
    cases hs : response l with
    | some m => rw [kinds_st hs]; exact Nat.le_refl _
    | none => cases trailers l <;> decide
set_option maxHeartbeats 8000000 in
theorem lawKinds {W : World} {A : Option Addr} {n c : Nat} {l : List Fld} (s : FldsIn W A n c l) (hC : True) : Calls Tryd.prog 5 #[.slice A n c] W fun e w' => e = .returned (.bool true) ∧ Below W.heap.size W w' := by
  have G0 := Lib.hid (shown_c W)
  have hrd := s.rd
  have hok := s.ok
  have hn : n ≤ 9223372036854775807 := Nat.le_trans s.nc s.cm
  have HR := Lib.hid hrd
  have HO := Lib.hid hok
  obtain ⟨F, hF⟩ : ∃ F, fewL 200 l = F := ⟨_, rfl⟩
  have hFo : ∀ f ∈ F, fok f := by rw [← hF]; exact few_ok
  have hFl : F.length ≤ 200 := by rw [← hF]; exact few_len 200 l
  have HF := Lib.hid hF
  have HFo := Lib.hid hFo
  have HFl := Lib.hid hFl
  obtain ⟨M1, S1, A1, P1, st1, ln1, hm1⟩ := msgOf (request F)
  obtain ⟨M2, S2, A2, P2, st2, ln2, hm2⟩ := msgOf (response F)
  have HM1 := Lib.hid hm1
  have HM2 := Lib.hid hm2
  have hcnt := kinds_cnt F
  obtain ⟨qa, hqa⟩ : ∃ x, (request F).isSome = x := ⟨_, rfl⟩
  obtain ⟨qb, hqb⟩ : ∃ x, (response F).isSome = x := ⟨_, rfl⟩
  obtain ⟨qc, hqc⟩ : ∃ x, trailers F = x := ⟨_, rfl⟩
  rw [hqa, hqb, hqc] at hcnt
  have HQ : Hid (∀ (w : World) (A : Option Addr) (m c : Nat), Rd w 3 A m (fcellsL F) → m ≤ 200 → Calls Tryd.prog 14 #[.slice A m c] w fun e w' => e = .returned (.tuple #[.agg #[.string M1, .string S1, .string A1, .string P1, .int .i64 st1, .int .i64 ln1], .bool qa]) ∧ Below w.heap.size w w') := fun w A m c hr hm => by
    have := request_c (c := c) hr HFo.out (by omega) _ _ _ _ _ _ HM1.out
    rwa [hqa] at this
  have HS : Hid (∀ (w : World) (A : Option Addr) (m c : Nat), Rd w 3 A m (fcellsL F) → m ≤ 200 → Calls Tryd.prog 15 #[.slice A m c] w fun e w' => e = .returned (.tuple #[.agg #[.string M2, .string S2, .string A2, .string P2, .int .i64 st2, .int .i64 ln2], .bool qb]) ∧ Below w.heap.size w w') := fun w A m c hr hm => by
    have := response_c (c := c) hr HFo.out (by omega) _ _ _ _ _ _ HM2.out
    rwa [hqb] at this
  have HT : Hid (∀ (w : World) (A : Option Addr) (m c : Nat), Rd w 3 A m (fcellsL F) → m ≤ 200 → Calls Tryd.prog 16 #[.slice A m c] w fun e w' => e = .returned (.bool qc) ∧ Below w.heap.size w w') := fun w A m c hr hm => by
    have := trailers_c (c := c) hr HFo.out (by omega)
    rwa [hqc] at this
  have HCn := Lib.hid hcnt
  clear hrd hok hF hFo hFl hm1 hm2 hqa hqb hqc hcnt s
  go_enter Tryd.func5, Tryd.ntmps5
  go_wp2_with (first
    | (go_at_call 10; (with_reducible refine G0.out.mono ?_); rintro e w1 ⟨rfl, hb1⟩
       have B1 := Lib.hid hb1
       have G1 := Lib.hid (few_c (c := c) (HR.out.below hb1) hn HO.out 200 (by omega) 200 rfl)
       clear hb1 G0)
    | (go_at_call 11; (with_reducible refine G1.out.mono ?_); rintro e w2 ⟨Af, cf, m, rfl, hm, s2⟩
       rw [HF.out] at hm s2
       have hml : m ≤ 200 := hm ▸ HFl.out
       have R2 := Lib.hid (Rd.of_own s2.own0)
       have B2 := Lib.hid (below_from B1.out s2.below)
       have G2 := Lib.hid (HQ.out _ _ _ cf R2.out hml)
       clear hm s2 B1 G1)
    | (go_at_call 14; (with_reducible refine G2.out.mono ?_); rintro e w3 ⟨rfl, hb3⟩
       have hb := below_al hb3 (.cells #[.string M1, .string S1, .string A1, .string P1, .int .i64 st1, .int .i64 ln1] 28)
       have R3 := Lib.hid (R2.out.below hb)
       have B3 := Lib.hid (below_from B2.out hb)
       have G3 := Lib.hid (HS.out _ _ _ cf R3.out hml)
       clear hb3 hb R2 B2 G2)
    | (go_at_call 15; (with_reducible refine G3.out.mono ?_); rintro e w4 ⟨rfl, hb4⟩
       have hb := below_al hb4 (.cells #[.string M2, .string S2, .string A2, .string P2, .int .i64 st2, .int .i64 ln2] 28)
       have R4 := Lib.hid (R3.out.below hb)
       have B4 := Lib.hid (below_from B3.out hb)
       have G4 := Lib.hid (HT.out _ _ _ cf R4.out hml)
       clear hb4 hb R3 B3 G3)
    | (go_at_call 16; (with_reducible refine G4.out.mono ?_); rintro e w5 ⟨rfl, hb5⟩
       have R5 := Lib.hid (R4.out.below hb5)
       have B5 := Lib.hid (below_from B4.out hb5)
       have E5 := Lib.hid (own_empty w5)
       have C5 := Lib.hid (R5.out.below ((Below.refl _ _).alloc (Nat.le_refl _) (.cells #[] 34)))
       clear hb5 R4 B4 G4)
    | (at_builtin
       refine wpList_append_new rfl (.tmp 32) (.tmp 33) 22 rfl EF (.slice (some ⟨w5.heap.size, 0, none⟩) 0 0) rfl E5.out Af m cf (fcellsL F) rfl C5.out (fcells_one _) (by omega) (by unfold maxLen; omega) (by simp) ?_
       intro A6 c6 w6 ho6 hf6 ho26
       have O6 := Lib.hid ho6
       have L6 := Lib.hid (app_below ((Below.refl w5.heap.size w5).alloc (Nat.le_refl _) _) E5.out hf6)
       have G6 := Lib.hid (of_b (w := w6) _ rfl [.string nX, .string nY, .string nMethod, .string nGet] 4 4 2 lateQ rfl rfl rfl (by omega))
       clear ho6 hf6 ho26 E5 C5)
    | (go_at_call 18; (with_reducible refine G6.out.mono ?_); rintro e w7 ⟨A7, c7, rfl, ho7, hb7⟩
       have O7 := Lib.hid (own_below O6.out hb7)
       have H7 := Lib.hid (Rd.of_own ho7)
       have L7 := Lib.hid (below_from L6.out hb7)
       clear ho7 hb7 O6 L6 G6)
    | (at_builtin
       refine wpList_append_rd rfl (.tmp 34) (.tmp 36) 22 rfl EF (.slice A6 m c6) m (fcellsL F) rfl O7.out A7 2 c7 (fcellsL (lateQ.map mkF)) rfl H7.out (fcells_one _) (by omega) (by unfold maxLen; omega) L7.out.size ?_
       intro A8 c8 w8 ho8 hf8 ho28
       rw [← fcellsL_append] at ho8
       have L8 := Lib.hid (app_below L7.out O7.out hf8)
       have G8 := Lib.hid (req_none (c := c8) (Rd.of_own ho8) (fok_app HFo.out (ok_of (by decide +kernel))) (by omega) (request_late F))
       have R8 := Lib.hid (R5.out.below L8.out)
       have B8 := Lib.hid (below_from B5.out L8.out)
       clear ho8 hf8 ho28 O7 H7 L7 R5 B5 L8)
    | (go_at_call 14; (with_reducible refine G8.out.mono ?_); rintro e w9 ⟨rfl, hb9⟩
       have hb := below_al hb9 (.cells #[.string ⟨#[]⟩, .string ⟨#[]⟩, .string ⟨#[]⟩, .string ⟨#[]⟩, .int .i64 0, .int .i64 0] 28)
       have R9 := Lib.hid (R8.out.below hb)
       have B9 := Lib.hid (below_from B8.out hb)
       have E9 := Lib.hid (own_empty (w9.alloc (.cells #[.string ⟨#[]⟩, .string ⟨#[]⟩, .string ⟨#[]⟩, .string ⟨#[]⟩, .int .i64 0, .int .i64 0] 28)))
       have C9 := Lib.hid (R9.out.below ((Below.refl _ _).alloc (Nat.le_refl _) (.cells #[] 34)))
       have Z9 : Hid ((w9.alloc (.cells #[.string ⟨#[]⟩, .string ⟨#[]⟩, .string ⟨#[]⟩, .string ⟨#[]⟩, .int .i64 0, .int .i64 0] 28)).heap.size = w9.heap.size + 1) := by simp [Hid]
       rw [Z9.out] at E9
       clear hb9 hb R8 B8 G8)
    | (at_builtin
       refine wpList_append_new rfl (.tmp 42) (.tmp 43) 22 rfl EF (.slice (some ⟨w9.heap.size + 1, 0, none⟩) 0 0) rfl E9.out Af m cf (fcellsL F) rfl C9.out (fcells_one _) (by omega) (by unfold maxLen; omega) (by simp) ?_
       intro A10 c10 w10 ho10 hf10 ho210
       have L10 : Hid (Below (w9.alloc (.cells #[.string ⟨#[]⟩, .string ⟨#[]⟩, .string ⟨#[]⟩, .string ⟨#[]⟩, .int .i64 0, .int .i64 0] 28)).heap.size (w9.alloc (.cells #[.string ⟨#[]⟩, .string ⟨#[]⟩, .string ⟨#[]⟩, .string ⟨#[]⟩, .int .i64 0, .int .i64 0] 28)) w10) := by
         have e9 := E9.out
         rw [← Z9.out] at e9 hf10
         exact app_below ((Below.refl _ _).alloc (Nat.le_refl _) _) e9 hf10
       have O10 : Hid (w10.ownsRow (w9.alloc (.cells #[.string ⟨#[]⟩, .string ⟨#[]⟩, .string ⟨#[]⟩, .string ⟨#[]⟩, .int .i64 0, .int .i64 0] 28)).heap.size 34 3 (.slice A10 m c10) m (fcellsL F)) := by rw [Z9.out]; exact ho10
       have G10 := Lib.hid (of_b (w := w10) _ rfl [.string nX, .string nY, .string nStatus, .string n200] 4 4 2 lateS rfl rfl rfl (by omega))
       clear ho10 hf10 ho210 E9 C9)
    | (go_at_call 18; (with_reducible refine G10.out.mono ?_); rintro e w11 ⟨A11, c11, rfl, ho11, hb11⟩
       have O11 := Lib.hid (own_below O10.out hb11)
       have H11 := Lib.hid (Rd.of_own ho11)
       have L11 := Lib.hid (below_from L10.out hb11)
       clear ho11 hb11 O10 L10 G10)
    | (at_builtin
       refine wpList_append_rd rfl (.tmp 44) (.tmp 46) 22 rfl EF (.slice A10 m c10) m (fcellsL F) rfl O11.out A11 2 c11 (fcellsL (lateS.map mkF)) rfl H11.out (fcells_one _) (by omega) (by unfold maxLen; omega) L11.out.size ?_
       intro A12 c12 w12 ho12 hf12 ho212
       rw [← fcellsL_append] at ho12
       have L12 := Lib.hid (app_below L11.out O11.out hf12)
       have G12 := Lib.hid (resp_none (c := c12) (Rd.of_own ho12) (fok_app HFo.out (ok_of (by decide +kernel))) (by omega) (response_late F))
       have B12 := Lib.hid (below_from B9.out L12.out)
       clear ho12 hf12 ho212 O11 H11 L11 B9 R9 L12)
    | (go_at_call 15; (with_reducible refine G12.out.mono ?_); rintro e w13 ⟨rfl, hb13⟩
       have B13 := Lib.hid (below_from B12.out (below_al (below_al hb13 (.cells #[.string ⟨#[]⟩, .string ⟨#[]⟩, .string ⟨#[]⟩, .string ⟨#[]⟩, .int .i64 0, .int .i64 0] 28)) (.cells #[.bool qa, .bool qb, .bool qc] 4)))
       have hx := (Blk.new (w13.alloc (.cells #[.string ⟨#[]⟩, .string ⟨#[]⟩, .string ⟨#[]⟩, .string ⟨#[]⟩, .int .i64 0, .int .i64 0] 28)) 4 [.bool qa, .bool qb, .bool qc])
       have X13 : Hid (Blk ((w13.alloc (.cells #[.string ⟨#[]⟩, .string ⟨#[]⟩, .string ⟨#[]⟩, .string ⟨#[]⟩, .int .i64 0, .int .i64 0] 28)).alloc (.cells #[.bool qa, .bool qb, .bool qc] 4)) (w13.heap.size + 1) 4 [.bool qa, .bool qb, .bool qc]) := by
         rw [show (w13.alloc (.cells #[.string ⟨#[]⟩, .string ⟨#[]⟩, .string ⟨#[]⟩, .string ⟨#[]⟩, .int .i64 0, .int .i64 0] 28)).heap.size = w13.heap.size + 1 by simp] at hx
         exact hx
       clear hb13 hx G12 B12))
  go_loopg [13, 56] 3 (fun gh nn i w' => ∃ k : Nat, gh + k = 3 ∧ i = .int .i64 (k : Int) ∧ nn = .int .i64 ((cntB [qa, qb, qc] k : Nat) : Int) ∧ Below W.heap.size W w' ∧ Blk w' (w13.heap.size + 1) 4 [.bool qa, .bool qb, .bool qc])
  case atStart => exact ⟨0, by omega, rfl, rfl, B13.out, X13.out⟩
  case round =>
    obtain ⟨k, hk, rfl, rfl, hbw, hx⟩ := hrel
    have HBw := Lib.hid hbw
    have HX := Lib.hid hx
    obtain ⟨q, hq⟩ : ∃ q, cntB [qa, qb, qc] k = q := ⟨_, rfl⟩
    rw [hq]
    clear hbw
    cases gk with
    | zero =>
      obtain rfl : k = 3 := by omega
      have hq1 : (q : Int) ≤ 1 := by have := HCn.out; omega
      clear hx hq
      go_wp2
      go_ret
      exact ⟨rfl, HBw.out⟩
    | succ g1 =>
      have hk3 : k < 3 := by omega
      have k1 : (k : Int) < 3 := by omega
      obtain ⟨y, hy⟩ : ∃ y, [qa, qb, qc][k]? = some y := ⟨_, List.getElem?_eq_getElem (by simpa using hk3)⟩
      have hcell : wr.cell? ⟨w13.heap.size + 1, k, none⟩ = some (.bool y) := by
        rw [hx.cell]
        rw [show [Value.bool qa, .bool qb, .bool qc] = [qa, qb, qc].map Value.bool from rfl, List.getElem?_map, hy]
        rfl
      have hs := cntB_succ hy
      have hq3 : q ≤ 3 := by rw [← hq]; unfold cntB; exact Nat.le_trans (List.length_filter_le _ _) (by simp; omega)
      rw [hq] at hs
      have HS1 := Lib.hid hs
      clear hx hy hs hq
      cases y
      · go_wp2
        go_roundg g1
        case measure => omega
        case rel => exact ⟨k + 1, by omega, by go_num, by rw [HS1.out]; rfl, HBw.out, HX.out⟩
      · go_wp2
        go_roundg g1
        case measure => omega
        case rel => exact ⟨k + 1, by omega, by go_num, by rw [HS1.out]; go_num, HBw.out, HX.out⟩
end Go.Proofs.YtilabahcngjflaaDoor
