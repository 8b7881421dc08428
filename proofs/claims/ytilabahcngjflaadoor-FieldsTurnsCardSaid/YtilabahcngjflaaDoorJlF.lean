/- Stage 10: FieldsForward, the walk. -/
import Derived.Test.YtilabahcngjflaaDoorJlA
import Derived.Laws.StructEq
namespace Go.Proofs.YtilabahcngjflaaDoor
open Go.RowKit Go.Own Go.Tbl Go.Fie
set_option linter.unusedVariables false
set_option linter.unusedSimpArgs false
set_option maxRecDepth 100000
theorem msg_eql (M S A P : ByteArray) (st ln : Int) (W : World) : (binOp .eql 28 (.agg #[.string M, .string S, .string A, .string P, .int .i64 st, .int .i64 ln]) (.agg #[.string M, .string S, .string A, .string P, .int .i64 st, .int .i64 ln])).run Tryd.prog W = .ok (.bool true) W := by
  rw [run_eql_struct, run_equalIn_agg _ _ _ _ _ (by kernel_rfl) (by kernel_rfl)]
  simp [Program.fieldsOf, Tryd.underlying28, Op.eqFields, go_sem]
theorem same_c {w : World} {A B : Option Addr} {n c d : Nat} {l : List Fld} (ha : Rd w 3 A n (fcellsL l)) (hb : Rd w 3 B n (fcellsL l)) (hlen : l.length = n) (hn : n ≤ 4611686018427387904) :
    Calls Tryd.prog 13 #[.slice A n c, .slice B n d] w fun e w' => e = .returned (.bool true) ∧ Below w.heap.size w w' := by
  have Ha := Lib.hid ha
  have Hb := Lib.hid hb
  have Hl := Lib.hid hlen
  clear ha hb hlen
  go_enter Tryd.func13, Tryd.ntmps13
  go_wp2
  go_loopg [5] n (fun gh i w' => ∃ (k q : Nat), gh + k = n ∧ i = .int .i64 (k : Int) ∧ w' = w.drewN q)
  case atStart => exact ⟨0, 0, by omega, rfl, rfl⟩
  case round =>
    obtain ⟨k, q, hk, rfl, rfl⟩ := hrel
    cases gk with
    | succ g1 =>
      have hkN : k < n := by omega
      obtain ⟨x, hx⟩ : ∃ x, l[k]? = some x := ⟨_, List.getElem?_eq_getElem (by rw [Hl.out]; exact hkN)⟩
      obtain ⟨b1, o1, rfl, d0, d1, d2⟩ := rd_fld Ha.out hx
      obtain ⟨b2, o2, rfl, e0, e1, e2⟩ := rd_fld Hb.out hx
      have k1 : (k : Int) < (n : Int) := by omega
      clear hx
      go_wp2
      go_quiet (fail)
      go_wp2
      go_roundg g1
      case measure => omega
      case rel => exact ⟨k + 1, _, by omega, by go_num, rfl⟩
    | zero =>
      obtain rfl : k = n := by omega
      go_wp2
      go_ret
      exact ⟨rfl, below_drewN (Below.refl _ _) _⟩
theorem fwd_ok {F : List Fld} (h : ∀ f ∈ F, fok f) : ∀ f ∈ fwd F, fok f := fun f hf => h f (List.mem_filter.1 hf).1
theorem fwd_len (F : List Fld) : (fwd F).length ≤ F.length := List.length_filter_le _ _
set_option maxHeartbeats 16000000 in
theorem lawForward {W : World} {A : Option Addr} {n c : Nat} {l : List Fld} (s : FldsIn W A n c l) (hC : True) : Calls Tryd.prog 3 #[.slice A n c] W fun e w' => e = .returned (.bool true) ∧ Below W.heap.size W w' := by
  have G0 := Lib.hid (shown_c W)
  have hrd := s.rd
  have hok := s.ok
  have hn : n ≤ 9223372036854775807 := Nat.le_trans s.nc s.cm
  have HR := Lib.hid hrd
  have HO := Lib.hid hok
  obtain ⟨F, hF⟩ : ∃ F, fewL 200 l = F := ⟨_, rfl⟩
  have hFo : ∀ f ∈ F, fok f := by rw [← hF]; exact few_ok
  have hFl : F.length ≤ 200 := by rw [← hF]; exact few_len 200 l
  obtain ⟨V, hV⟩ : ∃ V, fwd F = V := ⟨_, rfl⟩
  have hVo : ∀ f ∈ V, fok f := by rw [← hV]; exact fwd_ok hFo
  have hVl : V.length ≤ 200 := by rw [← hV]; exact Nat.le_trans (fwd_len F) hFl
  have hVV : fwd V = V := by rw [← hV]; exact fwd_fwd F
  have hszF : szs F ≤ 806400 := by
    have key : ∀ (L : List Fld), (∀ f ∈ L, f.n.size ≤ 2000 ∧ f.v.size ≤ 2000) → szs L ≤ L.length * 4032 := by
      intro L
      induction L with
      | nil => intro _; simp [szs]
      | cons f r ih =>
        intro h
        have h1 := h f List.mem_cons_self
        have h2 := ih (fun g hg => h g (List.mem_cons_of_mem _ hg))
        rw [szs, List.length_cons]
        unfold sz
        omega
    have h1 := key F (by rw [← hF]; exact few_sz)
    omega
  have hszV : szs V ≤ szs F := by rw [← hV]; exact szs_fwd F
  obtain ⟨zF, hzF⟩ : ∃ z, szs F = z := ⟨_, rfl⟩
  obtain ⟨zV, hzV⟩ : ∃ z, szs V = z := ⟨_, rfl⟩
  rw [hzF] at hszF hszV
  rw [hzV] at hszV
  have hfq : ∀ m, request F = some m → request V = some m := fun m h => by rw [← hV]; exact request_fwd h
  have hfs : ∀ m, response F = some m → response V = some m := fun m h => by rw [← hV]; exact response_fwd h
  have hft : trailers F = true → trailers V = true := fun h => by rw [← hV]; exact trailers_fwd h
  obtain ⟨M1, S1, A1, P1, st1, ln1, hm1⟩ := msgOf (request F)
  obtain ⟨M2, S2, A2, P2, st2, ln2, hm2⟩ := msgOf (request V)
  obtain ⟨M3, S3, A3, P3, st3, ln3, hm3⟩ := msgOf (response F)
  obtain ⟨M4, S4, A4, P4, st4, ln4, hm4⟩ := msgOf (response V)
  obtain ⟨q1, hq1⟩ : ∃ x, (request F).isSome = x := ⟨_, rfl⟩
  obtain ⟨q2, hq2⟩ : ∃ x, (request V).isSome = x := ⟨_, rfl⟩
  obtain ⟨q3, hq3⟩ : ∃ x, (response F).isSome = x := ⟨_, rfl⟩
  obtain ⟨q4, hq4⟩ : ∃ x, (response V).isSome = x := ⟨_, rfl⟩
  obtain ⟨q5, hq5⟩ : ∃ x, trailers F = x := ⟨_, rfl⟩
  obtain ⟨q6, hq6⟩ : ∃ x, trailers V = x := ⟨_, rfl⟩
  have w12 : q1 = false ∨ (q1 = true ∧ q2 = true ∧ M2 = M1 ∧ S2 = S1 ∧ A2 = A1 ∧ P2 = P1 ∧ st2 = st1 ∧ ln2 = ln1) := by
    cases hr : request F with
    | none => rw [hr] at hq1; exact .inl hq1.symm
    | some m =>
      have hv := hfq m hr
      rw [hr] at hq1 hm1
      rw [hv] at hq2 hm2
      have := hm2.symm.trans hm1
      simp only [Msg.mk.injEq] at this
      exact .inr ⟨hq1.symm, hq2.symm, this⟩
  have w34 : q3 = false ∨ (q3 = true ∧ q4 = true ∧ M4 = M3 ∧ S4 = S3 ∧ A4 = A3 ∧ P4 = P3 ∧ st4 = st3 ∧ ln4 = ln3) := by
    cases hr : response F with
    | none => rw [hr] at hq3; exact .inl hq3.symm
    | some m =>
      have hv := hfs m hr
      rw [hr] at hq3 hm3
      rw [hv] at hq4 hm4
      have := hm4.symm.trans hm3
      simp only [Msg.mk.injEq] at this
      exact .inr ⟨hq3.symm, hq4.symm, this⟩
  have w56 : q5 = false ∨ (q5 = true ∧ q6 = true) := by
    cases hr : trailers F with
    | false => rw [hr] at hq5; exact .inl hq5.symm
    | true => rw [hr] at hq5; rw [hft hr] at hq6; exact .inr ⟨hq5.symm, hq6.symm⟩
  have HF := Lib.hid hF
  have HFo := Lib.hid hFo
  have HFl := Lib.hid hFl
  have HV := Lib.hid hV
  have HVo := Lib.hid hVo
  have HVl := Lib.hid hVl
  have HVV := Lib.hid hVV
  have HZF := Lib.hid hzF
  have HZV := Lib.hid hzV
  have HM1 := Lib.hid hm1
  have HM2 := Lib.hid hm2
  have HM3 := Lib.hid hm3
  have HM4 := Lib.hid hm4
  have W12 := Lib.hid w12
  have W34 := Lib.hid w34
  have W56 := Lib.hid w56
  have HQ1 : Hid (∀ (w : World) (A : Option Addr) (m c : Nat), Rd w 3 A m (fcellsL F) → m ≤ 200 → Calls Tryd.prog 14 #[.slice A m c] w fun e w' => e = .returned (.tuple #[.agg #[.string M1, .string S1, .string A1, .string P1, .int .i64 st1, .int .i64 ln1], .bool q1]) ∧ Below w.heap.size w w') := fun w A m c hr hm => by
    have := request_c (c := c) hr HFo.out (by omega) _ _ _ _ _ _ HM1.out
    rwa [hq1] at this
  have HQ2 : Hid (∀ (w : World) (A : Option Addr) (m c : Nat), Rd w 3 A m (fcellsL V) → m ≤ 200 → Calls Tryd.prog 14 #[.slice A m c] w fun e w' => e = .returned (.tuple #[.agg #[.string M2, .string S2, .string A2, .string P2, .int .i64 st2, .int .i64 ln2], .bool q2]) ∧ Below w.heap.size w w') := fun w A m c hr hm => by
    have := request_c (c := c) hr HVo.out (by omega) _ _ _ _ _ _ HM2.out
    rwa [hq2] at this
  have HQ3 : Hid (∀ (w : World) (A : Option Addr) (m c : Nat), Rd w 3 A m (fcellsL F) → m ≤ 200 → Calls Tryd.prog 15 #[.slice A m c] w fun e w' => e = .returned (.tuple #[.agg #[.string M3, .string S3, .string A3, .string P3, .int .i64 st3, .int .i64 ln3], .bool q3]) ∧ Below w.heap.size w w') := fun w A m c hr hm => by
    have := response_c (c := c) hr HFo.out (by omega) _ _ _ _ _ _ HM3.out
    rwa [hq3] at this
  have HQ4 : Hid (∀ (w : World) (A : Option Addr) (m c : Nat), Rd w 3 A m (fcellsL V) → m ≤ 200 → Calls Tryd.prog 15 #[.slice A m c] w fun e w' => e = .returned (.tuple #[.agg #[.string M4, .string S4, .string A4, .string P4, .int .i64 st4, .int .i64 ln4], .bool q4]) ∧ Below w.heap.size w w') := fun w A m c hr hm => by
    have := response_c (c := c) hr HVo.out (by omega) _ _ _ _ _ _ HM4.out
    rwa [hq4] at this
  have HT5 : Hid (∀ (w : World) (A : Option Addr) (m c : Nat), Rd w 3 A m (fcellsL F) → m ≤ 200 → Calls Tryd.prog 16 #[.slice A m c] w fun e w' => e = .returned (.bool q5) ∧ Below w.heap.size w w') := fun w A m c hr hm => by
    have := trailers_c (c := c) hr HFo.out (by omega)
    rwa [hq5] at this
  have HT6 : Hid (∀ (w : World) (A : Option Addr) (m c : Nat), Rd w 3 A m (fcellsL V) → m ≤ 200 → Calls Tryd.prog 16 #[.slice A m c] w fun e w' => e = .returned (.bool q6) ∧ Below w.heap.size w w') := fun w A m c hr hm => by
    have := trailers_c (c := c) hr HVo.out (by omega)
    rwa [hq6] at this
  have HE := msg_eql
  clear hrd hok hF hFo hFl hV hVo hVl hVV hzF hzV hfq hfs hft hm1 hm2 hm3 hm4 hq1 hq2 hq3 hq4 hq5 hq6 w12 w34 w56 s
  go_enter Tryd.func3, Tryd.ntmps3
  go_upto_region 9 with (first
    | (go_at_call 10; (with_reducible refine G0.out.mono ?_); rintro e w1 ⟨rfl, hb1⟩
       have B1 := Lib.hid hb1
       have G1 := Lib.hid (few_c (c := c) (HR.out.below hb1) hn HO.out 200 (by omega) 200 rfl)
       clear hb1 G0)
    | (go_at_call 11; (with_reducible refine G1.out.mono ?_); rintro e w2 ⟨Af, cf, m, rfl, hm, s2⟩
       rw [HF.out] at hm s2
       have hml : m ≤ 200 := hm ▸ HFl.out
       have R2 := Lib.hid (Rd.of_own s2.own0)
       have B2 := Lib.hid (below_from B1.out s2.below)
       have G2 := Lib.hid (forward_c (c := cf) R2.out (by omega))
       clear hm s2 B1 G1)
    | (go_at_call 12; (with_reducible refine G2.out.mono ?_); rintro e w3 ⟨Av, cv, k, rfl, hk, s3⟩
       rw [HV.out] at hk s3
       have hkl : k ≤ 200 := hk ▸ HVl.out
       have HK := Lib.hid hk
       have V3 := Lib.hid (Rd.of_own s3.own0)
       have R3 := Lib.hid (R2.out.below s3.below)
       have B3 := Lib.hid (below_from B2.out s3.below)
       have G3 := Lib.hid (forward_c (c := cv) V3.out (by omega))
       clear hk s3 R2 B2 G2)
    | (go_at_call 12; (with_reducible refine G3.out.mono ?_); rintro e w4 ⟨Aw, cw, k2, rfl, hk2, s4⟩
       rw [HVV.out] at hk2 s4
       obtain rfl : k2 = k := hk2.symm.trans HK.out
       have U4 := Lib.hid (Rd.of_own s4.own0)
       have V4 := Lib.hid (V3.out.below s4.below)
       have R4 := Lib.hid (R3.out.below s4.below)
       have B4 := Lib.hid (below_from B3.out s4.below)
       have G4 := Lib.hid (same_c (c := cw) (d := cv) U4.out V4.out HK.out (by omega))
       clear hk2 s4 R3 V3 B3 G3)
    | (go_at_call 13; (with_reducible refine G4.out.mono ?_); rintro e w5 ⟨rfl, hb5⟩
       have V5 := Lib.hid (V4.out.below hb5)
       have R5 := Lib.hid (R4.out.below hb5)
       have B5 := Lib.hid (below_from B4.out hb5)
       have G5 := Lib.hid (HQ1.out _ _ _ cf R5.out hml)
       clear hb5 R4 V4 U4 B4 G4)
    | (go_at_call 14; (with_reducible refine G5.out.mono ?_); rintro e w6 ⟨rfl, hb6⟩
       have hb := below_al hb6 (.cells #[.string M1, .string S1, .string A1, .string P1, .int .i64 st1, .int .i64 ln1] 28)
       have V6 := Lib.hid (V5.out.below hb)
       have R6 := Lib.hid (R5.out.below hb)
       have B6 := Lib.hid (below_from B5.out hb)
       have X6 := Lib.hid (Blk.new w6 28 [.string M1, .string S1, .string A1, .string P1, .int .i64 st1, .int .i64 ln1])
       have G6 := Lib.hid (HQ2.out _ _ _ cv V6.out hkl)
       clear hb6 hb R5 V5 B5 G5)
    | (go_at_call 14; (with_reducible refine G6.out.mono ?_); rintro e w7 ⟨rfl, hb7⟩
       have hb := below_al hb7 (.cells #[.string M2, .string S2, .string A2, .string P2, .int .i64 st2, .int .i64 ln2] 28)
       have V7 := Lib.hid (V6.out.below hb)
       have R7 := Lib.hid (R6.out.below hb)
       have B7 := Lib.hid (below_from B6.out hb)
       have X7 := Lib.hid (X6.out.below hb X6.out.lt)
       have Y7 := Lib.hid (Blk.new w7 28 [.string M2, .string S2, .string A2, .string P2, .int .i64 st2, .int .i64 ln2])
       have G7 := Lib.hid (HQ3.out _ _ _ cf R7.out hml)
       clear hb7 hb R6 V6 B6 X6 G6)
    | (go_at_call 15; (with_reducible refine G7.out.mono ?_); rintro e w8 ⟨rfl, hb8⟩
       have hb := below_al hb8 (.cells #[.string M3, .string S3, .string A3, .string P3, .int .i64 st3, .int .i64 ln3] 28)
       have V8 := Lib.hid (V7.out.below hb)
       have R8 := Lib.hid (R7.out.below hb)
       have B8 := Lib.hid (below_from B7.out hb)
       have X8 := Lib.hid (X7.out.below hb X7.out.lt)
       have Y8 := Lib.hid (Y7.out.below hb Y7.out.lt)
       have Z8 := Lib.hid (Blk.new w8 28 [.string M3, .string S3, .string A3, .string P3, .int .i64 st3, .int .i64 ln3])
       have G8 := Lib.hid (HQ4.out _ _ _ cv V8.out hkl)
       clear hb8 hb R7 V7 B7 X7 Y7 G7)
    | (go_at_call 15; (with_reducible refine G8.out.mono ?_); rintro e w9 ⟨rfl, hb9⟩
       have hb := below_al hb9 (.cells #[.string M4, .string S4, .string A4, .string P4, .int .i64 st4, .int .i64 ln4] 28)
       have V9 := Lib.hid (V8.out.below hb)
       have R9 := Lib.hid (R8.out.below hb)
       have B9 := Lib.hid (below_from B8.out hb)
       have x9 := X8.out.below hb X8.out.lt
       have y9 := Y8.out.below hb Y8.out.lt
       have z9 := Z8.out.below hb Z8.out.lt
       have u9 := Blk.new w9 28 [.string M4, .string S4, .string A4, .string P4, .int .i64 st4, .int .i64 ln4]
       have G9 := Lib.hid (HT5.out _ _ _ cf R9.out hml)
       obtain ⟨x0, x1, x2, x3, x4, x5⟩ := cells6 x9
       obtain ⟨y0, y1, y2, y3, y4, y5⟩ := cells6 y9
       obtain ⟨z0, z1, z2, z3, z4, z5⟩ := cells6 z9
       obtain ⟨u0, u1, u2, u3, u4, u5⟩ := cells6 u9
       clear hb9 hb R8 V8 B8 X8 Y8 Z8 G8 x9 y9 z9 u9))
  clear HQ1 HQ2 HQ3 HQ4 HM1 HM2 HM3 HM4 HF HV HVV HR HO
  rcases W12.out with rfl | ⟨rfl, rfl, rfl, rfl, rfl, rfl, rfl, rfl⟩ <;> rcases W34.out with rfl | ⟨rfl, rfl, rfl, rfl, rfl, rfl, rfl, rfl⟩ <;> rcases W56.out with rfl | ⟨rfl, rfl⟩
  all_goals
    have VV := V9
    have RR := R9
    have BB := B9
    clear V9 R9 B9
    have HSV : Hid (∀ (w : World) (A : Option Addr) (m c : Nat), Rd w 3 A m (fcellsL V) → m ≤ 200 → Calls Tryd.prog 17 #[.slice A m c] w fun e w' => e = .returned (.int .i64 (zV : Int)) ∧ Below w.heap.size w w') := fun w A m c hr hm => size_c hr (by omega) zV HZV.out (by omega)
    have HSF : Hid (∀ (w : World) (A : Option Addr) (m c : Nat), Rd w 3 A m (fcellsL F) → m ≤ 200 → Calls Tryd.prog 17 #[.slice A m c] w fun e w' => e = .returned (.int .i64 (zF : Int)) ∧ Below w.heap.size w w') := fun w A m c hr hm => size_c hr (by omega) zF HZF.out (by omega)
    have hzz : (zV : Int) ≤ (zF : Int) := by omega
    go_wp2_with (first
      | (go_at_call 16; (with_reducible refine G9.out.mono ?_); rintro e w10 ⟨rfl, hb10⟩
         have v1 := VV.out.below hb10
         have r1 := RR.out.below hb10
         have b1 := below_from BB.out hb10
         clear VV RR BB
         have VV := Lib.hid v1
         have RR := Lib.hid r1
         have BB := Lib.hid b1
         clear v1 r1 b1 hb10)
      | (go_at_call 16; (with_reducible refine (HT6.out _ _ _ cv VV.out hkl).mono ?_); rintro e w11 ⟨rfl, hb11⟩
         have v1 := VV.out.below hb11
         have r1 := RR.out.below hb11
         have b1 := below_from BB.out hb11
         clear VV RR BB
         have VV := Lib.hid v1
         have RR := Lib.hid r1
         have BB := Lib.hid b1
         clear v1 r1 b1 hb11)
      | (go_at_call 17; (with_reducible refine (HSV.out _ _ _ cv VV.out hkl).mono ?_); rintro e w12 ⟨rfl, hb12⟩
         have r1 := RR.out.below hb12
         have b1 := below_from BB.out hb12
         clear VV RR BB
         have RR := Lib.hid r1
         have BB := Lib.hid b1
         clear r1 b1 hb12)
      | (go_at_call 17; (with_reducible refine (HSF.out _ _ _ cf RR.out hml).mono ?_); rintro e w13 ⟨rfl, hb13⟩
         have b1 := below_from BB.out hb13
         clear RR BB
         have BB := Lib.hid b1
         clear b1 hb13))
    go_ret
    exact ⟨rfl, BB.out⟩
end Go.Proofs.YtilabahcngjflaaDoor
