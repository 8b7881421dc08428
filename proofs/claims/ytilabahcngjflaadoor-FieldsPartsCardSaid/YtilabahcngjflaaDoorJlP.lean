/- Stage 10: FieldsParts, the walk up to its drawn regions. -/
import Derived.Test.YtilabahcngjflaaDoorJlQ
import Derived.Deep.Cut
import Derived.Deep.DeepCutAuto
import Derived.Deep.CutBlock
namespace Go.Proofs.YtilabahcngjflaaDoor
open Go.RowKit Go.Own Go.Tbl Go.Fie
set_option linter.unusedVariables false
set_option linter.unusedSimpArgs false
set_option maxRecDepth 100000
set_option maxHeartbeats 16000000 in
theorem lawParts {W : World} {A : Option Addr} {n c : Nat} {l : List Fld} (s : FldsIn W A n c l) (f : Fld) (hf : fok f) {sp : ByteArray} (hsp : sp.size ≤ maxLen) (hC : True) : Calls Tryd.prog 4 #[.slice A n c, .agg #[.string f.n, .string f.v, .bool f.nv], .string sp] W fun e w' => e = .returned (.bool true) ∧ Below W.heap.size W w' := by
  obtain ⟨N, V, nv⟩ := f
  have hrd := s.rd
  have hok := s.ok
  have hn : n ≤ 9223372036854775807 := Nat.le_trans s.nc s.cm
  obtain ⟨w0, hw0⟩ : ∃ w0, W.alloc (.cells #[.string N, .string V, .bool nv] 34) = w0 := ⟨_, rfl⟩
  have hb0 : Below W.heap.size W w0 := by rw [← hw0]; exact below_al (Below.refl _ _) _
  have hx0 : Blk w0 W.heap.size 34 [.string N, .string V, .bool nv] := by rw [← hw0]; exact Blk.new W 34 _
  have G0 := Lib.hid (shown_c w0)
  have HR := Lib.hid (hrd.below hb0)
  have HO := Lib.hid hok
  have HB0 := Lib.hid hb0
  have HX0 := Lib.hid hx0
  obtain ⟨F, hF⟩ : ∃ F, fewL 100 l = F := ⟨_, rfl⟩
  have hFo : ∀ f ∈ F, fok f := by rw [← hF]; exact few_ok
  have hFl : F.length ≤ 100 := by rw [← hF]; exact few_len 100 l
  -- the one field more
  obtain ⟨f2, hf2⟩ : ∃ f2, clip ⟨N, V, nv⟩ = f2 := ⟨_, rfl⟩
  have hfw : fewL 1 [⟨N, V, nv⟩] = [f2] := by rw [← hf2]; rfl
  have hf2o : fok f2 := by
    have := clip_sz ⟨N, V, nv⟩
    rw [hf2] at this
    exact ⟨by omega, by omega⟩
  have hf2n : f2.nv = nv := by rw [← hf2]; rfl
  obtain ⟨N2, V2, nv2⟩ := f2
  obtain rfl : nv = nv2 := hf2n.symm
  -- the path
  obtain ⟨a, ha⟩ : ∃ a, sp.size = a := ⟨_, rfl⟩
  have hsl : a ≤ 9223372036854775807 := by rw [← ha]; unfold maxLen at hsp; omega
  obtain ⟨ma, hma⟩ : ∃ ma, min a 200 = ma := ⟨_, rfl⟩
  have ema : min (a : Int) 200 = (ma : Int) := by omega
  have la : ma ≤ a := by omega
  obtain ⟨T0, hT0⟩ : ∃ T, sp.extract 0 ma = T := ⟨_, rfl⟩
  have hT0s : T0.size ≤ 200 := by rw [← hT0, ByteArray.size_extract]; omega
  have hsum : ¬ 9223372036854775807 < 1 + T0.size := by omega
  obtain ⟨T, hT⟩ : ∃ T, ({ data := #[47] } ++ T0 : ByteArray) = T := ⟨_, rfl⟩
  have hTp : Lib.hasPrefix T.data.toList [47] = true := by rw [← hT]; exact slash_pre T0
  have hTs : T.size ≤ 201 := by
    rw [← hT, Lib.size_eq, ByteArray.data_append, Array.toList_append, List.length_append, ← Lib.size_eq]
    show 1 + _ ≤ _
    rw [← Lib.size_eq]
    omega
  have htop : ∀ f ∈ top T, fok f := by
    intro f hf
    simp only [top, List.mem_cons, List.not_mem_nil, or_false] at hf
    rcases hf with rfl | rfl | rfl
    · exact ⟨by show nMethod.size ≤ _; decide, by show nGet.size ≤ _; decide⟩
    · exact ⟨by show nScheme.size ≤ _; decide, by show nHttp.size ≤ _; decide⟩
    · exact ⟨by show nPath.size ≤ _; decide, by show T.size ≤ _; omega⟩
  have hone : ∀ f ∈ [(⟨N2, V2, nv⟩ : Fld)], fok f := fun f hf => by rw [List.mem_singleton.1 hf]; exact hf2o
  obtain ⟨M1, S1, A1, P1, st1, ln1, hm1⟩ := msgOf (request (top T ++ F))
  obtain ⟨M2, S2, A2, P2, st2, ln2, hm2⟩ := msgOf (request (top T ++ [⟨N2, V2, nv⟩]))
  obtain ⟨M3, S3, A3, P3, st3, ln3, hm3⟩ := msgOf (request (top T ++ F ++ [⟨N2, V2, nv⟩]))
  obtain ⟨qa, hqa⟩ : ∃ x, (request (top T ++ F)).isSome = x := ⟨_, rfl⟩
  obtain ⟨qb, hqb⟩ : ∃ x, (request (top T ++ [⟨N2, V2, nv⟩])).isSome = x := ⟨_, rfl⟩
  obtain ⟨qc, hqc⟩ : ∃ x, (request (top T ++ F ++ [⟨N2, V2, nv⟩])).isSome = x := ⟨_, rfl⟩
  have hplain : psd ⟨N2, V2, nv⟩ = false → N2 ≠ nCL → qc = (qa && qb) := fun h1 h2 => by
    rw [← hqa, ← hqb, ← hqc]
    exact parts_plain T hTp F ⟨N2, V2, nv⟩ h1 h2
  have hany : qc = true → qa = true := fun h => by
    rw [← hqa]
    rw [← hqc] at h
    exact parts_any T hTp F ⟨N2, V2, nv⟩ h
  have HQA : Hid (∀ (w : World) (A : Option Addr) (m c : Nat), Rd w 3 A m (fcellsL (top T ++ F)) → m ≤ 200 → Calls Tryd.prog 14 #[.slice A m c] w fun e w' => e = .returned (.tuple #[.agg #[.string M1, .string S1, .string A1, .string P1, .int .i64 st1, .int .i64 ln1], .bool qa]) ∧ Below w.heap.size w w') := fun w A m c hr hm => by
    have := request_c (c := c) hr (fok_app htop hFo) (by omega) _ _ _ _ _ _ hm1
    rwa [hqa] at this
  have HQB : Hid (∀ (w : World) (A : Option Addr) (m c : Nat), Rd w 3 A m (fcellsL (top T ++ [⟨N2, V2, nv⟩])) → m ≤ 200 → Calls Tryd.prog 14 #[.slice A m c] w fun e w' => e = .returned (.tuple #[.agg #[.string M2, .string S2, .string A2, .string P2, .int .i64 st2, .int .i64 ln2], .bool qb]) ∧ Below w.heap.size w w') := fun w A m c hr hm => by
    have := request_c (c := c) hr (fok_app htop hone) (by omega) _ _ _ _ _ _ hm2
    rwa [hqb] at this
  have HQC : Hid (∀ (w : World) (A : Option Addr) (m c : Nat), Rd w 3 A m (fcellsL (top T ++ F ++ [⟨N2, V2, nv⟩])) → m ≤ 200 → Calls Tryd.prog 14 #[.slice A m c] w fun e w' => e = .returned (.tuple #[.agg #[.string M3, .string S3, .string A3, .string P3, .int .i64 st3, .int .i64 ln3], .bool qc]) ∧ Below w.heap.size w w') := fun w A m c hr hm => by
    have := request_c (c := c) hr (fok_app (fok_app htop hFo) hone) (by omega) _ _ _ _ _ _ hm3
    rwa [hqc] at this
  have HF := Lib.hid hF
  have HFl := Lib.hid hFl
  have HFW := Lib.hid hfw
  have HPL := Lib.hid hplain
  have HAN := Lib.hid hany
  have Hf := Lib.hid hf
  clear hrd hok hF hFo hFl hf2 hfw hf2o hma hT0s hTp hTs htop hone hm1 hm2 hm3 hqa hqb hqc hplain hany s hf hsp hb0 hx0
  go_enter Tryd.func4, Tryd.ntmps4
  go_upto_region 4 with (first
    | (go_at_call 10; (with_reducible refine G0.out.mono ?_); rintro e w1 ⟨rfl, hb1⟩
       have B1 := Lib.hid (below_from HB0.out hb1)
       have X1 := Lib.hid (HX0.out.below hb1 HX0.out.lt)
       have G1 := Lib.hid (few_c (c := c) (HR.out.below hb1) hn HO.out 100 (by omega) 100 rfl)
       clear hb1 G0)
    | (go_at_call 11; (with_reducible refine G1.out.mono ?_); rintro e w2 ⟨Af, cf, m, rfl, hm, s2⟩
       rw [HF.out] at hm s2
       have hml : m ≤ 100 := hm ▸ HFl.out
       have B2 := Lib.hid (below_from B1.out s2.below)
       have X2 := Lib.hid (X1.out.below s2.below X1.out.lt)
       obtain ⟨x0, x1, x2⟩ := cells3 X2.out
       have O2 := Lib.hid (own_lower (B := W.heap.size + 1) s2.own0 X1.out.lt)
       have Y2 := Lib.hid (Blk.new w2 34 [.string N, .string V, .bool nv])
       have b3 : Below w2.heap.size w2 (w2.alloc (.cells #[.string N, .string V, .bool nv] 34)) := below_al (Below.refl _ _) _
       have B3 := Lib.hid (below_from B2.out b3)
       have X3 := Lib.hid (X2.out.below b3 X2.out.lt)
       have O3 := Lib.hid (own_below O2.out b3)
       have G3 := Lib.hid (few_c (c := 1) (rd_one (f := ⟨N, V, nv⟩) Y2.out) (by omega) (fun f hf => by rw [List.mem_singleton.1 hf]; exact Hf.out) 1 (by omega) 1 rfl)
       clear s2 b3 G1 HR B1 B2 X1 X2 O2)
    | (go_at_call 11; (with_reducible refine G3.out.mono ?_); rintro e w4 ⟨A4, c4, m4, rfl, hm4, s4⟩
       rw [HFW.out] at hm4 s4
       obtain rfl : m4 = 1 := hm4.symm
       have B4 := Lib.hid (below_from B3.out s4.below)
       have X4 := Lib.hid (X3.out.below s4.below X3.out.lt)
       have O4 := Lib.hid (own_below O3.out s4.below)
       obtain ⟨y0, y1, y2⟩ := cells3 X4.out
       have fx := X4.out.frozen
       obtain ⟨bb, oo, hA4, d0, d1, d2⟩ := rd_fld (f := ⟨N2, V2, nv⟩) (k := 0) (Rd.of_own s4.own0) rfl
       cases hA4
       simp only [Nat.zero_mul, Nat.add_zero] at d0 d1 d2
       clear s4 G3 B3 X3 O3 Y2 hm4))
  have X5 : Hid (Blk (((w4.setCell ⟨W.heap.size, 0, none⟩ (.string N2)).setCell ⟨W.heap.size, 1, none⟩ (.string V2)).setCell ⟨W.heap.size, 2, none⟩ (.bool nv)) W.heap.size 34 [.string N2, .string V2, .bool nv]) :=
    ((X4.out.set_ 0 (.string N2)).set_ 1 (.string V2)).set_ 2 (.bool nv)
  have fr5 : Fr (· = W.heap.size) w4 (((w4.setCell ⟨W.heap.size, 0, none⟩ (.string N2)).setCell ⟨W.heap.size, 1, none⟩ (.string V2)).setCell ⟨W.heap.size, 2, none⟩ (.bool nv)) :=
    by refine Fr.setCell (Fr.setCell (Fr.setCell (Fr.refl _ _) (.inl ?_) _) (.inl ?_) _) (.inl ?_) _ <;> rfl
  have O5 := Lib.hid (own_fr O4.out fr5 (fun g hg e => by have := (O4.out.lt g hg).1; omega))
  have B5 := Lib.hid (B4.out.trans (fr5.below B4.out.size (fun i _ e => by omega)))
  clear O4 B4 X4 y0 y1 y2 fx fr5 d0 d1 d2
  generalize (((w4.setCell ⟨W.heap.size, 0, none⟩ (.string N2)).setCell ⟨W.heap.size, 1, none⟩ (.string V2)).setCell ⟨W.heap.size, 2, none⟩ (.bool nv)) = w5 at X5 O5 B5 ⊢
  have G5 := Lib.hid (of_b (w := w5) _ rfl [.string nMethod, .string nGet, .string nScheme, .string nHttp, .string nPath, .string T] 6 6 3 [(nMethod, nGet), (nScheme, nHttp), (nPath, T)] rfl rfl rfl (by omega))
  go_upto_region 6 with (first
    | (go_at_call 18; (with_reducible refine G5.out.mono ?_); rintro e w6 ⟨A6, c6, rfl, ho6, hb6⟩
       have P6 : Hid (PW W w6 N2 V2 nv Af m F A6 T) := ⟨below_from B5.out hb6, X5.out.below hb6 X5.out.lt, (Rd.of_own O5.out).below hb6, Rd.of_own ho6⟩
       have E7 := Lib.hid (own_empty w6)
       have L7 := Lib.hid (below_al (Below.refl w6.heap.size w6) (.cells #[] 34))
       have C7 := Lib.hid (P6.out.below L7.out).t
       clear ho6 hb6 G5 B5 X5 O5)
    | (at_builtin
       refine wpList_append_new rfl (.tmp 32) (.tmp 33) 22 rfl EF (.slice (some ⟨w6.heap.size, 0, none⟩) 0 0) rfl E7.out A6 3 c6 (fcellsL (top T)) rfl C7.out (fcells_one _) (by omega) (by unfold maxLen; omega) (by simp) ?_
       intro A8 c8 w8 ho8 hf8 ho28
       have L8 := Lib.hid (app_below L7.out E7.out hf8)
       have O8 := Lib.hid ho8
       have C8 := Lib.hid (P6.out.below L8.out).o
       clear ho8 hf8 ho28 E7 L7 C7)
    | (at_builtin
       refine wpList_append_rd rfl (.tmp 34) (.tmp 35) 22 rfl EF (.slice A8 3 c8) 3 (fcellsL (top T)) rfl O8.out Af m cf (fcellsL F) rfl C8.out (fcells_one _) (by omega) (by unfold maxLen; omega) L8.out.size ?_
       intro A9 c9 w9 ho9 hf9 ho29
       rw [← fcellsL_append] at ho9
       have L9 := Lib.hid (app_below L8.out O8.out hf9)
       have G9 := Lib.hid (HQA.out _ _ _ c9 (Rd.of_own ho9) (by omega))
       clear ho9 hf9 ho29 O8 L8 C8)
    | (go_at_call 14; (with_reducible refine G9.out.mono ?_); rintro e w10 ⟨rfl, hb10⟩
       have P10 := Lib.hid (P6.out.below (below_from L9.out (below_al hb10 (.cells #[.string M1, .string S1, .string A1, .string P1, .int .i64 st1, .int .i64 ln1] 28))))
       clear hb10 P6 L9 G9))
  obtain ⟨w11, hw11⟩ : ∃ w, w10.alloc (.cells #[.string M1, .string S1, .string A1, .string P1, .int .i64 st1, .int .i64 ln1] 28) = w := ⟨_, rfl⟩
  rw [hw11] at P10 ⊢
  clear hw11
  go_cut [12] (fun x wx => x = .bool qb ∧ Below w11.heap.size w11 wx)
  case first =>
    have HB := Lib.hid ((Below.refl w11.heap.size w11).drew)
    refine wp_region_held_drew (S := (fun w2 => w2.cell? ⟨W.heap.size, 0, none⟩ = some (.string N2) ∧ w2.cell? ⟨W.heap.size, 1, none⟩ = some (.string V2) ∧ w2.cell? ⟨W.heap.size, 2, none⟩ = some (.bool nv))) (by kernel_rfl) ?_ (fun hHeld => ?_)
    · exact cells3 (P10.out.below HB.out).x
    generalize w11.drew = wr0 at HB hHeld ⊢
    refine wpAnyH_take (i := 1) (oi := a1) (v := ?_) rfl (by kernel_rfl) (by kernel_rfl) (by kernel_rfl) (fun _ _ _ h => h) (Or.inl ⟨by kernel_rfl, ?_⟩) hHeld ?_
    rotate_left
    · intro w hS; clear hS; unfold a1; go_simp; try with_reducible rfl
    simp only [pS, s0, sS, a1]
    refine wpAnyH_take (i := 3) (oi := a3) (v := ?_) rfl (by kernel_rfl) (by kernel_rfl) (by kernel_rfl) (fun _ _ _ h => h) (Or.inl ⟨by kernel_rfl, ?_⟩) hHeld ?_
    rotate_left
    · intro w hS; (try dsimp only at hS); unfold a3; go_simp; try with_reducible rfl
    simp only [pS, s0, sS, a3]
    refine wpAnyH_ready (rs := [0, 4, 10]) (by kernel_rfl) (by simp) ?_
    refine AllReadyH.cons rfl (fun K hK => ?_) (AllReadyH.cons rfl (fun K hK => ?_) (AllReadyH.cons rfl (fun K hK => ?_) (AllReadyH.nil)))
    ·
     go_simp
     try go_wp2_with (fail)
     have hB := HB.out.alloc HB.out.size (.cells #[] 34)
     have hE := own_lower (own_empty wr0) HB.out.size
     generalize (wr0.alloc (.cells #[] 34)) = wr1 at hB hE ⊢
     clear HB
     have HB := Lib.hid hB
     have HE := Lib.hid hE
     clear hB hE
     clear hHeld
     refine hK.out _ _ (cells3 (P10.out.below HB.out).x) (fun hHeld => ?_)
     clear hK K
     try simp only [pS, s0, sS]
     refine wpAnyH_ready (rs := [2, 4, 10]) (by kernel_rfl) (by simp) ?_
     refine AllReadyH.cons rfl (fun K hK => ?_) (AllReadyH.cons rfl (fun K hK => ?_) (AllReadyH.cons rfl (fun K hK => ?_) (AllReadyH.nil)))
     ·
      refine step_append_rd rfl (.tmp 41) (.tmp 42) 22 rfl EF (.slice (some ⟨wr0.heap.size, 0, none⟩) (0) 0) (0) [] rfl HE.out A6 3 c6 (fcellsL (top T)) rfl (P10.out.below HB.out).t (fcells_one _) (by omega) (by unfold maxLen; omega) HB.out.size ?_
      intro Ar3 cr4 wr2 hE hf h2
      simp only [Nat.zero_add, List.nil_append] at hE h2 ⊢
      have hB := app_below HB.out HE.out hf
      clear hf h2
      clear HB HE
      have HB := Lib.hid hB
      have HE := Lib.hid hE
      clear hB hE
      clear hHeld
      refine hK.out _ _ (cells3 (P10.out.below HB.out).x) (fun hHeld => ?_)
      clear hK K
      try simp only [pS, s0, sS]
      refine wpAnyH_ready (rs := [4, 10]) (by kernel_rfl) (by simp) ?_
      refine AllReadyH.cons rfl (fun K hK => ?_) (AllReadyH.cons rfl (fun K hK => ?_) (AllReadyH.nil))
      ·
       go_simp
       try go_wp2_with (fail)
       have hB := HB.out.alloc HB.out.size (.cells #[.string N2, .string V2, .bool nv] 34)
       have hX := Blk.new wr2 34 [.string N2, .string V2, .bool nv]
       have HD : Hid ((Value.slice (Ar3) (3) cr4).ownBlock ≠ some wr2.heap.size) := fun e => by have := (HE.out.lt _ e).2; omega
       have hE := own_below HE.out (below_al (Below.refl wr2.heap.size wr2) (.cells #[.string N2, .string V2, .bool nv] 34))
       generalize (wr2.alloc (.cells #[.string N2, .string V2, .bool nv] 34)) = wr5 at hB hX hE ⊢
       clear HB HE
       have HB := Lib.hid hB
       have HX := Lib.hid hX
       have HE := Lib.hid hE
       clear hB hX hE
       clear hHeld
       refine hK.out _ _ (cells3 (P10.out.below HB.out).x) (fun hHeld => ?_)
       clear hK K
       try simp only [pS, s0, sS]
       refine wpAnyH_ready (rs := [5, 10]) (by kernel_rfl) (by simp) ?_
       refine AllReadyH.cons rfl (fun K hK => ?_) (AllReadyH.cons rfl (fun K hK => ?_) (AllReadyH.nil))
       ·
        refine step_append_rd rfl (.tmp 43) (.tmp 45) 22 rfl EF (.slice (Ar3) (3) cr4) (3) (fcellsL (top T)) rfl HE.out (some ⟨wr2.heap.size, 0, none⟩) 1 1 (fcellsL ([⟨N2, V2, nv⟩])) rfl (rd_one (f := ⟨N2, V2, nv⟩) HX.out) (fcells_one _) (by omega) (by unfold maxLen; omega) HB.out.size ?_
        intro Ar7 cr8 wr6 hE hf h2
        rw [← fcellsL_append] at hE
        have hB := app_below HB.out HE.out hf
        clear HX HD
        clear hf h2
        clear HB HE
        have HB := Lib.hid hB
        have HE := Lib.hid hE
        clear hB hE
        clear hHeld
        refine hK.out _ _ (cells3 (P10.out.below HB.out).x) (fun hHeld => ?_)
        clear hK K
        try simp only [pS, s0, sS]
        refine wpAnyH_ready (rs := [6, 10]) (by kernel_rfl) (by simp) ?_
        refine AllReadyH.cons rfl (fun K hK => ?_) (AllReadyH.cons rfl (fun K hK => ?_) (AllReadyH.nil))
        ·
         go_simp
         go_wp2_with (first
           | (go_at_call 14; (with_reducible refine (HQB.out _ _ _ cr8 (Rd.of_own HE.out) (by omega)).mono ?_); rintro e wr9 ⟨rfl, hb⟩
              have hB := HB.out.trans (hb.mono HB.out.size)
              clear hb
              clear HB HE
              have HB := Lib.hid hB
              clear hB))
         clear hHeld
         refine hK.out _ _ (cells3 (P10.out.below HB.out).x) (fun hHeld => ?_)
         clear hK K
         try simp only [pS, s0, sS]
         refine wpAnyH_take (i := 7) (oi := a7) (v := ?_) rfl (by kernel_rfl) (by kernel_rfl) (by kernel_rfl) (fun _ _ _ h => h) (Or.inl ⟨by kernel_rfl, ?_⟩) hHeld ?_
         rotate_left
         · intro w hS; clear hS; unfold a7; go_simp; try with_reducible rfl
         simp only [pS, s0, sS, a7]
         refine wpAnyH_take (i := 8) (oi := a8) (v := ?_) rfl (by kernel_rfl) (by kernel_rfl) (by kernel_rfl) (fun _ _ _ h => h) (Or.inl ⟨by kernel_rfl, ?_⟩) hHeld ?_
         rotate_left
         · intro w hS; clear hS; unfold a8; go_simp; try with_reducible rfl
         simp only [pS, s0, sS, a8]
         refine wpAnyH_take (i := 9) (oi := a9) (v := ?_) rfl (by kernel_rfl) (by kernel_rfl) (by kernel_rfl) (fun _ _ _ h => h) (Or.inl ⟨by kernel_rfl, ?_⟩) hHeld ?_
         rotate_left
         · intro w hS; clear hS; unfold a9; go_simp; try with_reducible rfl
         simp only [pS, s0, sS, a9]
         refine one_ (i := 10) (by kernel_rfl) rfl (fun K hK => ?_)
         go_simp
         try go_wp2_with (fail)
         have hB := HB.out.alloc HB.out.size (.cells #[.string ⟨#[]⟩, .string ⟨#[]⟩, .string ⟨#[]⟩, .string ⟨#[]⟩, .int .i64 0, .int .i64 0] 28)
         have hM := Blk.new wr9 28 [.string ⟨#[]⟩, .string ⟨#[]⟩, .string ⟨#[]⟩, .string ⟨#[]⟩, .int .i64 0, .int .i64 0]
         have HP : Hid (w11.heap.size ≤ wr9.heap.size) := HB.out.size
         generalize (wr9.alloc (.cells #[.string ⟨#[]⟩, .string ⟨#[]⟩, .string ⟨#[]⟩, .string ⟨#[]⟩, .int .i64 0, .int .i64 0] 28)) = wr10 at hB hM ⊢
         clear HB
         have HB := Lib.hid hB
         have HM := Lib.hid hM
         clear hB hM
         clear hHeld
         refine hK.out _ _ (cells3 (P10.out.below HB.out).x) (fun hHeld => ?_)
         clear hK K
         try simp only [pS, s0, sS]
         refine one_ (i := 11) (by kernel_rfl) rfl (fun K hK => ?_)
         obtain ⟨x0, x1, x2, x3, x4, x5⟩ := cells6 HM.out
         have fx := HM.out.frozen
         go_simp
         go_wp2_with (fail)
         clear x0 x1 x2 x3 x4 x5 fx HM
         clear hHeld
         refine hK.out _ _ (cells3 (P10.out.below (put6 HB.out HP.out)).x) (fun hHeld => ?_)
         clear hK K
         refine wpAnyH_take (i := 12) (oi := a12) (v := ?_) rfl (by kernel_rfl) (by kernel_rfl) (by kernel_rfl) (fun _ _ _ h => h) (Or.inl ⟨by kernel_rfl, ?_⟩) hHeld ?_
         rotate_left
         · intro w hS; clear hS; unfold a12; go_simp; try with_reducible rfl
         simp only [pS, s0, sS, a12]
         refine wpAnyH_done (by kernel_rfl) ?_ _
         go_wp2
         go_meet
         exact ⟨rfl, put6 HB.out HP.out⟩
        ·
         go_simp
         try go_wp2_with (fail)
         have hB := HB.out.alloc HB.out.size (.cells #[.string ⟨#[]⟩, .string ⟨#[]⟩, .string ⟨#[]⟩, .string ⟨#[]⟩, .int .i64 0, .int .i64 0] 28)
         have hM := Blk.new wr6 28 [.string ⟨#[]⟩, .string ⟨#[]⟩, .string ⟨#[]⟩, .string ⟨#[]⟩, .int .i64 0, .int .i64 0]
         have HP : Hid (w11.heap.size ≤ wr6.heap.size) := HB.out.size
         have hE := own_below HE.out (below_al (Below.refl wr6.heap.size wr6) (.cells #[.string ⟨#[]⟩, .string ⟨#[]⟩, .string ⟨#[]⟩, .string ⟨#[]⟩, .int .i64 0, .int .i64 0] 28))
         generalize (wr6.alloc (.cells #[.string ⟨#[]⟩, .string ⟨#[]⟩, .string ⟨#[]⟩, .string ⟨#[]⟩, .int .i64 0, .int .i64 0] 28)) = wr12 at hB hM hE ⊢
         clear HB HE
         have HB := Lib.hid hB
         have HM := Lib.hid hM
         have HE := Lib.hid hE
         clear hB hM hE
         clear hHeld
         refine hK.out _ _ (cells3 (P10.out.below HB.out).x) (fun hHeld => ?_)
         clear hK K
         try simp only [pS, s0, sS]
         refine one_ (i := 6) (by kernel_rfl) rfl (fun K hK => ?_)
         go_simp
         go_wp2_with (first
           | (go_at_call 14; (with_reducible refine (HQB.out _ _ _ cr8 (Rd.of_own HE.out) (by omega)).mono ?_); rintro e wr13 ⟨rfl, hb⟩
              have hB := HB.out.trans (hb.mono HB.out.size)
              have hM := HM.out.below hb HM.out.lt
              clear hb
              clear HB HM HE
              have HB := Lib.hid hB
              have HM := Lib.hid hM
              clear hB hM))
         clear hHeld
         refine hK.out _ _ (cells3 (P10.out.below HB.out).x) (fun hHeld => ?_)
         clear hK K
         try simp only [pS, s0, sS]
         refine wpAnyH_take (i := 7) (oi := a7) (v := ?_) rfl (by kernel_rfl) (by kernel_rfl) (by kernel_rfl) (fun _ _ _ h => h) (Or.inl ⟨by kernel_rfl, ?_⟩) hHeld ?_
         rotate_left
         · intro w hS; clear hS; unfold a7; go_simp; try with_reducible rfl
         simp only [pS, s0, sS, a7]
         refine wpAnyH_take (i := 8) (oi := a8) (v := ?_) rfl (by kernel_rfl) (by kernel_rfl) (by kernel_rfl) (fun _ _ _ h => h) (Or.inl ⟨by kernel_rfl, ?_⟩) hHeld ?_
         rotate_left
         · intro w hS; clear hS; unfold a8; go_simp; try with_reducible rfl
         simp only [pS, s0, sS, a8]
         refine wpAnyH_take (i := 9) (oi := a9) (v := ?_) rfl (by kernel_rfl) (by kernel_rfl) (by kernel_rfl) (fun _ _ _ h => h) (Or.inl ⟨by kernel_rfl, ?_⟩) hHeld ?_
         rotate_left
         · intro w hS; clear hS; unfold a9; go_simp; try with_reducible rfl
         simp only [pS, s0, sS, a9]
         refine one_ (i := 11) (by kernel_rfl) rfl (fun K hK => ?_)
         obtain ⟨x0, x1, x2, x3, x4, x5⟩ := cells6 HM.out
         have fx := HM.out.frozen
         go_simp
         go_wp2_with (fail)
         clear x0 x1 x2 x3 x4 x5 fx HM
         clear hHeld
         refine hK.out _ _ (cells3 (P10.out.below (put6 HB.out HP.out)).x) (fun hHeld => ?_)
         clear hK K
         refine wpAnyH_take (i := 12) (oi := a12) (v := ?_) rfl (by kernel_rfl) (by kernel_rfl) (by kernel_rfl) (fun _ _ _ h => h) (Or.inl ⟨by kernel_rfl, ?_⟩) hHeld ?_
         rotate_left
         · intro w hS; clear hS; unfold a12; go_simp; try with_reducible rfl
         simp only [pS, s0, sS, a12]
         refine wpAnyH_done (by kernel_rfl) ?_ _
         go_wp2
         go_meet
         exact ⟨rfl, put6 HB.out HP.out⟩
       ·
        go_simp
        try go_wp2_with (fail)
        have hB := HB.out.alloc HB.out.size (.cells #[.string ⟨#[]⟩, .string ⟨#[]⟩, .string ⟨#[]⟩, .string ⟨#[]⟩, .int .i64 0, .int .i64 0] 28)
        have hM := Blk.new wr5 28 [.string ⟨#[]⟩, .string ⟨#[]⟩, .string ⟨#[]⟩, .string ⟨#[]⟩, .int .i64 0, .int .i64 0]
        have HP : Hid (w11.heap.size ≤ wr5.heap.size) := HB.out.size
        have hE := own_below HE.out (below_al (Below.refl wr5.heap.size wr5) (.cells #[.string ⟨#[]⟩, .string ⟨#[]⟩, .string ⟨#[]⟩, .string ⟨#[]⟩, .int .i64 0, .int .i64 0] 28))
        have hX := HX.out.below (below_al (Below.refl wr5.heap.size wr5) (.cells #[.string ⟨#[]⟩, .string ⟨#[]⟩, .string ⟨#[]⟩, .string ⟨#[]⟩, .int .i64 0, .int .i64 0] 28)) HX.out.lt
        generalize (wr5.alloc (.cells #[.string ⟨#[]⟩, .string ⟨#[]⟩, .string ⟨#[]⟩, .string ⟨#[]⟩, .int .i64 0, .int .i64 0] 28)) = wr15 at hB hM hE hX ⊢
        clear HB HE HX
        have HB := Lib.hid hB
        have HM := Lib.hid hM
        have HE := Lib.hid hE
        have HX := Lib.hid hX
        clear hB hM hE hX
        clear hHeld
        refine hK.out _ _ (cells3 (P10.out.below HB.out).x) (fun hHeld => ?_)
        clear hK K
        try simp only [pS, s0, sS]
        refine one_ (i := 5) (by kernel_rfl) rfl (fun K hK => ?_)
        refine step_append_rd rfl (.tmp 43) (.tmp 45) 22 rfl EF (.slice (Ar3) (3) cr4) (3) (fcellsL (top T)) rfl HE.out (some ⟨wr2.heap.size, 0, none⟩) 1 1 (fcellsL ([⟨N2, V2, nv⟩])) rfl (rd_one (f := ⟨N2, V2, nv⟩) HX.out) (fcells_one _) (by omega) (by unfold maxLen; omega) HB.out.size ?_
        intro Ar17 cr18 wr16 hE hf h2
        rw [← fcellsL_append] at hE
        have hB := app_below HB.out HE.out hf
        clear HX HD
        have hM := HM.out.fr hf (fun e => own_ne_blk HE.out HM.out (by decide) e.symm)
        clear hf h2
        clear HB HE HM
        have HB := Lib.hid hB
        have HE := Lib.hid hE
        have HM := Lib.hid hM
        clear hB hE hM
        clear hHeld
        refine hK.out _ _ (cells3 (P10.out.below HB.out).x) (fun hHeld => ?_)
        clear hK K
        try simp only [pS, s0, sS]
        refine one_ (i := 6) (by kernel_rfl) rfl (fun K hK => ?_)
        go_simp
        go_wp2_with (first
          | (go_at_call 14; (with_reducible refine (HQB.out _ _ _ cr18 (Rd.of_own HE.out) (by omega)).mono ?_); rintro e wr19 ⟨rfl, hb⟩
             have hB := HB.out.trans (hb.mono HB.out.size)
             have hM := HM.out.below hb HM.out.lt
             clear hb
             clear HB HM HE
             have HB := Lib.hid hB
             have HM := Lib.hid hM
             clear hB hM))
        clear hHeld
        refine hK.out _ _ (cells3 (P10.out.below HB.out).x) (fun hHeld => ?_)
        clear hK K
        try simp only [pS, s0, sS]
        refine wpAnyH_take (i := 7) (oi := a7) (v := ?_) rfl (by kernel_rfl) (by kernel_rfl) (by kernel_rfl) (fun _ _ _ h => h) (Or.inl ⟨by kernel_rfl, ?_⟩) hHeld ?_
        rotate_left
        · intro w hS; clear hS; unfold a7; go_simp; try with_reducible rfl
        simp only [pS, s0, sS, a7]
        refine wpAnyH_take (i := 8) (oi := a8) (v := ?_) rfl (by kernel_rfl) (by kernel_rfl) (by kernel_rfl) (fun _ _ _ h => h) (Or.inl ⟨by kernel_rfl, ?_⟩) hHeld ?_
        rotate_left
        · intro w hS; clear hS; unfold a8; go_simp; try with_reducible rfl
        simp only [pS, s0, sS, a8]
        refine wpAnyH_take (i := 9) (oi := a9) (v := ?_) rfl (by kernel_rfl) (by kernel_rfl) (by kernel_rfl) (fun _ _ _ h => h) (Or.inl ⟨by kernel_rfl, ?_⟩) hHeld ?_
        rotate_left
        · intro w hS; clear hS; unfold a9; go_simp; try with_reducible rfl
        simp only [pS, s0, sS, a9]
        refine one_ (i := 11) (by kernel_rfl) rfl (fun K hK => ?_)
        obtain ⟨x0, x1, x2, x3, x4, x5⟩ := cells6 HM.out
        have fx := HM.out.frozen
        go_simp
        go_wp2_with (fail)
        clear x0 x1 x2 x3 x4 x5 fx HM
        clear hHeld
        refine hK.out _ _ (cells3 (P10.out.below (put6 HB.out HP.out)).x) (fun hHeld => ?_)
        clear hK K
        refine wpAnyH_take (i := 12) (oi := a12) (v := ?_) rfl (by kernel_rfl) (by kernel_rfl) (by kernel_rfl) (fun _ _ _ h => h) (Or.inl ⟨by kernel_rfl, ?_⟩) hHeld ?_
        rotate_left
        · intro w hS; clear hS; unfold a12; go_simp; try with_reducible rfl
        simp only [pS, s0, sS, a12]
        refine wpAnyH_done (by kernel_rfl) ?_ _
        go_wp2
        go_meet
        exact ⟨rfl, put6 HB.out HP.out⟩
      ·
       go_simp
       try go_wp2_with (fail)
       have hB := HB.out.alloc HB.out.size (.cells #[.string ⟨#[]⟩, .string ⟨#[]⟩, .string ⟨#[]⟩, .string ⟨#[]⟩, .int .i64 0, .int .i64 0] 28)
       have hM := Blk.new wr2 28 [.string ⟨#[]⟩, .string ⟨#[]⟩, .string ⟨#[]⟩, .string ⟨#[]⟩, .int .i64 0, .int .i64 0]
       have HP : Hid (w11.heap.size ≤ wr2.heap.size) := HB.out.size
       have hE := own_below HE.out (below_al (Below.refl wr2.heap.size wr2) (.cells #[.string ⟨#[]⟩, .string ⟨#[]⟩, .string ⟨#[]⟩, .string ⟨#[]⟩, .int .i64 0, .int .i64 0] 28))
       generalize (wr2.alloc (.cells #[.string ⟨#[]⟩, .string ⟨#[]⟩, .string ⟨#[]⟩, .string ⟨#[]⟩, .int .i64 0, .int .i64 0] 28)) = wr21 at hB hM hE ⊢
       clear HB HE
       have HB := Lib.hid hB
       have HM := Lib.hid hM
       have HE := Lib.hid hE
       clear hB hM hE
       clear hHeld
       refine hK.out _ _ (cells3 (P10.out.below HB.out).x) (fun hHeld => ?_)
       clear hK K
       try simp only [pS, s0, sS]
       refine one_ (i := 4) (by kernel_rfl) rfl (fun K hK => ?_)
       go_simp
       try go_wp2_with (fail)
       have hB := HB.out.alloc HB.out.size (.cells #[.string N2, .string V2, .bool nv] 34)
       have hX := Blk.new wr21 34 [.string N2, .string V2, .bool nv]
       have HD : Hid ((Value.slice (Ar3) (3) cr4).ownBlock ≠ some wr21.heap.size) := fun e => by have := (HE.out.lt _ e).2; omega
       have hE := own_below HE.out (below_al (Below.refl wr21.heap.size wr21) (.cells #[.string N2, .string V2, .bool nv] 34))
       have hM := HM.out.below (below_al (Below.refl wr21.heap.size wr21) (.cells #[.string N2, .string V2, .bool nv] 34)) HM.out.lt
       generalize (wr21.alloc (.cells #[.string N2, .string V2, .bool nv] 34)) = wr22 at hB hX hE hM ⊢
       clear HB HE HM
       have HB := Lib.hid hB
       have HX := Lib.hid hX
       have HE := Lib.hid hE
       have HM := Lib.hid hM
       clear hB hX hE hM
       clear hHeld
       refine hK.out _ _ (cells3 (P10.out.below HB.out).x) (fun hHeld => ?_)
       clear hK K
       try simp only [pS, s0, sS]
       refine one_ (i := 5) (by kernel_rfl) rfl (fun K hK => ?_)
       refine step_append_rd rfl (.tmp 43) (.tmp 45) 22 rfl EF (.slice (Ar3) (3) cr4) (3) (fcellsL (top T)) rfl HE.out (some ⟨wr21.heap.size, 0, none⟩) 1 1 (fcellsL ([⟨N2, V2, nv⟩])) rfl (rd_one (f := ⟨N2, V2, nv⟩) HX.out) (fcells_one _) (by omega) (by unfold maxLen; omega) HB.out.size ?_
       intro Ar24 cr25 wr23 hE hf h2
       rw [← fcellsL_append] at hE
       have hB := app_below HB.out HE.out hf
       clear HX HD
       have hM := HM.out.fr hf (fun e => own_ne_blk HE.out HM.out (by decide) e.symm)
       clear hf h2
       clear HB HE HM
       have HB := Lib.hid hB
       have HE := Lib.hid hE
       have HM := Lib.hid hM
       clear hB hE hM
       clear hHeld
       refine hK.out _ _ (cells3 (P10.out.below HB.out).x) (fun hHeld => ?_)
       clear hK K
       try simp only [pS, s0, sS]
       refine one_ (i := 6) (by kernel_rfl) rfl (fun K hK => ?_)
       go_simp
       go_wp2_with (first
         | (go_at_call 14; (with_reducible refine (HQB.out _ _ _ cr25 (Rd.of_own HE.out) (by omega)).mono ?_); rintro e wr26 ⟨rfl, hb⟩
            have hB := HB.out.trans (hb.mono HB.out.size)
            have hM := HM.out.below hb HM.out.lt
            clear hb
            clear HB HM HE
            have HB := Lib.hid hB
            have HM := Lib.hid hM
            clear hB hM))
       clear hHeld
       refine hK.out _ _ (cells3 (P10.out.below HB.out).x) (fun hHeld => ?_)
       clear hK K
       try simp only [pS, s0, sS]
       refine wpAnyH_take (i := 7) (oi := a7) (v := ?_) rfl (by kernel_rfl) (by kernel_rfl) (by kernel_rfl) (fun _ _ _ h => h) (Or.inl ⟨by kernel_rfl, ?_⟩) hHeld ?_
       rotate_left
       · intro w hS; clear hS; unfold a7; go_simp; try with_reducible rfl
       simp only [pS, s0, sS, a7]
       refine wpAnyH_take (i := 8) (oi := a8) (v := ?_) rfl (by kernel_rfl) (by kernel_rfl) (by kernel_rfl) (fun _ _ _ h => h) (Or.inl ⟨by kernel_rfl, ?_⟩) hHeld ?_
       rotate_left
       · intro w hS; clear hS; unfold a8; go_simp; try with_reducible rfl
       simp only [pS, s0, sS, a8]
       refine wpAnyH_take (i := 9) (oi := a9) (v := ?_) rfl (by kernel_rfl) (by kernel_rfl) (by kernel_rfl) (fun _ _ _ h => h) (Or.inl ⟨by kernel_rfl, ?_⟩) hHeld ?_
       rotate_left
       · intro w hS; clear hS; unfold a9; go_simp; try with_reducible rfl
       simp only [pS, s0, sS, a9]
       refine one_ (i := 11) (by kernel_rfl) rfl (fun K hK => ?_)
       obtain ⟨x0, x1, x2, x3, x4, x5⟩ := cells6 HM.out
       have fx := HM.out.frozen
       go_simp
       go_wp2_with (fail)
       clear x0 x1 x2 x3 x4 x5 fx HM
       clear hHeld
       refine hK.out _ _ (cells3 (P10.out.below (put6 HB.out HP.out)).x) (fun hHeld => ?_)
       clear hK K
       refine wpAnyH_take (i := 12) (oi := a12) (v := ?_) rfl (by kernel_rfl) (by kernel_rfl) (by kernel_rfl) (fun _ _ _ h => h) (Or.inl ⟨by kernel_rfl, ?_⟩) hHeld ?_
       rotate_left
       · intro w hS; clear hS; unfold a12; go_simp; try with_reducible rfl
       simp only [pS, s0, sS, a12]
       refine wpAnyH_done (by kernel_rfl) ?_ _
       go_wp2
       go_meet
       exact ⟨rfl, put6 HB.out HP.out⟩
     ·
      go_simp
      try go_wp2_with (fail)
      have hB := HB.out.alloc HB.out.size (.cells #[.string N2, .string V2, .bool nv] 34)
      have hX := Blk.new wr1 34 [.string N2, .string V2, .bool nv]
      have HD : Hid ((Value.slice (some ⟨wr0.heap.size, 0, none⟩) (0) 0).ownBlock ≠ some wr1.heap.size) := fun e => by have := (HE.out.lt _ e).2; omega
      have hE := own_below HE.out (below_al (Below.refl wr1.heap.size wr1) (.cells #[.string N2, .string V2, .bool nv] 34))
      generalize (wr1.alloc (.cells #[.string N2, .string V2, .bool nv] 34)) = wr28 at hB hX hE ⊢
      clear HB HE
      have HB := Lib.hid hB
      have HX := Lib.hid hX
      have HE := Lib.hid hE
      clear hB hX hE
      clear hHeld
      refine hK.out _ _ (cells3 (P10.out.below HB.out).x) (fun hHeld => ?_)
      clear hK K
      try simp only [pS, s0, sS]
      refine wpAnyH_ready (rs := [2, 10]) (by kernel_rfl) (by simp) ?_
      refine AllReadyH.cons rfl (fun K hK => ?_) (AllReadyH.cons rfl (fun K hK => ?_) (AllReadyH.nil))
      ·
       refine step_append_rd rfl (.tmp 41) (.tmp 42) 22 rfl EF (.slice (some ⟨wr0.heap.size, 0, none⟩) (0) 0) (0) [] rfl HE.out A6 3 c6 (fcellsL (top T)) rfl (P10.out.below HB.out).t (fcells_one _) (by omega) (by unfold maxLen; omega) HB.out.size ?_
       intro Ar30 cr31 wr29 hE hf h2
       simp only [Nat.zero_add, List.nil_append] at hE h2 ⊢
       have hB := app_below HB.out HE.out hf
       have hX := HX.out.fr hf (fun e => HD.out e.symm)
       have HD2 : Hid ((Value.slice Ar30 (3) cr31).ownBlock ≠ some wr1.heap.size) := fun e => by
         rcases h2 with h | h
         · exact HD.out (h ▸ e)
         · have := HX.out.lt; have e2 := h.symm.trans e; simp at e2; omega
       clear HD
       have HD := HD2
       clear HD2
       clear hf h2
       clear HB HE HX
       have HB := Lib.hid hB
       have HE := Lib.hid hE
       have HX := Lib.hid hX
       clear hB hE hX
       clear hHeld
       refine hK.out _ _ (cells3 (P10.out.below HB.out).x) (fun hHeld => ?_)
       clear hK K
       try simp only [pS, s0, sS]
       refine wpAnyH_ready (rs := [5, 10]) (by kernel_rfl) (by simp) ?_
       refine AllReadyH.cons rfl (fun K hK => ?_) (AllReadyH.cons rfl (fun K hK => ?_) (AllReadyH.nil))
       ·
        refine step_append_rd rfl (.tmp 43) (.tmp 45) 22 rfl EF (.slice (Ar30) (3) cr31) (3) (fcellsL (top T)) rfl HE.out (some ⟨wr1.heap.size, 0, none⟩) 1 1 (fcellsL ([⟨N2, V2, nv⟩])) rfl (rd_one (f := ⟨N2, V2, nv⟩) HX.out) (fcells_one _) (by omega) (by unfold maxLen; omega) HB.out.size ?_
        intro Ar33 cr34 wr32 hE hf h2
        rw [← fcellsL_append] at hE
        have hB := app_below HB.out HE.out hf
        clear HX HD
        clear hf h2
        clear HB HE
        have HB := Lib.hid hB
        have HE := Lib.hid hE
        clear hB hE
        clear hHeld
        refine hK.out _ _ (cells3 (P10.out.below HB.out).x) (fun hHeld => ?_)
        clear hK K
        try simp only [pS, s0, sS]
        refine wpAnyH_ready (rs := [6, 10]) (by kernel_rfl) (by simp) ?_
        refine AllReadyH.cons rfl (fun K hK => ?_) (AllReadyH.cons rfl (fun K hK => ?_) (AllReadyH.nil))
        ·
         go_simp
         go_wp2_with (first
           | (go_at_call 14; (with_reducible refine (HQB.out _ _ _ cr34 (Rd.of_own HE.out) (by omega)).mono ?_); rintro e wr35 ⟨rfl, hb⟩
              have hB := HB.out.trans (hb.mono HB.out.size)
              clear hb
              clear HB HE
              have HB := Lib.hid hB
              clear hB))
         clear hHeld
         refine hK.out _ _ (cells3 (P10.out.below HB.out).x) (fun hHeld => ?_)
         clear hK K
         try simp only [pS, s0, sS]
         refine wpAnyH_take (i := 7) (oi := a7) (v := ?_) rfl (by kernel_rfl) (by kernel_rfl) (by kernel_rfl) (fun _ _ _ h => h) (Or.inl ⟨by kernel_rfl, ?_⟩) hHeld ?_
         rotate_left
         · intro w hS; clear hS; unfold a7; go_simp; try with_reducible rfl
         simp only [pS, s0, sS, a7]
         refine wpAnyH_take (i := 8) (oi := a8) (v := ?_) rfl (by kernel_rfl) (by kernel_rfl) (by kernel_rfl) (fun _ _ _ h => h) (Or.inl ⟨by kernel_rfl, ?_⟩) hHeld ?_
         rotate_left
         · intro w hS; clear hS; unfold a8; go_simp; try with_reducible rfl
         simp only [pS, s0, sS, a8]
         refine wpAnyH_take (i := 9) (oi := a9) (v := ?_) rfl (by kernel_rfl) (by kernel_rfl) (by kernel_rfl) (fun _ _ _ h => h) (Or.inl ⟨by kernel_rfl, ?_⟩) hHeld ?_
         rotate_left
         · intro w hS; clear hS; unfold a9; go_simp; try with_reducible rfl
         simp only [pS, s0, sS, a9]
         refine one_ (i := 10) (by kernel_rfl) rfl (fun K hK => ?_)
         go_simp
         try go_wp2_with (fail)
         have hB := HB.out.alloc HB.out.size (.cells #[.string ⟨#[]⟩, .string ⟨#[]⟩, .string ⟨#[]⟩, .string ⟨#[]⟩, .int .i64 0, .int .i64 0] 28)
         have hM := Blk.new wr35 28 [.string ⟨#[]⟩, .string ⟨#[]⟩, .string ⟨#[]⟩, .string ⟨#[]⟩, .int .i64 0, .int .i64 0]
         have HP : Hid (w11.heap.size ≤ wr35.heap.size) := HB.out.size
         generalize (wr35.alloc (.cells #[.string ⟨#[]⟩, .string ⟨#[]⟩, .string ⟨#[]⟩, .string ⟨#[]⟩, .int .i64 0, .int .i64 0] 28)) = wr36 at hB hM ⊢
         clear HB
         have HB := Lib.hid hB
         have HM := Lib.hid hM
         clear hB hM
         clear hHeld
         refine hK.out _ _ (cells3 (P10.out.below HB.out).x) (fun hHeld => ?_)
         clear hK K
         try simp only [pS, s0, sS]
         refine one_ (i := 11) (by kernel_rfl) rfl (fun K hK => ?_)
         obtain ⟨x0, x1, x2, x3, x4, x5⟩ := cells6 HM.out
         have fx := HM.out.frozen
         go_simp
         go_wp2_with (fail)
         clear x0 x1 x2 x3 x4 x5 fx HM
         clear hHeld
         refine hK.out _ _ (cells3 (P10.out.below (put6 HB.out HP.out)).x) (fun hHeld => ?_)
         clear hK K
         refine wpAnyH_take (i := 12) (oi := a12) (v := ?_) rfl (by kernel_rfl) (by kernel_rfl) (by kernel_rfl) (fun _ _ _ h => h) (Or.inl ⟨by kernel_rfl, ?_⟩) hHeld ?_
         rotate_left
         · intro w hS; clear hS; unfold a12; go_simp; try with_reducible rfl
         simp only [pS, s0, sS, a12]
         refine wpAnyH_done (by kernel_rfl) ?_ _
         go_wp2
         go_meet
         exact ⟨rfl, put6 HB.out HP.out⟩
        ·
         go_simp
         try go_wp2_with (fail)
         have hB := HB.out.alloc HB.out.size (.cells #[.string ⟨#[]⟩, .string ⟨#[]⟩, .string ⟨#[]⟩, .string ⟨#[]⟩, .int .i64 0, .int .i64 0] 28)
         have hM := Blk.new wr32 28 [.string ⟨#[]⟩, .string ⟨#[]⟩, .string ⟨#[]⟩, .string ⟨#[]⟩, .int .i64 0, .int .i64 0]
         have HP : Hid (w11.heap.size ≤ wr32.heap.size) := HB.out.size
         have hE := own_below HE.out (below_al (Below.refl wr32.heap.size wr32) (.cells #[.string ⟨#[]⟩, .string ⟨#[]⟩, .string ⟨#[]⟩, .string ⟨#[]⟩, .int .i64 0, .int .i64 0] 28))
         generalize (wr32.alloc (.cells #[.string ⟨#[]⟩, .string ⟨#[]⟩, .string ⟨#[]⟩, .string ⟨#[]⟩, .int .i64 0, .int .i64 0] 28)) = wr38 at hB hM hE ⊢
         clear HB HE
         have HB := Lib.hid hB
         have HM := Lib.hid hM
         have HE := Lib.hid hE
         clear hB hM hE
         clear hHeld
         refine hK.out _ _ (cells3 (P10.out.below HB.out).x) (fun hHeld => ?_)
         clear hK K
         try simp only [pS, s0, sS]
         refine one_ (i := 6) (by kernel_rfl) rfl (fun K hK => ?_)
         go_simp
         go_wp2_with (first
           | (go_at_call 14; (with_reducible refine (HQB.out _ _ _ cr34 (Rd.of_own HE.out) (by omega)).mono ?_); rintro e wr39 ⟨rfl, hb⟩
              have hB := HB.out.trans (hb.mono HB.out.size)
              have hM := HM.out.below hb HM.out.lt
              clear hb
              clear HB HM HE
              have HB := Lib.hid hB
              have HM := Lib.hid hM
              clear hB hM))
         clear hHeld
         refine hK.out _ _ (cells3 (P10.out.below HB.out).x) (fun hHeld => ?_)
         clear hK K
         try simp only [pS, s0, sS]
         refine wpAnyH_take (i := 7) (oi := a7) (v := ?_) rfl (by kernel_rfl) (by kernel_rfl) (by kernel_rfl) (fun _ _ _ h => h) (Or.inl ⟨by kernel_rfl, ?_⟩) hHeld ?_
         rotate_left
         · intro w hS; clear hS; unfold a7; go_simp; try with_reducible rfl
         simp only [pS, s0, sS, a7]
         refine wpAnyH_take (i := 8) (oi := a8) (v := ?_) rfl (by kernel_rfl) (by kernel_rfl) (by kernel_rfl) (fun _ _ _ h => h) (Or.inl ⟨by kernel_rfl, ?_⟩) hHeld ?_
         rotate_left
         · intro w hS; clear hS; unfold a8; go_simp; try with_reducible rfl
         simp only [pS, s0, sS, a8]
         refine wpAnyH_take (i := 9) (oi := a9) (v := ?_) rfl (by kernel_rfl) (by kernel_rfl) (by kernel_rfl) (fun _ _ _ h => h) (Or.inl ⟨by kernel_rfl, ?_⟩) hHeld ?_
         rotate_left
         · intro w hS; clear hS; unfold a9; go_simp; try with_reducible rfl
         simp only [pS, s0, sS, a9]
         refine one_ (i := 11) (by kernel_rfl) rfl (fun K hK => ?_)
         obtain ⟨x0, x1, x2, x3, x4, x5⟩ := cells6 HM.out
         have fx := HM.out.frozen
         go_simp
         go_wp2_with (fail)
         clear x0 x1 x2 x3 x4 x5 fx HM
         clear hHeld
         refine hK.out _ _ (cells3 (P10.out.below (put6 HB.out HP.out)).x) (fun hHeld => ?_)
         clear hK K
         refine wpAnyH_take (i := 12) (oi := a12) (v := ?_) rfl (by kernel_rfl) (by kernel_rfl) (by kernel_rfl) (fun _ _ _ h => h) (Or.inl ⟨by kernel_rfl, ?_⟩) hHeld ?_
         rotate_left
         · intro w hS; clear hS; unfold a12; go_simp; try with_reducible rfl
         simp only [pS, s0, sS, a12]
         refine wpAnyH_done (by kernel_rfl) ?_ _
         go_wp2
         go_meet
         exact ⟨rfl, put6 HB.out HP.out⟩
       ·
        go_simp
        try go_wp2_with (fail)
        have hB := HB.out.alloc HB.out.size (.cells #[.string ⟨#[]⟩, .string ⟨#[]⟩, .string ⟨#[]⟩, .string ⟨#[]⟩, .int .i64 0, .int .i64 0] 28)
        have hM := Blk.new wr29 28 [.string ⟨#[]⟩, .string ⟨#[]⟩, .string ⟨#[]⟩, .string ⟨#[]⟩, .int .i64 0, .int .i64 0]
        have HP : Hid (w11.heap.size ≤ wr29.heap.size) := HB.out.size
        have hE := own_below HE.out (below_al (Below.refl wr29.heap.size wr29) (.cells #[.string ⟨#[]⟩, .string ⟨#[]⟩, .string ⟨#[]⟩, .string ⟨#[]⟩, .int .i64 0, .int .i64 0] 28))
        have hX := HX.out.below (below_al (Below.refl wr29.heap.size wr29) (.cells #[.string ⟨#[]⟩, .string ⟨#[]⟩, .string ⟨#[]⟩, .string ⟨#[]⟩, .int .i64 0, .int .i64 0] 28)) HX.out.lt
        generalize (wr29.alloc (.cells #[.string ⟨#[]⟩, .string ⟨#[]⟩, .string ⟨#[]⟩, .string ⟨#[]⟩, .int .i64 0, .int .i64 0] 28)) = wr41 at hB hM hE hX ⊢
        clear HB HE HX
        have HB := Lib.hid hB
        have HM := Lib.hid hM
        have HE := Lib.hid hE
        have HX := Lib.hid hX
        clear hB hM hE hX
        clear hHeld
        refine hK.out _ _ (cells3 (P10.out.below HB.out).x) (fun hHeld => ?_)
        clear hK K
        try simp only [pS, s0, sS]
        refine one_ (i := 5) (by kernel_rfl) rfl (fun K hK => ?_)
        refine step_append_rd rfl (.tmp 43) (.tmp 45) 22 rfl EF (.slice (Ar30) (3) cr31) (3) (fcellsL (top T)) rfl HE.out (some ⟨wr1.heap.size, 0, none⟩) 1 1 (fcellsL ([⟨N2, V2, nv⟩])) rfl (rd_one (f := ⟨N2, V2, nv⟩) HX.out) (fcells_one _) (by omega) (by unfold maxLen; omega) HB.out.size ?_
        intro Ar43 cr44 wr42 hE hf h2
        rw [← fcellsL_append] at hE
        have hB := app_below HB.out HE.out hf
        clear HX HD
        have hM := HM.out.fr hf (fun e => own_ne_blk HE.out HM.out (by decide) e.symm)
        clear hf h2
        clear HB HE HM
        have HB := Lib.hid hB
        have HE := Lib.hid hE
        have HM := Lib.hid hM
        clear hB hE hM
        clear hHeld
        refine hK.out _ _ (cells3 (P10.out.below HB.out).x) (fun hHeld => ?_)
        clear hK K
        try simp only [pS, s0, sS]
        refine one_ (i := 6) (by kernel_rfl) rfl (fun K hK => ?_)
        go_simp
        go_wp2_with (first
          | (go_at_call 14; (with_reducible refine (HQB.out _ _ _ cr44 (Rd.of_own HE.out) (by omega)).mono ?_); rintro e wr45 ⟨rfl, hb⟩
             have hB := HB.out.trans (hb.mono HB.out.size)
             have hM := HM.out.below hb HM.out.lt
             clear hb
             clear HB HM HE
             have HB := Lib.hid hB
             have HM := Lib.hid hM
             clear hB hM))
        clear hHeld
        refine hK.out _ _ (cells3 (P10.out.below HB.out).x) (fun hHeld => ?_)
        clear hK K
        try simp only [pS, s0, sS]
        refine wpAnyH_take (i := 7) (oi := a7) (v := ?_) rfl (by kernel_rfl) (by kernel_rfl) (by kernel_rfl) (fun _ _ _ h => h) (Or.inl ⟨by kernel_rfl, ?_⟩) hHeld ?_
        rotate_left
        · intro w hS; clear hS; unfold a7; go_simp; try with_reducible rfl
        simp only [pS, s0, sS, a7]
        refine wpAnyH_take (i := 8) (oi := a8) (v := ?_) rfl (by kernel_rfl) (by kernel_rfl) (by kernel_rfl) (fun _ _ _ h => h) (Or.inl ⟨by kernel_rfl, ?_⟩) hHeld ?_
        rotate_left
        · intro w hS; clear hS; unfold a8; go_simp; try with_reducible rfl
        simp only [pS, s0, sS, a8]
        refine wpAnyH_take (i := 9) (oi := a9) (v := ?_) rfl (by kernel_rfl) (by kernel_rfl) (by kernel_rfl) (fun _ _ _ h => h) (Or.inl ⟨by kernel_rfl, ?_⟩) hHeld ?_
        rotate_left
        · intro w hS; clear hS; unfold a9; go_simp; try with_reducible rfl
        simp only [pS, s0, sS, a9]
        refine one_ (i := 11) (by kernel_rfl) rfl (fun K hK => ?_)
        obtain ⟨x0, x1, x2, x3, x4, x5⟩ := cells6 HM.out
        have fx := HM.out.frozen
        go_simp
        go_wp2_with (fail)
        clear x0 x1 x2 x3 x4 x5 fx HM
        clear hHeld
        refine hK.out _ _ (cells3 (P10.out.below (put6 HB.out HP.out)).x) (fun hHeld => ?_)
        clear hK K
        refine wpAnyH_take (i := 12) (oi := a12) (v := ?_) rfl (by kernel_rfl) (by kernel_rfl) (by kernel_rfl) (fun _ _ _ h => h) (Or.inl ⟨by kernel_rfl, ?_⟩) hHeld ?_
        rotate_left
        · intro w hS; clear hS; unfold a12; go_simp; try with_reducible rfl
        simp only [pS, s0, sS, a12]
        refine wpAnyH_done (by kernel_rfl) ?_ _
        go_wp2
        go_meet
        exact ⟨rfl, put6 HB.out HP.out⟩
      ·
       go_simp
       try go_wp2_with (fail)
       have hB := HB.out.alloc HB.out.size (.cells #[.string ⟨#[]⟩, .string ⟨#[]⟩, .string ⟨#[]⟩, .string ⟨#[]⟩, .int .i64 0, .int .i64 0] 28)
       have hM := Blk.new wr28 28 [.string ⟨#[]⟩, .string ⟨#[]⟩, .string ⟨#[]⟩, .string ⟨#[]⟩, .int .i64 0, .int .i64 0]
       have HP : Hid (w11.heap.size ≤ wr28.heap.size) := HB.out.size
       have hE := own_below HE.out (below_al (Below.refl wr28.heap.size wr28) (.cells #[.string ⟨#[]⟩, .string ⟨#[]⟩, .string ⟨#[]⟩, .string ⟨#[]⟩, .int .i64 0, .int .i64 0] 28))
       have hX := HX.out.below (below_al (Below.refl wr28.heap.size wr28) (.cells #[.string ⟨#[]⟩, .string ⟨#[]⟩, .string ⟨#[]⟩, .string ⟨#[]⟩, .int .i64 0, .int .i64 0] 28)) HX.out.lt
       generalize (wr28.alloc (.cells #[.string ⟨#[]⟩, .string ⟨#[]⟩, .string ⟨#[]⟩, .string ⟨#[]⟩, .int .i64 0, .int .i64 0] 28)) = wr47 at hB hM hE hX ⊢
       clear HB HE HX
       have HB := Lib.hid hB
       have HM := Lib.hid hM
       have HE := Lib.hid hE
       have HX := Lib.hid hX
       clear hB hM hE hX
       clear hHeld
       refine hK.out _ _ (cells3 (P10.out.below HB.out).x) (fun hHeld => ?_)
       clear hK K
       try simp only [pS, s0, sS]
       refine one_ (i := 2) (by kernel_rfl) rfl (fun K hK => ?_)
       refine step_append_rd rfl (.tmp 41) (.tmp 42) 22 rfl EF (.slice (some ⟨wr0.heap.size, 0, none⟩) (0) 0) (0) [] rfl HE.out A6 3 c6 (fcellsL (top T)) rfl (P10.out.below HB.out).t (fcells_one _) (by omega) (by unfold maxLen; omega) HB.out.size ?_
       intro Ar49 cr50 wr48 hE hf h2
       simp only [Nat.zero_add, List.nil_append] at hE h2 ⊢
       have hB := app_below HB.out HE.out hf
       have hX := HX.out.fr hf (fun e => HD.out e.symm)
       have HD2 : Hid ((Value.slice Ar49 (3) cr50).ownBlock ≠ some wr1.heap.size) := fun e => by
         rcases h2 with h | h
         · exact HD.out (h ▸ e)
         · have := HX.out.lt; have e2 := h.symm.trans e; simp at e2; omega
       clear HD
       have HD := HD2
       clear HD2
       have hM := HM.out.fr hf (fun e => own_ne_blk HE.out HM.out (by decide) e.symm)
       clear hf h2
       clear HB HE HX HM
       have HB := Lib.hid hB
       have HE := Lib.hid hE
       have HX := Lib.hid hX
       have HM := Lib.hid hM
       clear hB hE hX hM
       clear hHeld
       refine hK.out _ _ (cells3 (P10.out.below HB.out).x) (fun hHeld => ?_)
       clear hK K
       try simp only [pS, s0, sS]
       refine one_ (i := 5) (by kernel_rfl) rfl (fun K hK => ?_)
       refine step_append_rd rfl (.tmp 43) (.tmp 45) 22 rfl EF (.slice (Ar49) (3) cr50) (3) (fcellsL (top T)) rfl HE.out (some ⟨wr1.heap.size, 0, none⟩) 1 1 (fcellsL ([⟨N2, V2, nv⟩])) rfl (rd_one (f := ⟨N2, V2, nv⟩) HX.out) (fcells_one _) (by omega) (by unfold maxLen; omega) HB.out.size ?_
       intro Ar52 cr53 wr51 hE hf h2
       rw [← fcellsL_append] at hE
       have hB := app_below HB.out HE.out hf
       clear HX HD
       have hM := HM.out.fr hf (fun e => own_ne_blk HE.out HM.out (by decide) e.symm)
       clear hf h2
       clear HB HE HM
       have HB := Lib.hid hB
       have HE := Lib.hid hE
       have HM := Lib.hid hM
       clear hB hE hM
       clear hHeld
       refine hK.out _ _ (cells3 (P10.out.below HB.out).x) (fun hHeld => ?_)
       clear hK K
       try simp only [pS, s0, sS]
       refine one_ (i := 6) (by kernel_rfl) rfl (fun K hK => ?_)
       go_simp
       go_wp2_with (first
         | (go_at_call 14; (with_reducible refine (HQB.out _ _ _ cr53 (Rd.of_own HE.out) (by omega)).mono ?_); rintro e wr54 ⟨rfl, hb⟩
            have hB := HB.out.trans (hb.mono HB.out.size)
            have hM := HM.out.below hb HM.out.lt
            clear hb
            clear HB HM HE
            have HB := Lib.hid hB
            have HM := Lib.hid hM
            clear hB hM))
       clear hHeld
       refine hK.out _ _ (cells3 (P10.out.below HB.out).x) (fun hHeld => ?_)
       clear hK K
       try simp only [pS, s0, sS]
       refine wpAnyH_take (i := 7) (oi := a7) (v := ?_) rfl (by kernel_rfl) (by kernel_rfl) (by kernel_rfl) (fun _ _ _ h => h) (Or.inl ⟨by kernel_rfl, ?_⟩) hHeld ?_
       rotate_left
       · intro w hS; clear hS; unfold a7; go_simp; try with_reducible rfl
       simp only [pS, s0, sS, a7]
       refine wpAnyH_take (i := 8) (oi := a8) (v := ?_) rfl (by kernel_rfl) (by kernel_rfl) (by kernel_rfl) (fun _ _ _ h => h) (Or.inl ⟨by kernel_rfl, ?_⟩) hHeld ?_
       rotate_left
       · intro w hS; clear hS; unfold a8; go_simp; try with_reducible rfl
       simp only [pS, s0, sS, a8]
       refine wpAnyH_take (i := 9) (oi := a9) (v := ?_) rfl (by kernel_rfl) (by kernel_rfl) (by kernel_rfl) (fun _ _ _ h => h) (Or.inl ⟨by kernel_rfl, ?_⟩) hHeld ?_
       rotate_left
       · intro w hS; clear hS; unfold a9; go_simp; try with_reducible rfl
       simp only [pS, s0, sS, a9]
       refine one_ (i := 11) (by kernel_rfl) rfl (fun K hK => ?_)
       obtain ⟨x0, x1, x2, x3, x4, x5⟩ := cells6 HM.out
       have fx := HM.out.frozen
       go_simp
       go_wp2_with (fail)
       clear x0 x1 x2 x3 x4 x5 fx HM
       clear hHeld
       refine hK.out _ _ (cells3 (P10.out.below (put6 HB.out HP.out)).x) (fun hHeld => ?_)
       clear hK K
       refine wpAnyH_take (i := 12) (oi := a12) (v := ?_) rfl (by kernel_rfl) (by kernel_rfl) (by kernel_rfl) (fun _ _ _ h => h) (Or.inl ⟨by kernel_rfl, ?_⟩) hHeld ?_
       rotate_left
       · intro w hS; clear hS; unfold a12; go_simp; try with_reducible rfl
       simp only [pS, s0, sS, a12]
       refine wpAnyH_done (by kernel_rfl) ?_ _
       go_wp2
       go_meet
       exact ⟨rfl, put6 HB.out HP.out⟩
     ·
      go_simp
      try go_wp2_with (fail)
      have hB := HB.out.alloc HB.out.size (.cells #[.string ⟨#[]⟩, .string ⟨#[]⟩, .string ⟨#[]⟩, .string ⟨#[]⟩, .int .i64 0, .int .i64 0] 28)
      have hM := Blk.new wr1 28 [.string ⟨#[]⟩, .string ⟨#[]⟩, .string ⟨#[]⟩, .string ⟨#[]⟩, .int .i64 0, .int .i64 0]
      have HP : Hid (w11.heap.size ≤ wr1.heap.size) := HB.out.size
      have hE := own_below HE.out (below_al (Below.refl wr1.heap.size wr1) (.cells #[.string ⟨#[]⟩, .string ⟨#[]⟩, .string ⟨#[]⟩, .string ⟨#[]⟩, .int .i64 0, .int .i64 0] 28))
      generalize (wr1.alloc (.cells #[.string ⟨#[]⟩, .string ⟨#[]⟩, .string ⟨#[]⟩, .string ⟨#[]⟩, .int .i64 0, .int .i64 0] 28)) = wr56 at hB hM hE ⊢
      clear HB HE
      have HB := Lib.hid hB
      have HM := Lib.hid hM
      have HE := Lib.hid hE
      clear hB hM hE
      clear hHeld
      refine hK.out _ _ (cells3 (P10.out.below HB.out).x) (fun hHeld => ?_)
      clear hK K
      try simp only [pS, s0, sS]
      refine wpAnyH_ready (rs := [2, 4]) (by kernel_rfl) (by simp) ?_
      refine AllReadyH.cons rfl (fun K hK => ?_) (AllReadyH.cons rfl (fun K hK => ?_) (AllReadyH.nil))
      ·
       refine step_append_rd rfl (.tmp 41) (.tmp 42) 22 rfl EF (.slice (some ⟨wr0.heap.size, 0, none⟩) (0) 0) (0) [] rfl HE.out A6 3 c6 (fcellsL (top T)) rfl (P10.out.below HB.out).t (fcells_one _) (by omega) (by unfold maxLen; omega) HB.out.size ?_
       intro Ar58 cr59 wr57 hE hf h2
       simp only [Nat.zero_add, List.nil_append] at hE h2 ⊢
       have hB := app_below HB.out HE.out hf
       have hM := HM.out.fr hf (fun e => own_ne_blk HE.out HM.out (by decide) e.symm)
       clear hf h2
       clear HB HE HM
       have HB := Lib.hid hB
       have HE := Lib.hid hE
       have HM := Lib.hid hM
       clear hB hE hM
       clear hHeld
       refine hK.out _ _ (cells3 (P10.out.below HB.out).x) (fun hHeld => ?_)
       clear hK K
       try simp only [pS, s0, sS]
       refine one_ (i := 4) (by kernel_rfl) rfl (fun K hK => ?_)
       go_simp
       try go_wp2_with (fail)
       have hB := HB.out.alloc HB.out.size (.cells #[.string N2, .string V2, .bool nv] 34)
       have hX := Blk.new wr57 34 [.string N2, .string V2, .bool nv]
       have HD : Hid ((Value.slice (Ar58) (3) cr59).ownBlock ≠ some wr57.heap.size) := fun e => by have := (HE.out.lt _ e).2; omega
       have hE := own_below HE.out (below_al (Below.refl wr57.heap.size wr57) (.cells #[.string N2, .string V2, .bool nv] 34))
       have hM := HM.out.below (below_al (Below.refl wr57.heap.size wr57) (.cells #[.string N2, .string V2, .bool nv] 34)) HM.out.lt
       generalize (wr57.alloc (.cells #[.string N2, .string V2, .bool nv] 34)) = wr60 at hB hX hE hM ⊢
       clear HB HE HM
       have HB := Lib.hid hB
       have HX := Lib.hid hX
       have HE := Lib.hid hE
       have HM := Lib.hid hM
       clear hB hX hE hM
       clear hHeld
       refine hK.out _ _ (cells3 (P10.out.below HB.out).x) (fun hHeld => ?_)
       clear hK K
       try simp only [pS, s0, sS]
       refine one_ (i := 5) (by kernel_rfl) rfl (fun K hK => ?_)
       refine step_append_rd rfl (.tmp 43) (.tmp 45) 22 rfl EF (.slice (Ar58) (3) cr59) (3) (fcellsL (top T)) rfl HE.out (some ⟨wr57.heap.size, 0, none⟩) 1 1 (fcellsL ([⟨N2, V2, nv⟩])) rfl (rd_one (f := ⟨N2, V2, nv⟩) HX.out) (fcells_one _) (by omega) (by unfold maxLen; omega) HB.out.size ?_
       intro Ar62 cr63 wr61 hE hf h2
       rw [← fcellsL_append] at hE
       have hB := app_below HB.out HE.out hf
       clear HX HD
       have hM := HM.out.fr hf (fun e => own_ne_blk HE.out HM.out (by decide) e.symm)
       clear hf h2
       clear HB HE HM
       have HB := Lib.hid hB
       have HE := Lib.hid hE
       have HM := Lib.hid hM
       clear hB hE hM
       clear hHeld
       refine hK.out _ _ (cells3 (P10.out.below HB.out).x) (fun hHeld => ?_)
       clear hK K
       try simp only [pS, s0, sS]
       refine one_ (i := 6) (by kernel_rfl) rfl (fun K hK => ?_)
       go_simp
       go_wp2_with (first
         | (go_at_call 14; (with_reducible refine (HQB.out _ _ _ cr63 (Rd.of_own HE.out) (by omega)).mono ?_); rintro e wr64 ⟨rfl, hb⟩
            have hB := HB.out.trans (hb.mono HB.out.size)
            have hM := HM.out.below hb HM.out.lt
            clear hb
            clear HB HM HE
            have HB := Lib.hid hB
            have HM := Lib.hid hM
            clear hB hM))
       clear hHeld
       refine hK.out _ _ (cells3 (P10.out.below HB.out).x) (fun hHeld => ?_)
       clear hK K
       try simp only [pS, s0, sS]
       refine wpAnyH_take (i := 7) (oi := a7) (v := ?_) rfl (by kernel_rfl) (by kernel_rfl) (by kernel_rfl) (fun _ _ _ h => h) (Or.inl ⟨by kernel_rfl, ?_⟩) hHeld ?_
       rotate_left
       · intro w hS; clear hS; unfold a7; go_simp; try with_reducible rfl
       simp only [pS, s0, sS, a7]
       refine wpAnyH_take (i := 8) (oi := a8) (v := ?_) rfl (by kernel_rfl) (by kernel_rfl) (by kernel_rfl) (fun _ _ _ h => h) (Or.inl ⟨by kernel_rfl, ?_⟩) hHeld ?_
       rotate_left
       · intro w hS; clear hS; unfold a8; go_simp; try with_reducible rfl
       simp only [pS, s0, sS, a8]
       refine wpAnyH_take (i := 9) (oi := a9) (v := ?_) rfl (by kernel_rfl) (by kernel_rfl) (by kernel_rfl) (fun _ _ _ h => h) (Or.inl ⟨by kernel_rfl, ?_⟩) hHeld ?_
       rotate_left
       · intro w hS; clear hS; unfold a9; go_simp; try with_reducible rfl
       simp only [pS, s0, sS, a9]
       refine one_ (i := 11) (by kernel_rfl) rfl (fun K hK => ?_)
       obtain ⟨x0, x1, x2, x3, x4, x5⟩ := cells6 HM.out
       have fx := HM.out.frozen
       go_simp
       go_wp2_with (fail)
       clear x0 x1 x2 x3 x4 x5 fx HM
       clear hHeld
       refine hK.out _ _ (cells3 (P10.out.below (put6 HB.out HP.out)).x) (fun hHeld => ?_)
       clear hK K
       refine wpAnyH_take (i := 12) (oi := a12) (v := ?_) rfl (by kernel_rfl) (by kernel_rfl) (by kernel_rfl) (fun _ _ _ h => h) (Or.inl ⟨by kernel_rfl, ?_⟩) hHeld ?_
       rotate_left
       · intro w hS; clear hS; unfold a12; go_simp; try with_reducible rfl
       simp only [pS, s0, sS, a12]
       refine wpAnyH_done (by kernel_rfl) ?_ _
       go_wp2
       go_meet
       exact ⟨rfl, put6 HB.out HP.out⟩
      ·
       go_simp
       try go_wp2_with (fail)
       have hB := HB.out.alloc HB.out.size (.cells #[.string N2, .string V2, .bool nv] 34)
       have hX := Blk.new wr56 34 [.string N2, .string V2, .bool nv]
       have HD : Hid ((Value.slice (some ⟨wr0.heap.size, 0, none⟩) (0) 0).ownBlock ≠ some wr56.heap.size) := fun e => by have := (HE.out.lt _ e).2; omega
       have hE := own_below HE.out (below_al (Below.refl wr56.heap.size wr56) (.cells #[.string N2, .string V2, .bool nv] 34))
       have hM := HM.out.below (below_al (Below.refl wr56.heap.size wr56) (.cells #[.string N2, .string V2, .bool nv] 34)) HM.out.lt
       generalize (wr56.alloc (.cells #[.string N2, .string V2, .bool nv] 34)) = wr66 at hB hX hE hM ⊢
       clear HB HE HM
       have HB := Lib.hid hB
       have HX := Lib.hid hX
       have HE := Lib.hid hE
       have HM := Lib.hid hM
       clear hB hX hE hM
       clear hHeld
       refine hK.out _ _ (cells3 (P10.out.below HB.out).x) (fun hHeld => ?_)
       clear hK K
       try simp only [pS, s0, sS]
       refine one_ (i := 2) (by kernel_rfl) rfl (fun K hK => ?_)
       refine step_append_rd rfl (.tmp 41) (.tmp 42) 22 rfl EF (.slice (some ⟨wr0.heap.size, 0, none⟩) (0) 0) (0) [] rfl HE.out A6 3 c6 (fcellsL (top T)) rfl (P10.out.below HB.out).t (fcells_one _) (by omega) (by unfold maxLen; omega) HB.out.size ?_
       intro Ar68 cr69 wr67 hE hf h2
       simp only [Nat.zero_add, List.nil_append] at hE h2 ⊢
       have hB := app_below HB.out HE.out hf
       have hX := HX.out.fr hf (fun e => HD.out e.symm)
       have HD2 : Hid ((Value.slice Ar68 (3) cr69).ownBlock ≠ some wr56.heap.size) := fun e => by
         rcases h2 with h | h
         · exact HD.out (h ▸ e)
         · have := HX.out.lt; have e2 := h.symm.trans e; simp at e2; omega
       clear HD
       have HD := HD2
       clear HD2
       have hM := HM.out.fr hf (fun e => own_ne_blk HE.out HM.out (by decide) e.symm)
       clear hf h2
       clear HB HE HX HM
       have HB := Lib.hid hB
       have HE := Lib.hid hE
       have HX := Lib.hid hX
       have HM := Lib.hid hM
       clear hB hE hX hM
       clear hHeld
       refine hK.out _ _ (cells3 (P10.out.below HB.out).x) (fun hHeld => ?_)
       clear hK K
       try simp only [pS, s0, sS]
       refine one_ (i := 5) (by kernel_rfl) rfl (fun K hK => ?_)
       refine step_append_rd rfl (.tmp 43) (.tmp 45) 22 rfl EF (.slice (Ar68) (3) cr69) (3) (fcellsL (top T)) rfl HE.out (some ⟨wr56.heap.size, 0, none⟩) 1 1 (fcellsL ([⟨N2, V2, nv⟩])) rfl (rd_one (f := ⟨N2, V2, nv⟩) HX.out) (fcells_one _) (by omega) (by unfold maxLen; omega) HB.out.size ?_
       intro Ar71 cr72 wr70 hE hf h2
       rw [← fcellsL_append] at hE
       have hB := app_below HB.out HE.out hf
       clear HX HD
       have hM := HM.out.fr hf (fun e => own_ne_blk HE.out HM.out (by decide) e.symm)
       clear hf h2
       clear HB HE HM
       have HB := Lib.hid hB
       have HE := Lib.hid hE
       have HM := Lib.hid hM
       clear hB hE hM
       clear hHeld
       refine hK.out _ _ (cells3 (P10.out.below HB.out).x) (fun hHeld => ?_)
       clear hK K
       try simp only [pS, s0, sS]
       refine one_ (i := 6) (by kernel_rfl) rfl (fun K hK => ?_)
       go_simp
       go_wp2_with (first
         | (go_at_call 14; (with_reducible refine (HQB.out _ _ _ cr72 (Rd.of_own HE.out) (by omega)).mono ?_); rintro e wr73 ⟨rfl, hb⟩
            have hB := HB.out.trans (hb.mono HB.out.size)
            have hM := HM.out.below hb HM.out.lt
            clear hb
            clear HB HM HE
            have HB := Lib.hid hB
            have HM := Lib.hid hM
            clear hB hM))
       clear hHeld
       refine hK.out _ _ (cells3 (P10.out.below HB.out).x) (fun hHeld => ?_)
       clear hK K
       try simp only [pS, s0, sS]
       refine wpAnyH_take (i := 7) (oi := a7) (v := ?_) rfl (by kernel_rfl) (by kernel_rfl) (by kernel_rfl) (fun _ _ _ h => h) (Or.inl ⟨by kernel_rfl, ?_⟩) hHeld ?_
       rotate_left
       · intro w hS; clear hS; unfold a7; go_simp; try with_reducible rfl
       simp only [pS, s0, sS, a7]
       refine wpAnyH_take (i := 8) (oi := a8) (v := ?_) rfl (by kernel_rfl) (by kernel_rfl) (by kernel_rfl) (fun _ _ _ h => h) (Or.inl ⟨by kernel_rfl, ?_⟩) hHeld ?_
       rotate_left
       · intro w hS; clear hS; unfold a8; go_simp; try with_reducible rfl
       simp only [pS, s0, sS, a8]
       refine wpAnyH_take (i := 9) (oi := a9) (v := ?_) rfl (by kernel_rfl) (by kernel_rfl) (by kernel_rfl) (fun _ _ _ h => h) (Or.inl ⟨by kernel_rfl, ?_⟩) hHeld ?_
       rotate_left
       · intro w hS; clear hS; unfold a9; go_simp; try with_reducible rfl
       simp only [pS, s0, sS, a9]
       refine one_ (i := 11) (by kernel_rfl) rfl (fun K hK => ?_)
       obtain ⟨x0, x1, x2, x3, x4, x5⟩ := cells6 HM.out
       have fx := HM.out.frozen
       go_simp
       go_wp2_with (fail)
       clear x0 x1 x2 x3 x4 x5 fx HM
       clear hHeld
       refine hK.out _ _ (cells3 (P10.out.below (put6 HB.out HP.out)).x) (fun hHeld => ?_)
       clear hK K
       refine wpAnyH_take (i := 12) (oi := a12) (v := ?_) rfl (by kernel_rfl) (by kernel_rfl) (by kernel_rfl) (fun _ _ _ h => h) (Or.inl ⟨by kernel_rfl, ?_⟩) hHeld ?_
       rotate_left
       · intro w hS; clear hS; unfold a12; go_simp; try with_reducible rfl
       simp only [pS, s0, sS, a12]
       refine wpAnyH_done (by kernel_rfl) ?_ _
       go_wp2
       go_meet
       exact ⟨rfl, put6 HB.out HP.out⟩
    ·
     go_simp
     try go_wp2_with (fail)
     have hB := HB.out.alloc HB.out.size (.cells #[.string N2, .string V2, .bool nv] 34)
     have hX := Blk.new wr0 34 [.string N2, .string V2, .bool nv]
     generalize (wr0.alloc (.cells #[.string N2, .string V2, .bool nv] 34)) = wr75 at hB hX ⊢
     clear HB
     have HB := Lib.hid hB
     have HX := Lib.hid hX
     clear hB hX
     clear hHeld
     refine hK.out _ _ (cells3 (P10.out.below HB.out).x) (fun hHeld => ?_)
     clear hK K
     try simp only [pS, s0, sS]
     refine wpAnyH_ready (rs := [0, 10]) (by kernel_rfl) (by simp) ?_
     refine AllReadyH.cons rfl (fun K hK => ?_) (AllReadyH.cons rfl (fun K hK => ?_) (AllReadyH.nil))
     ·
      go_simp
      try go_wp2_with (fail)
      have hB := HB.out.alloc HB.out.size (.cells #[] 34)
      have hE := own_lower (own_empty wr75) HB.out.size
      have HD : Hid ((Value.slice (some ⟨wr75.heap.size, 0, none⟩) 0 0).ownBlock ≠ some wr0.heap.size) := fun e => by have := HX.out.lt; simp [Value.ownBlock] at e; omega
      have hX := HX.out.below (below_al (Below.refl wr75.heap.size wr75) (.cells #[] 34)) HX.out.lt
      generalize (wr75.alloc (.cells #[] 34)) = wr76 at hB hE hX ⊢
      clear HB HX
      have HB := Lib.hid hB
      have HE := Lib.hid hE
      have HX := Lib.hid hX
      clear hB hE hX
      clear hHeld
      refine hK.out _ _ (cells3 (P10.out.below HB.out).x) (fun hHeld => ?_)
      clear hK K
      try simp only [pS, s0, sS]
      refine wpAnyH_ready (rs := [2, 10]) (by kernel_rfl) (by simp) ?_
      refine AllReadyH.cons rfl (fun K hK => ?_) (AllReadyH.cons rfl (fun K hK => ?_) (AllReadyH.nil))
      ·
       refine step_append_rd rfl (.tmp 41) (.tmp 42) 22 rfl EF (.slice (some ⟨wr75.heap.size, 0, none⟩) (0) 0) (0) [] rfl HE.out A6 3 c6 (fcellsL (top T)) rfl (P10.out.below HB.out).t (fcells_one _) (by omega) (by unfold maxLen; omega) HB.out.size ?_
       intro Ar78 cr79 wr77 hE hf h2
       simp only [Nat.zero_add, List.nil_append] at hE h2 ⊢
       have hB := app_below HB.out HE.out hf
       have hX := HX.out.fr hf (fun e => HD.out e.symm)
       have HD2 : Hid ((Value.slice Ar78 (3) cr79).ownBlock ≠ some wr0.heap.size) := fun e => by
         rcases h2 with h | h
         · exact HD.out (h ▸ e)
         · have := HX.out.lt; have e2 := h.symm.trans e; simp at e2; omega
       clear HD
       have HD := HD2
       clear HD2
       clear hf h2
       clear HB HE HX
       have HB := Lib.hid hB
       have HE := Lib.hid hE
       have HX := Lib.hid hX
       clear hB hE hX
       clear hHeld
       refine hK.out _ _ (cells3 (P10.out.below HB.out).x) (fun hHeld => ?_)
       clear hK K
       try simp only [pS, s0, sS]
       refine wpAnyH_ready (rs := [5, 10]) (by kernel_rfl) (by simp) ?_
       refine AllReadyH.cons rfl (fun K hK => ?_) (AllReadyH.cons rfl (fun K hK => ?_) (AllReadyH.nil))
       ·
        refine step_append_rd rfl (.tmp 43) (.tmp 45) 22 rfl EF (.slice (Ar78) (3) cr79) (3) (fcellsL (top T)) rfl HE.out (some ⟨wr0.heap.size, 0, none⟩) 1 1 (fcellsL ([⟨N2, V2, nv⟩])) rfl (rd_one (f := ⟨N2, V2, nv⟩) HX.out) (fcells_one _) (by omega) (by unfold maxLen; omega) HB.out.size ?_
        intro Ar81 cr82 wr80 hE hf h2
        rw [← fcellsL_append] at hE
        have hB := app_below HB.out HE.out hf
        clear HX HD
        clear hf h2
        clear HB HE
        have HB := Lib.hid hB
        have HE := Lib.hid hE
        clear hB hE
        clear hHeld
        refine hK.out _ _ (cells3 (P10.out.below HB.out).x) (fun hHeld => ?_)
        clear hK K
        try simp only [pS, s0, sS]
        refine wpAnyH_ready (rs := [6, 10]) (by kernel_rfl) (by simp) ?_
        refine AllReadyH.cons rfl (fun K hK => ?_) (AllReadyH.cons rfl (fun K hK => ?_) (AllReadyH.nil))
        ·
         go_simp
         go_wp2_with (first
           | (go_at_call 14; (with_reducible refine (HQB.out _ _ _ cr82 (Rd.of_own HE.out) (by omega)).mono ?_); rintro e wr83 ⟨rfl, hb⟩
              have hB := HB.out.trans (hb.mono HB.out.size)
              clear hb
              clear HB HE
              have HB := Lib.hid hB
              clear hB))
         clear hHeld
         refine hK.out _ _ (cells3 (P10.out.below HB.out).x) (fun hHeld => ?_)
         clear hK K
         try simp only [pS, s0, sS]
         refine wpAnyH_take (i := 7) (oi := a7) (v := ?_) rfl (by kernel_rfl) (by kernel_rfl) (by kernel_rfl) (fun _ _ _ h => h) (Or.inl ⟨by kernel_rfl, ?_⟩) hHeld ?_
         rotate_left
         · intro w hS; clear hS; unfold a7; go_simp; try with_reducible rfl
         simp only [pS, s0, sS, a7]
         refine wpAnyH_take (i := 8) (oi := a8) (v := ?_) rfl (by kernel_rfl) (by kernel_rfl) (by kernel_rfl) (fun _ _ _ h => h) (Or.inl ⟨by kernel_rfl, ?_⟩) hHeld ?_
         rotate_left
         · intro w hS; clear hS; unfold a8; go_simp; try with_reducible rfl
         simp only [pS, s0, sS, a8]
         refine wpAnyH_take (i := 9) (oi := a9) (v := ?_) rfl (by kernel_rfl) (by kernel_rfl) (by kernel_rfl) (fun _ _ _ h => h) (Or.inl ⟨by kernel_rfl, ?_⟩) hHeld ?_
         rotate_left
         · intro w hS; clear hS; unfold a9; go_simp; try with_reducible rfl
         simp only [pS, s0, sS, a9]
         refine one_ (i := 10) (by kernel_rfl) rfl (fun K hK => ?_)
         go_simp
         try go_wp2_with (fail)
         have hB := HB.out.alloc HB.out.size (.cells #[.string ⟨#[]⟩, .string ⟨#[]⟩, .string ⟨#[]⟩, .string ⟨#[]⟩, .int .i64 0, .int .i64 0] 28)
         have hM := Blk.new wr83 28 [.string ⟨#[]⟩, .string ⟨#[]⟩, .string ⟨#[]⟩, .string ⟨#[]⟩, .int .i64 0, .int .i64 0]
         have HP : Hid (w11.heap.size ≤ wr83.heap.size) := HB.out.size
         generalize (wr83.alloc (.cells #[.string ⟨#[]⟩, .string ⟨#[]⟩, .string ⟨#[]⟩, .string ⟨#[]⟩, .int .i64 0, .int .i64 0] 28)) = wr84 at hB hM ⊢
         clear HB
         have HB := Lib.hid hB
         have HM := Lib.hid hM
         clear hB hM
         clear hHeld
         refine hK.out _ _ (cells3 (P10.out.below HB.out).x) (fun hHeld => ?_)
         clear hK K
         try simp only [pS, s0, sS]
         refine one_ (i := 11) (by kernel_rfl) rfl (fun K hK => ?_)
         obtain ⟨x0, x1, x2, x3, x4, x5⟩ := cells6 HM.out
         have fx := HM.out.frozen
         go_simp
         go_wp2_with (fail)
         clear x0 x1 x2 x3 x4 x5 fx HM
         clear hHeld
         refine hK.out _ _ (cells3 (P10.out.below (put6 HB.out HP.out)).x) (fun hHeld => ?_)
         clear hK K
         refine wpAnyH_take (i := 12) (oi := a12) (v := ?_) rfl (by kernel_rfl) (by kernel_rfl) (by kernel_rfl) (fun _ _ _ h => h) (Or.inl ⟨by kernel_rfl, ?_⟩) hHeld ?_
         rotate_left
         · intro w hS; clear hS; unfold a12; go_simp; try with_reducible rfl
         simp only [pS, s0, sS, a12]
         refine wpAnyH_done (by kernel_rfl) ?_ _
         go_wp2
         go_meet
         exact ⟨rfl, put6 HB.out HP.out⟩
        ·
         go_simp
         try go_wp2_with (fail)
         have hB := HB.out.alloc HB.out.size (.cells #[.string ⟨#[]⟩, .string ⟨#[]⟩, .string ⟨#[]⟩, .string ⟨#[]⟩, .int .i64 0, .int .i64 0] 28)
         have hM := Blk.new wr80 28 [.string ⟨#[]⟩, .string ⟨#[]⟩, .string ⟨#[]⟩, .string ⟨#[]⟩, .int .i64 0, .int .i64 0]
         have HP : Hid (w11.heap.size ≤ wr80.heap.size) := HB.out.size
         have hE := own_below HE.out (below_al (Below.refl wr80.heap.size wr80) (.cells #[.string ⟨#[]⟩, .string ⟨#[]⟩, .string ⟨#[]⟩, .string ⟨#[]⟩, .int .i64 0, .int .i64 0] 28))
         generalize (wr80.alloc (.cells #[.string ⟨#[]⟩, .string ⟨#[]⟩, .string ⟨#[]⟩, .string ⟨#[]⟩, .int .i64 0, .int .i64 0] 28)) = wr86 at hB hM hE ⊢
         clear HB HE
         have HB := Lib.hid hB
         have HM := Lib.hid hM
         have HE := Lib.hid hE
         clear hB hM hE
         clear hHeld
         refine hK.out _ _ (cells3 (P10.out.below HB.out).x) (fun hHeld => ?_)
         clear hK K
         try simp only [pS, s0, sS]
         refine one_ (i := 6) (by kernel_rfl) rfl (fun K hK => ?_)
         go_simp
         go_wp2_with (first
           | (go_at_call 14; (with_reducible refine (HQB.out _ _ _ cr82 (Rd.of_own HE.out) (by omega)).mono ?_); rintro e wr87 ⟨rfl, hb⟩
              have hB := HB.out.trans (hb.mono HB.out.size)
              have hM := HM.out.below hb HM.out.lt
              clear hb
              clear HB HM HE
              have HB := Lib.hid hB
              have HM := Lib.hid hM
              clear hB hM))
         clear hHeld
         refine hK.out _ _ (cells3 (P10.out.below HB.out).x) (fun hHeld => ?_)
         clear hK K
         try simp only [pS, s0, sS]
         refine wpAnyH_take (i := 7) (oi := a7) (v := ?_) rfl (by kernel_rfl) (by kernel_rfl) (by kernel_rfl) (fun _ _ _ h => h) (Or.inl ⟨by kernel_rfl, ?_⟩) hHeld ?_
         rotate_left
         · intro w hS; clear hS; unfold a7; go_simp; try with_reducible rfl
         simp only [pS, s0, sS, a7]
         refine wpAnyH_take (i := 8) (oi := a8) (v := ?_) rfl (by kernel_rfl) (by kernel_rfl) (by kernel_rfl) (fun _ _ _ h => h) (Or.inl ⟨by kernel_rfl, ?_⟩) hHeld ?_
         rotate_left
         · intro w hS; clear hS; unfold a8; go_simp; try with_reducible rfl
         simp only [pS, s0, sS, a8]
         refine wpAnyH_take (i := 9) (oi := a9) (v := ?_) rfl (by kernel_rfl) (by kernel_rfl) (by kernel_rfl) (fun _ _ _ h => h) (Or.inl ⟨by kernel_rfl, ?_⟩) hHeld ?_
         rotate_left
         · intro w hS; clear hS; unfold a9; go_simp; try with_reducible rfl
         simp only [pS, s0, sS, a9]
         refine one_ (i := 11) (by kernel_rfl) rfl (fun K hK => ?_)
         obtain ⟨x0, x1, x2, x3, x4, x5⟩ := cells6 HM.out
         have fx := HM.out.frozen
         go_simp
         go_wp2_with (fail)
         clear x0 x1 x2 x3 x4 x5 fx HM
         clear hHeld
         refine hK.out _ _ (cells3 (P10.out.below (put6 HB.out HP.out)).x) (fun hHeld => ?_)
         clear hK K
         refine wpAnyH_take (i := 12) (oi := a12) (v := ?_) rfl (by kernel_rfl) (by kernel_rfl) (by kernel_rfl) (fun _ _ _ h => h) (Or.inl ⟨by kernel_rfl, ?_⟩) hHeld ?_
         rotate_left
         · intro w hS; clear hS; unfold a12; go_simp; try with_reducible rfl
         simp only [pS, s0, sS, a12]
         refine wpAnyH_done (by kernel_rfl) ?_ _
         go_wp2
         go_meet
         exact ⟨rfl, put6 HB.out HP.out⟩
       ·
        go_simp
        try go_wp2_with (fail)
        have hB := HB.out.alloc HB.out.size (.cells #[.string ⟨#[]⟩, .string ⟨#[]⟩, .string ⟨#[]⟩, .string ⟨#[]⟩, .int .i64 0, .int .i64 0] 28)
        have hM := Blk.new wr77 28 [.string ⟨#[]⟩, .string ⟨#[]⟩, .string ⟨#[]⟩, .string ⟨#[]⟩, .int .i64 0, .int .i64 0]
        have HP : Hid (w11.heap.size ≤ wr77.heap.size) := HB.out.size
        have hE := own_below HE.out (below_al (Below.refl wr77.heap.size wr77) (.cells #[.string ⟨#[]⟩, .string ⟨#[]⟩, .string ⟨#[]⟩, .string ⟨#[]⟩, .int .i64 0, .int .i64 0] 28))
        have hX := HX.out.below (below_al (Below.refl wr77.heap.size wr77) (.cells #[.string ⟨#[]⟩, .string ⟨#[]⟩, .string ⟨#[]⟩, .string ⟨#[]⟩, .int .i64 0, .int .i64 0] 28)) HX.out.lt
        generalize (wr77.alloc (.cells #[.string ⟨#[]⟩, .string ⟨#[]⟩, .string ⟨#[]⟩, .string ⟨#[]⟩, .int .i64 0, .int .i64 0] 28)) = wr89 at hB hM hE hX ⊢
        clear HB HE HX
        have HB := Lib.hid hB
        have HM := Lib.hid hM
        have HE := Lib.hid hE
        have HX := Lib.hid hX
        clear hB hM hE hX
        clear hHeld
        refine hK.out _ _ (cells3 (P10.out.below HB.out).x) (fun hHeld => ?_)
        clear hK K
        try simp only [pS, s0, sS]
        refine one_ (i := 5) (by kernel_rfl) rfl (fun K hK => ?_)
        refine step_append_rd rfl (.tmp 43) (.tmp 45) 22 rfl EF (.slice (Ar78) (3) cr79) (3) (fcellsL (top T)) rfl HE.out (some ⟨wr0.heap.size, 0, none⟩) 1 1 (fcellsL ([⟨N2, V2, nv⟩])) rfl (rd_one (f := ⟨N2, V2, nv⟩) HX.out) (fcells_one _) (by omega) (by unfold maxLen; omega) HB.out.size ?_
        intro Ar91 cr92 wr90 hE hf h2
        rw [← fcellsL_append] at hE
        have hB := app_below HB.out HE.out hf
        clear HX HD
        have hM := HM.out.fr hf (fun e => own_ne_blk HE.out HM.out (by decide) e.symm)
        clear hf h2
        clear HB HE HM
        have HB := Lib.hid hB
        have HE := Lib.hid hE
        have HM := Lib.hid hM
        clear hB hE hM
        clear hHeld
        refine hK.out _ _ (cells3 (P10.out.below HB.out).x) (fun hHeld => ?_)
        clear hK K
        try simp only [pS, s0, sS]
        refine one_ (i := 6) (by kernel_rfl) rfl (fun K hK => ?_)
        go_simp
        go_wp2_with (first
          | (go_at_call 14; (with_reducible refine (HQB.out _ _ _ cr92 (Rd.of_own HE.out) (by omega)).mono ?_); rintro e wr93 ⟨rfl, hb⟩
             have hB := HB.out.trans (hb.mono HB.out.size)
             have hM := HM.out.below hb HM.out.lt
             clear hb
             clear HB HM HE
             have HB := Lib.hid hB
             have HM := Lib.hid hM
             clear hB hM))
        clear hHeld
        refine hK.out _ _ (cells3 (P10.out.below HB.out).x) (fun hHeld => ?_)
        clear hK K
        try simp only [pS, s0, sS]
        refine wpAnyH_take (i := 7) (oi := a7) (v := ?_) rfl (by kernel_rfl) (by kernel_rfl) (by kernel_rfl) (fun _ _ _ h => h) (Or.inl ⟨by kernel_rfl, ?_⟩) hHeld ?_
        rotate_left
        · intro w hS; clear hS; unfold a7; go_simp; try with_reducible rfl
        simp only [pS, s0, sS, a7]
        refine wpAnyH_take (i := 8) (oi := a8) (v := ?_) rfl (by kernel_rfl) (by kernel_rfl) (by kernel_rfl) (fun _ _ _ h => h) (Or.inl ⟨by kernel_rfl, ?_⟩) hHeld ?_
        rotate_left
        · intro w hS; clear hS; unfold a8; go_simp; try with_reducible rfl
        simp only [pS, s0, sS, a8]
        refine wpAnyH_take (i := 9) (oi := a9) (v := ?_) rfl (by kernel_rfl) (by kernel_rfl) (by kernel_rfl) (fun _ _ _ h => h) (Or.inl ⟨by kernel_rfl, ?_⟩) hHeld ?_
        rotate_left
        · intro w hS; clear hS; unfold a9; go_simp; try with_reducible rfl
        simp only [pS, s0, sS, a9]
        refine one_ (i := 11) (by kernel_rfl) rfl (fun K hK => ?_)
        obtain ⟨x0, x1, x2, x3, x4, x5⟩ := cells6 HM.out
        have fx := HM.out.frozen
        go_simp
        go_wp2_with (fail)
        clear x0 x1 x2 x3 x4 x5 fx HM
        clear hHeld
        refine hK.out _ _ (cells3 (P10.out.below (put6 HB.out HP.out)).x) (fun hHeld => ?_)
        clear hK K
        refine wpAnyH_take (i := 12) (oi := a12) (v := ?_) rfl (by kernel_rfl) (by kernel_rfl) (by kernel_rfl) (fun _ _ _ h => h) (Or.inl ⟨by kernel_rfl, ?_⟩) hHeld ?_
        rotate_left
        · intro w hS; clear hS; unfold a12; go_simp; try with_reducible rfl
        simp only [pS, s0, sS, a12]
        refine wpAnyH_done (by kernel_rfl) ?_ _
        go_wp2
        go_meet
        exact ⟨rfl, put6 HB.out HP.out⟩
      ·
       go_simp
       try go_wp2_with (fail)
       have hB := HB.out.alloc HB.out.size (.cells #[.string ⟨#[]⟩, .string ⟨#[]⟩, .string ⟨#[]⟩, .string ⟨#[]⟩, .int .i64 0, .int .i64 0] 28)
       have hM := Blk.new wr76 28 [.string ⟨#[]⟩, .string ⟨#[]⟩, .string ⟨#[]⟩, .string ⟨#[]⟩, .int .i64 0, .int .i64 0]
       have HP : Hid (w11.heap.size ≤ wr76.heap.size) := HB.out.size
       have hE := own_below HE.out (below_al (Below.refl wr76.heap.size wr76) (.cells #[.string ⟨#[]⟩, .string ⟨#[]⟩, .string ⟨#[]⟩, .string ⟨#[]⟩, .int .i64 0, .int .i64 0] 28))
       have hX := HX.out.below (below_al (Below.refl wr76.heap.size wr76) (.cells #[.string ⟨#[]⟩, .string ⟨#[]⟩, .string ⟨#[]⟩, .string ⟨#[]⟩, .int .i64 0, .int .i64 0] 28)) HX.out.lt
       generalize (wr76.alloc (.cells #[.string ⟨#[]⟩, .string ⟨#[]⟩, .string ⟨#[]⟩, .string ⟨#[]⟩, .int .i64 0, .int .i64 0] 28)) = wr95 at hB hM hE hX ⊢
       clear HB HE HX
       have HB := Lib.hid hB
       have HM := Lib.hid hM
       have HE := Lib.hid hE
       have HX := Lib.hid hX
       clear hB hM hE hX
       clear hHeld
       refine hK.out _ _ (cells3 (P10.out.below HB.out).x) (fun hHeld => ?_)
       clear hK K
       try simp only [pS, s0, sS]
       refine one_ (i := 2) (by kernel_rfl) rfl (fun K hK => ?_)
       refine step_append_rd rfl (.tmp 41) (.tmp 42) 22 rfl EF (.slice (some ⟨wr75.heap.size, 0, none⟩) (0) 0) (0) [] rfl HE.out A6 3 c6 (fcellsL (top T)) rfl (P10.out.below HB.out).t (fcells_one _) (by omega) (by unfold maxLen; omega) HB.out.size ?_
       intro Ar97 cr98 wr96 hE hf h2
       simp only [Nat.zero_add, List.nil_append] at hE h2 ⊢
       have hB := app_below HB.out HE.out hf
       have hX := HX.out.fr hf (fun e => HD.out e.symm)
       have HD2 : Hid ((Value.slice Ar97 (3) cr98).ownBlock ≠ some wr0.heap.size) := fun e => by
         rcases h2 with h | h
         · exact HD.out (h ▸ e)
         · have := HX.out.lt; have e2 := h.symm.trans e; simp at e2; omega
       clear HD
       have HD := HD2
       clear HD2
       have hM := HM.out.fr hf (fun e => own_ne_blk HE.out HM.out (by decide) e.symm)
       clear hf h2
       clear HB HE HX HM
       have HB := Lib.hid hB
       have HE := Lib.hid hE
       have HX := Lib.hid hX
       have HM := Lib.hid hM
       clear hB hE hX hM
       clear hHeld
       refine hK.out _ _ (cells3 (P10.out.below HB.out).x) (fun hHeld => ?_)
       clear hK K
       try simp only [pS, s0, sS]
       refine one_ (i := 5) (by kernel_rfl) rfl (fun K hK => ?_)
       refine step_append_rd rfl (.tmp 43) (.tmp 45) 22 rfl EF (.slice (Ar97) (3) cr98) (3) (fcellsL (top T)) rfl HE.out (some ⟨wr0.heap.size, 0, none⟩) 1 1 (fcellsL ([⟨N2, V2, nv⟩])) rfl (rd_one (f := ⟨N2, V2, nv⟩) HX.out) (fcells_one _) (by omega) (by unfold maxLen; omega) HB.out.size ?_
       intro Ar100 cr101 wr99 hE hf h2
       rw [← fcellsL_append] at hE
       have hB := app_below HB.out HE.out hf
       clear HX HD
       have hM := HM.out.fr hf (fun e => own_ne_blk HE.out HM.out (by decide) e.symm)
       clear hf h2
       clear HB HE HM
       have HB := Lib.hid hB
       have HE := Lib.hid hE
       have HM := Lib.hid hM
       clear hB hE hM
       clear hHeld
       refine hK.out _ _ (cells3 (P10.out.below HB.out).x) (fun hHeld => ?_)
       clear hK K
       try simp only [pS, s0, sS]
       refine one_ (i := 6) (by kernel_rfl) rfl (fun K hK => ?_)
       go_simp
       go_wp2_with (first
         | (go_at_call 14; (with_reducible refine (HQB.out _ _ _ cr101 (Rd.of_own HE.out) (by omega)).mono ?_); rintro e wr102 ⟨rfl, hb⟩
            have hB := HB.out.trans (hb.mono HB.out.size)
            have hM := HM.out.below hb HM.out.lt
            clear hb
            clear HB HM HE
            have HB := Lib.hid hB
            have HM := Lib.hid hM
            clear hB hM))
       clear hHeld
       refine hK.out _ _ (cells3 (P10.out.below HB.out).x) (fun hHeld => ?_)
       clear hK K
       try simp only [pS, s0, sS]
       refine wpAnyH_take (i := 7) (oi := a7) (v := ?_) rfl (by kernel_rfl) (by kernel_rfl) (by kernel_rfl) (fun _ _ _ h => h) (Or.inl ⟨by kernel_rfl, ?_⟩) hHeld ?_
       rotate_left
       · intro w hS; clear hS; unfold a7; go_simp; try with_reducible rfl
       simp only [pS, s0, sS, a7]
       refine wpAnyH_take (i := 8) (oi := a8) (v := ?_) rfl (by kernel_rfl) (by kernel_rfl) (by kernel_rfl) (fun _ _ _ h => h) (Or.inl ⟨by kernel_rfl, ?_⟩) hHeld ?_
       rotate_left
       · intro w hS; clear hS; unfold a8; go_simp; try with_reducible rfl
       simp only [pS, s0, sS, a8]
       refine wpAnyH_take (i := 9) (oi := a9) (v := ?_) rfl (by kernel_rfl) (by kernel_rfl) (by kernel_rfl) (fun _ _ _ h => h) (Or.inl ⟨by kernel_rfl, ?_⟩) hHeld ?_
       rotate_left
       · intro w hS; clear hS; unfold a9; go_simp; try with_reducible rfl
       simp only [pS, s0, sS, a9]
       refine one_ (i := 11) (by kernel_rfl) rfl (fun K hK => ?_)
       obtain ⟨x0, x1, x2, x3, x4, x5⟩ := cells6 HM.out
       have fx := HM.out.frozen
       go_simp
       go_wp2_with (fail)
       clear x0 x1 x2 x3 x4 x5 fx HM
       clear hHeld
       refine hK.out _ _ (cells3 (P10.out.below (put6 HB.out HP.out)).x) (fun hHeld => ?_)
       clear hK K
       refine wpAnyH_take (i := 12) (oi := a12) (v := ?_) rfl (by kernel_rfl) (by kernel_rfl) (by kernel_rfl) (fun _ _ _ h => h) (Or.inl ⟨by kernel_rfl, ?_⟩) hHeld ?_
       rotate_left
       · intro w hS; clear hS; unfold a12; go_simp; try with_reducible rfl
       simp only [pS, s0, sS, a12]
       refine wpAnyH_done (by kernel_rfl) ?_ _
       go_wp2
       go_meet
       exact ⟨rfl, put6 HB.out HP.out⟩
     ·
      go_simp
      try go_wp2_with (fail)
      have hB := HB.out.alloc HB.out.size (.cells #[.string ⟨#[]⟩, .string ⟨#[]⟩, .string ⟨#[]⟩, .string ⟨#[]⟩, .int .i64 0, .int .i64 0] 28)
      have hM := Blk.new wr75 28 [.string ⟨#[]⟩, .string ⟨#[]⟩, .string ⟨#[]⟩, .string ⟨#[]⟩, .int .i64 0, .int .i64 0]
      have HP : Hid (w11.heap.size ≤ wr75.heap.size) := HB.out.size
      have hX := HX.out.below (below_al (Below.refl wr75.heap.size wr75) (.cells #[.string ⟨#[]⟩, .string ⟨#[]⟩, .string ⟨#[]⟩, .string ⟨#[]⟩, .int .i64 0, .int .i64 0] 28)) HX.out.lt
      generalize (wr75.alloc (.cells #[.string ⟨#[]⟩, .string ⟨#[]⟩, .string ⟨#[]⟩, .string ⟨#[]⟩, .int .i64 0, .int .i64 0] 28)) = wr104 at hB hM hX ⊢
      clear HB HX
      have HB := Lib.hid hB
      have HM := Lib.hid hM
      have HX := Lib.hid hX
      clear hB hM hX
      clear hHeld
      refine hK.out _ _ (cells3 (P10.out.below HB.out).x) (fun hHeld => ?_)
      clear hK K
      try simp only [pS, s0, sS]
      refine one_ (i := 0) (by kernel_rfl) rfl (fun K hK => ?_)
      go_simp
      try go_wp2_with (fail)
      have hB := HB.out.alloc HB.out.size (.cells #[] 34)
      have hE := own_lower (own_empty wr104) HB.out.size
      have HD : Hid ((Value.slice (some ⟨wr104.heap.size, 0, none⟩) 0 0).ownBlock ≠ some wr0.heap.size) := fun e => by have := HX.out.lt; simp [Value.ownBlock] at e; omega
      have hX := HX.out.below (below_al (Below.refl wr104.heap.size wr104) (.cells #[] 34)) HX.out.lt
      have hM := HM.out.below (below_al (Below.refl wr104.heap.size wr104) (.cells #[] 34)) HM.out.lt
      generalize (wr104.alloc (.cells #[] 34)) = wr105 at hB hE hX hM ⊢
      clear HB HX HM
      have HB := Lib.hid hB
      have HE := Lib.hid hE
      have HX := Lib.hid hX
      have HM := Lib.hid hM
      clear hB hE hX hM
      clear hHeld
      refine hK.out _ _ (cells3 (P10.out.below HB.out).x) (fun hHeld => ?_)
      clear hK K
      try simp only [pS, s0, sS]
      refine one_ (i := 2) (by kernel_rfl) rfl (fun K hK => ?_)
      refine step_append_rd rfl (.tmp 41) (.tmp 42) 22 rfl EF (.slice (some ⟨wr104.heap.size, 0, none⟩) (0) 0) (0) [] rfl HE.out A6 3 c6 (fcellsL (top T)) rfl (P10.out.below HB.out).t (fcells_one _) (by omega) (by unfold maxLen; omega) HB.out.size ?_
      intro Ar107 cr108 wr106 hE hf h2
      simp only [Nat.zero_add, List.nil_append] at hE h2 ⊢
      have hB := app_below HB.out HE.out hf
      have hX := HX.out.fr hf (fun e => HD.out e.symm)
      have HD2 : Hid ((Value.slice Ar107 (3) cr108).ownBlock ≠ some wr0.heap.size) := fun e => by
        rcases h2 with h | h
        · exact HD.out (h ▸ e)
        · have := HX.out.lt; have e2 := h.symm.trans e; simp at e2; omega
      clear HD
      have HD := HD2
      clear HD2
      have hM := HM.out.fr hf (fun e => own_ne_blk HE.out HM.out (by decide) e.symm)
      clear hf h2
      clear HB HE HX HM
      have HB := Lib.hid hB
      have HE := Lib.hid hE
      have HX := Lib.hid hX
      have HM := Lib.hid hM
      clear hB hE hX hM
      clear hHeld
      refine hK.out _ _ (cells3 (P10.out.below HB.out).x) (fun hHeld => ?_)
      clear hK K
      try simp only [pS, s0, sS]
      refine one_ (i := 5) (by kernel_rfl) rfl (fun K hK => ?_)
      refine step_append_rd rfl (.tmp 43) (.tmp 45) 22 rfl EF (.slice (Ar107) (3) cr108) (3) (fcellsL (top T)) rfl HE.out (some ⟨wr0.heap.size, 0, none⟩) 1 1 (fcellsL ([⟨N2, V2, nv⟩])) rfl (rd_one (f := ⟨N2, V2, nv⟩) HX.out) (fcells_one _) (by omega) (by unfold maxLen; omega) HB.out.size ?_
      intro Ar110 cr111 wr109 hE hf h2
      rw [← fcellsL_append] at hE
      have hB := app_below HB.out HE.out hf
      clear HX HD
      have hM := HM.out.fr hf (fun e => own_ne_blk HE.out HM.out (by decide) e.symm)
      clear hf h2
      clear HB HE HM
      have HB := Lib.hid hB
      have HE := Lib.hid hE
      have HM := Lib.hid hM
      clear hB hE hM
      clear hHeld
      refine hK.out _ _ (cells3 (P10.out.below HB.out).x) (fun hHeld => ?_)
      clear hK K
      try simp only [pS, s0, sS]
      refine one_ (i := 6) (by kernel_rfl) rfl (fun K hK => ?_)
      go_simp
      go_wp2_with (first
        | (go_at_call 14; (with_reducible refine (HQB.out _ _ _ cr111 (Rd.of_own HE.out) (by omega)).mono ?_); rintro e wr112 ⟨rfl, hb⟩
           have hB := HB.out.trans (hb.mono HB.out.size)
           have hM := HM.out.below hb HM.out.lt
           clear hb
           clear HB HM HE
           have HB := Lib.hid hB
           have HM := Lib.hid hM
           clear hB hM))
      clear hHeld
      refine hK.out _ _ (cells3 (P10.out.below HB.out).x) (fun hHeld => ?_)
      clear hK K
      try simp only [pS, s0, sS]
      refine wpAnyH_take (i := 7) (oi := a7) (v := ?_) rfl (by kernel_rfl) (by kernel_rfl) (by kernel_rfl) (fun _ _ _ h => h) (Or.inl ⟨by kernel_rfl, ?_⟩) hHeld ?_
      rotate_left
      · intro w hS; clear hS; unfold a7; go_simp; try with_reducible rfl
      simp only [pS, s0, sS, a7]
      refine wpAnyH_take (i := 8) (oi := a8) (v := ?_) rfl (by kernel_rfl) (by kernel_rfl) (by kernel_rfl) (fun _ _ _ h => h) (Or.inl ⟨by kernel_rfl, ?_⟩) hHeld ?_
      rotate_left
      · intro w hS; clear hS; unfold a8; go_simp; try with_reducible rfl
      simp only [pS, s0, sS, a8]
      refine wpAnyH_take (i := 9) (oi := a9) (v := ?_) rfl (by kernel_rfl) (by kernel_rfl) (by kernel_rfl) (fun _ _ _ h => h) (Or.inl ⟨by kernel_rfl, ?_⟩) hHeld ?_
      rotate_left
      · intro w hS; clear hS; unfold a9; go_simp; try with_reducible rfl
      simp only [pS, s0, sS, a9]
      refine one_ (i := 11) (by kernel_rfl) rfl (fun K hK => ?_)
      obtain ⟨x0, x1, x2, x3, x4, x5⟩ := cells6 HM.out
      have fx := HM.out.frozen
      go_simp
      go_wp2_with (fail)
      clear x0 x1 x2 x3 x4 x5 fx HM
      clear hHeld
      refine hK.out _ _ (cells3 (P10.out.below (put6 HB.out HP.out)).x) (fun hHeld => ?_)
      clear hK K
      refine wpAnyH_take (i := 12) (oi := a12) (v := ?_) rfl (by kernel_rfl) (by kernel_rfl) (by kernel_rfl) (fun _ _ _ h => h) (Or.inl ⟨by kernel_rfl, ?_⟩) hHeld ?_
      rotate_left
      · intro w hS; clear hS; unfold a12; go_simp; try with_reducible rfl
      simp only [pS, s0, sS, a12]
      refine wpAnyH_done (by kernel_rfl) ?_ _
      go_wp2
      go_meet
      exact ⟨rfl, put6 HB.out HP.out⟩
    ·
     go_simp
     try go_wp2_with (fail)
     have hB := HB.out.alloc HB.out.size (.cells #[.string ⟨#[]⟩, .string ⟨#[]⟩, .string ⟨#[]⟩, .string ⟨#[]⟩, .int .i64 0, .int .i64 0] 28)
     have hM := Blk.new wr0 28 [.string ⟨#[]⟩, .string ⟨#[]⟩, .string ⟨#[]⟩, .string ⟨#[]⟩, .int .i64 0, .int .i64 0]
     have HP : Hid (w11.heap.size ≤ wr0.heap.size) := HB.out.size
     generalize (wr0.alloc (.cells #[.string ⟨#[]⟩, .string ⟨#[]⟩, .string ⟨#[]⟩, .string ⟨#[]⟩, .int .i64 0, .int .i64 0] 28)) = wr114 at hB hM ⊢
     clear HB
     have HB := Lib.hid hB
     have HM := Lib.hid hM
     clear hB hM
     clear hHeld
     refine hK.out _ _ (cells3 (P10.out.below HB.out).x) (fun hHeld => ?_)
     clear hK K
     try simp only [pS, s0, sS]
     refine wpAnyH_ready (rs := [0, 4]) (by kernel_rfl) (by simp) ?_
     refine AllReadyH.cons rfl (fun K hK => ?_) (AllReadyH.cons rfl (fun K hK => ?_) (AllReadyH.nil))
     ·
      go_simp
      try go_wp2_with (fail)
      have hB := HB.out.alloc HB.out.size (.cells #[] 34)
      have hE := own_lower (own_empty wr114) HB.out.size
      have hM := HM.out.below (below_al (Below.refl wr114.heap.size wr114) (.cells #[] 34)) HM.out.lt
      generalize (wr114.alloc (.cells #[] 34)) = wr115 at hB hE hM ⊢
      clear HB HM
      have HB := Lib.hid hB
      have HE := Lib.hid hE
      have HM := Lib.hid hM
      clear hB hE hM
      clear hHeld
      refine hK.out _ _ (cells3 (P10.out.below HB.out).x) (fun hHeld => ?_)
      clear hK K
      try simp only [pS, s0, sS]
      refine wpAnyH_ready (rs := [2, 4]) (by kernel_rfl) (by simp) ?_
      refine AllReadyH.cons rfl (fun K hK => ?_) (AllReadyH.cons rfl (fun K hK => ?_) (AllReadyH.nil))
      ·
       refine step_append_rd rfl (.tmp 41) (.tmp 42) 22 rfl EF (.slice (some ⟨wr114.heap.size, 0, none⟩) (0) 0) (0) [] rfl HE.out A6 3 c6 (fcellsL (top T)) rfl (P10.out.below HB.out).t (fcells_one _) (by omega) (by unfold maxLen; omega) HB.out.size ?_
       intro Ar117 cr118 wr116 hE hf h2
       simp only [Nat.zero_add, List.nil_append] at hE h2 ⊢
       have hB := app_below HB.out HE.out hf
       have hM := HM.out.fr hf (fun e => own_ne_blk HE.out HM.out (by decide) e.symm)
       clear hf h2
       clear HB HE HM
       have HB := Lib.hid hB
       have HE := Lib.hid hE
       have HM := Lib.hid hM
       clear hB hE hM
       clear hHeld
       refine hK.out _ _ (cells3 (P10.out.below HB.out).x) (fun hHeld => ?_)
       clear hK K
       try simp only [pS, s0, sS]
       refine one_ (i := 4) (by kernel_rfl) rfl (fun K hK => ?_)
       go_simp
       try go_wp2_with (fail)
       have hB := HB.out.alloc HB.out.size (.cells #[.string N2, .string V2, .bool nv] 34)
       have hX := Blk.new wr116 34 [.string N2, .string V2, .bool nv]
       have HD : Hid ((Value.slice (Ar117) (3) cr118).ownBlock ≠ some wr116.heap.size) := fun e => by have := (HE.out.lt _ e).2; omega
       have hE := own_below HE.out (below_al (Below.refl wr116.heap.size wr116) (.cells #[.string N2, .string V2, .bool nv] 34))
       have hM := HM.out.below (below_al (Below.refl wr116.heap.size wr116) (.cells #[.string N2, .string V2, .bool nv] 34)) HM.out.lt
       generalize (wr116.alloc (.cells #[.string N2, .string V2, .bool nv] 34)) = wr119 at hB hX hE hM ⊢
       clear HB HE HM
       have HB := Lib.hid hB
       have HX := Lib.hid hX
       have HE := Lib.hid hE
       have HM := Lib.hid hM
       clear hB hX hE hM
       clear hHeld
       refine hK.out _ _ (cells3 (P10.out.below HB.out).x) (fun hHeld => ?_)
       clear hK K
       try simp only [pS, s0, sS]
       refine one_ (i := 5) (by kernel_rfl) rfl (fun K hK => ?_)
       refine step_append_rd rfl (.tmp 43) (.tmp 45) 22 rfl EF (.slice (Ar117) (3) cr118) (3) (fcellsL (top T)) rfl HE.out (some ⟨wr116.heap.size, 0, none⟩) 1 1 (fcellsL ([⟨N2, V2, nv⟩])) rfl (rd_one (f := ⟨N2, V2, nv⟩) HX.out) (fcells_one _) (by omega) (by unfold maxLen; omega) HB.out.size ?_
       intro Ar121 cr122 wr120 hE hf h2
       rw [← fcellsL_append] at hE
       have hB := app_below HB.out HE.out hf
       clear HX HD
       have hM := HM.out.fr hf (fun e => own_ne_blk HE.out HM.out (by decide) e.symm)
       clear hf h2
       clear HB HE HM
       have HB := Lib.hid hB
       have HE := Lib.hid hE
       have HM := Lib.hid hM
       clear hB hE hM
       clear hHeld
       refine hK.out _ _ (cells3 (P10.out.below HB.out).x) (fun hHeld => ?_)
       clear hK K
       try simp only [pS, s0, sS]
       refine one_ (i := 6) (by kernel_rfl) rfl (fun K hK => ?_)
       go_simp
       go_wp2_with (first
         | (go_at_call 14; (with_reducible refine (HQB.out _ _ _ cr122 (Rd.of_own HE.out) (by omega)).mono ?_); rintro e wr123 ⟨rfl, hb⟩
            have hB := HB.out.trans (hb.mono HB.out.size)
            have hM := HM.out.below hb HM.out.lt
            clear hb
            clear HB HM HE
            have HB := Lib.hid hB
            have HM := Lib.hid hM
            clear hB hM))
       clear hHeld
       refine hK.out _ _ (cells3 (P10.out.below HB.out).x) (fun hHeld => ?_)
       clear hK K
       try simp only [pS, s0, sS]
       refine wpAnyH_take (i := 7) (oi := a7) (v := ?_) rfl (by kernel_rfl) (by kernel_rfl) (by kernel_rfl) (fun _ _ _ h => h) (Or.inl ⟨by kernel_rfl, ?_⟩) hHeld ?_
       rotate_left
       · intro w hS; clear hS; unfold a7; go_simp; try with_reducible rfl
       simp only [pS, s0, sS, a7]
       refine wpAnyH_take (i := 8) (oi := a8) (v := ?_) rfl (by kernel_rfl) (by kernel_rfl) (by kernel_rfl) (fun _ _ _ h => h) (Or.inl ⟨by kernel_rfl, ?_⟩) hHeld ?_
       rotate_left
       · intro w hS; clear hS; unfold a8; go_simp; try with_reducible rfl
       simp only [pS, s0, sS, a8]
       refine wpAnyH_take (i := 9) (oi := a9) (v := ?_) rfl (by kernel_rfl) (by kernel_rfl) (by kernel_rfl) (fun _ _ _ h => h) (Or.inl ⟨by kernel_rfl, ?_⟩) hHeld ?_
       rotate_left
       · intro w hS; clear hS; unfold a9; go_simp; try with_reducible rfl
       simp only [pS, s0, sS, a9]
       refine one_ (i := 11) (by kernel_rfl) rfl (fun K hK => ?_)
       obtain ⟨x0, x1, x2, x3, x4, x5⟩ := cells6 HM.out
       have fx := HM.out.frozen
       go_simp
       go_wp2_with (fail)
       clear x0 x1 x2 x3 x4 x5 fx HM
       clear hHeld
       refine hK.out _ _ (cells3 (P10.out.below (put6 HB.out HP.out)).x) (fun hHeld => ?_)
       clear hK K
       refine wpAnyH_take (i := 12) (oi := a12) (v := ?_) rfl (by kernel_rfl) (by kernel_rfl) (by kernel_rfl) (fun _ _ _ h => h) (Or.inl ⟨by kernel_rfl, ?_⟩) hHeld ?_
       rotate_left
       · intro w hS; clear hS; unfold a12; go_simp; try with_reducible rfl
       simp only [pS, s0, sS, a12]
       refine wpAnyH_done (by kernel_rfl) ?_ _
       go_wp2
       go_meet
       exact ⟨rfl, put6 HB.out HP.out⟩
      ·
       go_simp
       try go_wp2_with (fail)
       have hB := HB.out.alloc HB.out.size (.cells #[.string N2, .string V2, .bool nv] 34)
       have hX := Blk.new wr115 34 [.string N2, .string V2, .bool nv]
       have HD : Hid ((Value.slice (some ⟨wr114.heap.size, 0, none⟩) (0) 0).ownBlock ≠ some wr115.heap.size) := fun e => by have := (HE.out.lt _ e).2; omega
       have hE := own_below HE.out (below_al (Below.refl wr115.heap.size wr115) (.cells #[.string N2, .string V2, .bool nv] 34))
       have hM := HM.out.below (below_al (Below.refl wr115.heap.size wr115) (.cells #[.string N2, .string V2, .bool nv] 34)) HM.out.lt
       generalize (wr115.alloc (.cells #[.string N2, .string V2, .bool nv] 34)) = wr125 at hB hX hE hM ⊢
       clear HB HE HM
       have HB := Lib.hid hB
       have HX := Lib.hid hX
       have HE := Lib.hid hE
       have HM := Lib.hid hM
       clear hB hX hE hM
       clear hHeld
       refine hK.out _ _ (cells3 (P10.out.below HB.out).x) (fun hHeld => ?_)
       clear hK K
       try simp only [pS, s0, sS]
       refine one_ (i := 2) (by kernel_rfl) rfl (fun K hK => ?_)
       refine step_append_rd rfl (.tmp 41) (.tmp 42) 22 rfl EF (.slice (some ⟨wr114.heap.size, 0, none⟩) (0) 0) (0) [] rfl HE.out A6 3 c6 (fcellsL (top T)) rfl (P10.out.below HB.out).t (fcells_one _) (by omega) (by unfold maxLen; omega) HB.out.size ?_
       intro Ar127 cr128 wr126 hE hf h2
       simp only [Nat.zero_add, List.nil_append] at hE h2 ⊢
       have hB := app_below HB.out HE.out hf
       have hX := HX.out.fr hf (fun e => HD.out e.symm)
       have HD2 : Hid ((Value.slice Ar127 (3) cr128).ownBlock ≠ some wr115.heap.size) := fun e => by
         rcases h2 with h | h
         · exact HD.out (h ▸ e)
         · have := HX.out.lt; have e2 := h.symm.trans e; simp at e2; omega
       clear HD
       have HD := HD2
       clear HD2
       have hM := HM.out.fr hf (fun e => own_ne_blk HE.out HM.out (by decide) e.symm)
       clear hf h2
       clear HB HE HX HM
       have HB := Lib.hid hB
       have HE := Lib.hid hE
       have HX := Lib.hid hX
       have HM := Lib.hid hM
       clear hB hE hX hM
       clear hHeld
       refine hK.out _ _ (cells3 (P10.out.below HB.out).x) (fun hHeld => ?_)
       clear hK K
       try simp only [pS, s0, sS]
       refine one_ (i := 5) (by kernel_rfl) rfl (fun K hK => ?_)
       refine step_append_rd rfl (.tmp 43) (.tmp 45) 22 rfl EF (.slice (Ar127) (3) cr128) (3) (fcellsL (top T)) rfl HE.out (some ⟨wr115.heap.size, 0, none⟩) 1 1 (fcellsL ([⟨N2, V2, nv⟩])) rfl (rd_one (f := ⟨N2, V2, nv⟩) HX.out) (fcells_one _) (by omega) (by unfold maxLen; omega) HB.out.size ?_
       intro Ar130 cr131 wr129 hE hf h2
       rw [← fcellsL_append] at hE
       have hB := app_below HB.out HE.out hf
       clear HX HD
       have hM := HM.out.fr hf (fun e => own_ne_blk HE.out HM.out (by decide) e.symm)
       clear hf h2
       clear HB HE HM
       have HB := Lib.hid hB
       have HE := Lib.hid hE
       have HM := Lib.hid hM
       clear hB hE hM
       clear hHeld
       refine hK.out _ _ (cells3 (P10.out.below HB.out).x) (fun hHeld => ?_)
       clear hK K
       try simp only [pS, s0, sS]
       refine one_ (i := 6) (by kernel_rfl) rfl (fun K hK => ?_)
       go_simp
       go_wp2_with (first
         | (go_at_call 14; (with_reducible refine (HQB.out _ _ _ cr131 (Rd.of_own HE.out) (by omega)).mono ?_); rintro e wr132 ⟨rfl, hb⟩
            have hB := HB.out.trans (hb.mono HB.out.size)
            have hM := HM.out.below hb HM.out.lt
            clear hb
            clear HB HM HE
            have HB := Lib.hid hB
            have HM := Lib.hid hM
            clear hB hM))
       clear hHeld
       refine hK.out _ _ (cells3 (P10.out.below HB.out).x) (fun hHeld => ?_)
       clear hK K
       try simp only [pS, s0, sS]
       refine wpAnyH_take (i := 7) (oi := a7) (v := ?_) rfl (by kernel_rfl) (by kernel_rfl) (by kernel_rfl) (fun _ _ _ h => h) (Or.inl ⟨by kernel_rfl, ?_⟩) hHeld ?_
       rotate_left
       · intro w hS; clear hS; unfold a7; go_simp; try with_reducible rfl
       simp only [pS, s0, sS, a7]
       refine wpAnyH_take (i := 8) (oi := a8) (v := ?_) rfl (by kernel_rfl) (by kernel_rfl) (by kernel_rfl) (fun _ _ _ h => h) (Or.inl ⟨by kernel_rfl, ?_⟩) hHeld ?_
       rotate_left
       · intro w hS; clear hS; unfold a8; go_simp; try with_reducible rfl
       simp only [pS, s0, sS, a8]
       refine wpAnyH_take (i := 9) (oi := a9) (v := ?_) rfl (by kernel_rfl) (by kernel_rfl) (by kernel_rfl) (fun _ _ _ h => h) (Or.inl ⟨by kernel_rfl, ?_⟩) hHeld ?_
       rotate_left
       · intro w hS; clear hS; unfold a9; go_simp; try with_reducible rfl
       simp only [pS, s0, sS, a9]
       refine one_ (i := 11) (by kernel_rfl) rfl (fun K hK => ?_)
       obtain ⟨x0, x1, x2, x3, x4, x5⟩ := cells6 HM.out
       have fx := HM.out.frozen
       go_simp
       go_wp2_with (fail)
       clear x0 x1 x2 x3 x4 x5 fx HM
       clear hHeld
       refine hK.out _ _ (cells3 (P10.out.below (put6 HB.out HP.out)).x) (fun hHeld => ?_)
       clear hK K
       refine wpAnyH_take (i := 12) (oi := a12) (v := ?_) rfl (by kernel_rfl) (by kernel_rfl) (by kernel_rfl) (fun _ _ _ h => h) (Or.inl ⟨by kernel_rfl, ?_⟩) hHeld ?_
       rotate_left
       · intro w hS; clear hS; unfold a12; go_simp; try with_reducible rfl
       simp only [pS, s0, sS, a12]
       refine wpAnyH_done (by kernel_rfl) ?_ _
       go_wp2
       go_meet
       exact ⟨rfl, put6 HB.out HP.out⟩
     ·
      go_simp
      try go_wp2_with (fail)
      have hB := HB.out.alloc HB.out.size (.cells #[.string N2, .string V2, .bool nv] 34)
      have hX := Blk.new wr114 34 [.string N2, .string V2, .bool nv]
      have hM := HM.out.below (below_al (Below.refl wr114.heap.size wr114) (.cells #[.string N2, .string V2, .bool nv] 34)) HM.out.lt
      generalize (wr114.alloc (.cells #[.string N2, .string V2, .bool nv] 34)) = wr134 at hB hX hM ⊢
      clear HB HM
      have HB := Lib.hid hB
      have HX := Lib.hid hX
      have HM := Lib.hid hM
      clear hB hX hM
      clear hHeld
      refine hK.out _ _ (cells3 (P10.out.below HB.out).x) (fun hHeld => ?_)
      clear hK K
      try simp only [pS, s0, sS]
      refine one_ (i := 0) (by kernel_rfl) rfl (fun K hK => ?_)
      go_simp
      try go_wp2_with (fail)
      have hB := HB.out.alloc HB.out.size (.cells #[] 34)
      have hE := own_lower (own_empty wr134) HB.out.size
      have HD : Hid ((Value.slice (some ⟨wr134.heap.size, 0, none⟩) 0 0).ownBlock ≠ some wr114.heap.size) := fun e => by have := HX.out.lt; simp [Value.ownBlock] at e; omega
      have hX := HX.out.below (below_al (Below.refl wr134.heap.size wr134) (.cells #[] 34)) HX.out.lt
      have hM := HM.out.below (below_al (Below.refl wr134.heap.size wr134) (.cells #[] 34)) HM.out.lt
      generalize (wr134.alloc (.cells #[] 34)) = wr135 at hB hE hX hM ⊢
      clear HB HX HM
      have HB := Lib.hid hB
      have HE := Lib.hid hE
      have HX := Lib.hid hX
      have HM := Lib.hid hM
      clear hB hE hX hM
      clear hHeld
      refine hK.out _ _ (cells3 (P10.out.below HB.out).x) (fun hHeld => ?_)
      clear hK K
      try simp only [pS, s0, sS]
      refine one_ (i := 2) (by kernel_rfl) rfl (fun K hK => ?_)
      refine step_append_rd rfl (.tmp 41) (.tmp 42) 22 rfl EF (.slice (some ⟨wr134.heap.size, 0, none⟩) (0) 0) (0) [] rfl HE.out A6 3 c6 (fcellsL (top T)) rfl (P10.out.below HB.out).t (fcells_one _) (by omega) (by unfold maxLen; omega) HB.out.size ?_
      intro Ar137 cr138 wr136 hE hf h2
      simp only [Nat.zero_add, List.nil_append] at hE h2 ⊢
      have hB := app_below HB.out HE.out hf
      have hX := HX.out.fr hf (fun e => HD.out e.symm)
      have HD2 : Hid ((Value.slice Ar137 (3) cr138).ownBlock ≠ some wr114.heap.size) := fun e => by
        rcases h2 with h | h
        · exact HD.out (h ▸ e)
        · have := HX.out.lt; have e2 := h.symm.trans e; simp at e2; omega
      clear HD
      have HD := HD2
      clear HD2
      have hM := HM.out.fr hf (fun e => own_ne_blk HE.out HM.out (by decide) e.symm)
      clear hf h2
      clear HB HE HX HM
      have HB := Lib.hid hB
      have HE := Lib.hid hE
      have HX := Lib.hid hX
      have HM := Lib.hid hM
      clear hB hE hX hM
      clear hHeld
      refine hK.out _ _ (cells3 (P10.out.below HB.out).x) (fun hHeld => ?_)
      clear hK K
      try simp only [pS, s0, sS]
      refine one_ (i := 5) (by kernel_rfl) rfl (fun K hK => ?_)
      refine step_append_rd rfl (.tmp 43) (.tmp 45) 22 rfl EF (.slice (Ar137) (3) cr138) (3) (fcellsL (top T)) rfl HE.out (some ⟨wr114.heap.size, 0, none⟩) 1 1 (fcellsL ([⟨N2, V2, nv⟩])) rfl (rd_one (f := ⟨N2, V2, nv⟩) HX.out) (fcells_one _) (by omega) (by unfold maxLen; omega) HB.out.size ?_
      intro Ar140 cr141 wr139 hE hf h2
      rw [← fcellsL_append] at hE
      have hB := app_below HB.out HE.out hf
      clear HX HD
      have hM := HM.out.fr hf (fun e => own_ne_blk HE.out HM.out (by decide) e.symm)
      clear hf h2
      clear HB HE HM
      have HB := Lib.hid hB
      have HE := Lib.hid hE
      have HM := Lib.hid hM
      clear hB hE hM
      clear hHeld
      refine hK.out _ _ (cells3 (P10.out.below HB.out).x) (fun hHeld => ?_)
      clear hK K
      try simp only [pS, s0, sS]
      refine one_ (i := 6) (by kernel_rfl) rfl (fun K hK => ?_)
      go_simp
      go_wp2_with (first
        | (go_at_call 14; (with_reducible refine (HQB.out _ _ _ cr141 (Rd.of_own HE.out) (by omega)).mono ?_); rintro e wr142 ⟨rfl, hb⟩
           have hB := HB.out.trans (hb.mono HB.out.size)
           have hM := HM.out.below hb HM.out.lt
           clear hb
           clear HB HM HE
           have HB := Lib.hid hB
           have HM := Lib.hid hM
           clear hB hM))
      clear hHeld
      refine hK.out _ _ (cells3 (P10.out.below HB.out).x) (fun hHeld => ?_)
      clear hK K
      try simp only [pS, s0, sS]
      refine wpAnyH_take (i := 7) (oi := a7) (v := ?_) rfl (by kernel_rfl) (by kernel_rfl) (by kernel_rfl) (fun _ _ _ h => h) (Or.inl ⟨by kernel_rfl, ?_⟩) hHeld ?_
      rotate_left
      · intro w hS; clear hS; unfold a7; go_simp; try with_reducible rfl
      simp only [pS, s0, sS, a7]
      refine wpAnyH_take (i := 8) (oi := a8) (v := ?_) rfl (by kernel_rfl) (by kernel_rfl) (by kernel_rfl) (fun _ _ _ h => h) (Or.inl ⟨by kernel_rfl, ?_⟩) hHeld ?_
      rotate_left
      · intro w hS; clear hS; unfold a8; go_simp; try with_reducible rfl
      simp only [pS, s0, sS, a8]
      refine wpAnyH_take (i := 9) (oi := a9) (v := ?_) rfl (by kernel_rfl) (by kernel_rfl) (by kernel_rfl) (fun _ _ _ h => h) (Or.inl ⟨by kernel_rfl, ?_⟩) hHeld ?_
      rotate_left
      · intro w hS; clear hS; unfold a9; go_simp; try with_reducible rfl
      simp only [pS, s0, sS, a9]
      refine one_ (i := 11) (by kernel_rfl) rfl (fun K hK => ?_)
      obtain ⟨x0, x1, x2, x3, x4, x5⟩ := cells6 HM.out
      have fx := HM.out.frozen
      go_simp
      go_wp2_with (fail)
      clear x0 x1 x2 x3 x4 x5 fx HM
      clear hHeld
      refine hK.out _ _ (cells3 (P10.out.below (put6 HB.out HP.out)).x) (fun hHeld => ?_)
      clear hK K
      refine wpAnyH_take (i := 12) (oi := a12) (v := ?_) rfl (by kernel_rfl) (by kernel_rfl) (by kernel_rfl) (fun _ _ _ h => h) (Or.inl ⟨by kernel_rfl, ?_⟩) hHeld ?_
      rotate_left
      · intro w hS; clear hS; unfold a12; go_simp; try with_reducible rfl
      simp only [pS, s0, sS, a12]
      refine wpAnyH_done (by kernel_rfl) ?_ _
      go_wp2
      go_meet
      exact ⟨rfl, put6 HB.out HP.out⟩
  case rest =>
    obtain ⟨rfl, hb⟩ := hcut
    rename World => w12
    have P13 := Lib.hid (P10.out.below hb)
    clear hb P10 HQA HQB
    go_upto_region 7 with (fail)
    go_cut [14] (fun x wx => x = .bool qc ∧ Below w12.heap.size w12 wx)
    case first =>
      have HB := Lib.hid ((Below.refl w12.heap.size w12).drew)
      refine wp_region_held_drew (S := (fun w2 => w2.cell? ⟨W.heap.size, 0, none⟩ = some (.string N2) ∧ w2.cell? ⟨W.heap.size, 1, none⟩ = some (.string V2) ∧ w2.cell? ⟨W.heap.size, 2, none⟩ = some (.bool nv))) (by kernel_rfl) ?_ (fun hHeld => ?_)
      · exact cells3 (P13.out.below HB.out).x
      generalize w12.drew = wr0 at HB hHeld ⊢
      refine wpAnyH_take (i := 1) (oi := b1) (v := ?_) rfl (by kernel_rfl) (by kernel_rfl) (by kernel_rfl) (fun _ _ _ h => h) (Or.inl ⟨by kernel_rfl, ?_⟩) hHeld ?_
      rotate_left
      · intro w hS; clear hS; unfold b1; go_simp; try with_reducible rfl
      simp only [pS, s0, sS, b1]
      refine wpAnyH_take (i := 3) (oi := b3) (v := ?_) rfl (by kernel_rfl) (by kernel_rfl) (by kernel_rfl) (fun _ _ _ h => h) (Or.inl ⟨by kernel_rfl, ?_⟩) hHeld ?_
      rotate_left
      · intro w hS; clear hS; unfold b3; go_simp; try with_reducible rfl
      simp only [pS, s0, sS, b3]
      refine wpAnyH_take (i := 5) (oi := b5) (v := ?_) rfl (by kernel_rfl) (by kernel_rfl) (by kernel_rfl) (fun _ _ _ h => h) (Or.inl ⟨by kernel_rfl, ?_⟩) hHeld ?_
      rotate_left
      · intro w hS; (try dsimp only at hS); unfold b5; go_simp; try with_reducible rfl
      simp only [pS, s0, sS, b5]
      refine wpAnyH_ready (rs := [0, 6, 12]) (by kernel_rfl) (by simp) ?_
      refine AllReadyH.cons rfl (fun K hK => ?_) (AllReadyH.cons rfl (fun K hK => ?_) (AllReadyH.cons rfl (fun K hK => ?_) (AllReadyH.nil)))
      ·
       go_simp
       try go_wp2_with (fail)
       have hB := HB.out.alloc HB.out.size (.cells #[] 34)
       have hE := own_lower (own_empty wr0) HB.out.size
       generalize (wr0.alloc (.cells #[] 34)) = wr1 at hB hE ⊢
       clear HB
       have HB := Lib.hid hB
       have HE := Lib.hid hE
       clear hB hE
       clear hHeld
       refine hK.out _ _ (cells3 (P13.out.below HB.out).x) (fun hHeld => ?_)
       clear hK K
       try simp only [pS, s0, sS]
       refine wpAnyH_ready (rs := [2, 6, 12]) (by kernel_rfl) (by simp) ?_
       refine AllReadyH.cons rfl (fun K hK => ?_) (AllReadyH.cons rfl (fun K hK => ?_) (AllReadyH.cons rfl (fun K hK => ?_) (AllReadyH.nil)))
       ·
        refine step_append_rd rfl (.tmp 51) (.tmp 52) 22 rfl EF (.slice (some ⟨wr0.heap.size, 0, none⟩) (0) 0) (0) [] rfl HE.out A6 3 c6 (fcellsL (top T)) rfl (P13.out.below HB.out).t (fcells_one _) (by omega) (by unfold maxLen; omega) HB.out.size ?_
        intro Ar3 cr4 wr2 hE hf h2
        simp only [Nat.zero_add, List.nil_append] at hE h2 ⊢
        have hB := app_below HB.out HE.out hf
        clear hf h2
        clear HB HE
        have HB := Lib.hid hB
        have HE := Lib.hid hE
        clear hB hE
        clear hHeld
        refine hK.out _ _ (cells3 (P13.out.below HB.out).x) (fun hHeld => ?_)
        clear hK K
        try simp only [pS, s0, sS]
        refine wpAnyH_ready (rs := [4, 6, 12]) (by kernel_rfl) (by simp) ?_
        refine AllReadyH.cons rfl (fun K hK => ?_) (AllReadyH.cons rfl (fun K hK => ?_) (AllReadyH.cons rfl (fun K hK => ?_) (AllReadyH.nil)))
        ·
         refine step_append_rd rfl (.tmp 53) (.tmp 54) 22 rfl EF (.slice (Ar3) (3) cr4) (3) (fcellsL (top T)) rfl HE.out Af m cf (fcellsL (F)) rfl (P13.out.below HB.out).o (fcells_one _) (by omega) (by unfold maxLen; omega) HB.out.size ?_
         intro Ar6 cr7 wr5 hE hf h2
         rw [← fcellsL_append] at hE
         have hB := app_below HB.out HE.out hf
         clear hf h2
         clear HB HE
         have HB := Lib.hid hB
         have HE := Lib.hid hE
         clear hB hE
         clear hHeld
         refine hK.out _ _ (cells3 (P13.out.below HB.out).x) (fun hHeld => ?_)
         clear hK K
         try simp only [pS, s0, sS]
         refine wpAnyH_ready (rs := [6, 12]) (by kernel_rfl) (by simp) ?_
         refine AllReadyH.cons rfl (fun K hK => ?_) (AllReadyH.cons rfl (fun K hK => ?_) (AllReadyH.nil))
         ·
          go_simp
          try go_wp2_with (fail)
          have hB := HB.out.alloc HB.out.size (.cells #[.string N2, .string V2, .bool nv] 34)
          have hX := Blk.new wr5 34 [.string N2, .string V2, .bool nv]
          have HD : Hid ((Value.slice (Ar6) (3 + m) cr7).ownBlock ≠ some wr5.heap.size) := fun e => by have := (HE.out.lt _ e).2; omega
          have hE := own_below HE.out (below_al (Below.refl wr5.heap.size wr5) (.cells #[.string N2, .string V2, .bool nv] 34))
          generalize (wr5.alloc (.cells #[.string N2, .string V2, .bool nv] 34)) = wr8 at hB hX hE ⊢
          clear HB HE
          have HB := Lib.hid hB
          have HX := Lib.hid hX
          have HE := Lib.hid hE
          clear hB hX hE
          clear hHeld
          refine hK.out _ _ (cells3 (P13.out.below HB.out).x) (fun hHeld => ?_)
          clear hK K
          try simp only [pS, s0, sS]
          refine wpAnyH_ready (rs := [7, 12]) (by kernel_rfl) (by simp) ?_
          refine AllReadyH.cons rfl (fun K hK => ?_) (AllReadyH.cons rfl (fun K hK => ?_) (AllReadyH.nil))
          ·
           refine step_append_rd rfl (.tmp 55) (.tmp 57) 22 rfl EF (.slice (Ar6) (3 + m) cr7) (3 + m) (fcellsL (top T ++ F)) rfl HE.out (some ⟨wr5.heap.size, 0, none⟩) 1 1 (fcellsL ([⟨N2, V2, nv⟩])) rfl (rd_one (f := ⟨N2, V2, nv⟩) HX.out) (fcells_one _) (by omega) (by unfold maxLen; omega) HB.out.size ?_
           intro Ar10 cr11 wr9 hE hf h2
           rw [← fcellsL_append] at hE
           have hB := app_below HB.out HE.out hf
           clear HX HD
           clear hf h2
           clear HB HE
           have HB := Lib.hid hB
           have HE := Lib.hid hE
           clear hB hE
           clear hHeld
           refine hK.out _ _ (cells3 (P13.out.below HB.out).x) (fun hHeld => ?_)
           clear hK K
           try simp only [pS, s0, sS]
           refine wpAnyH_ready (rs := [8, 12]) (by kernel_rfl) (by simp) ?_
           refine AllReadyH.cons rfl (fun K hK => ?_) (AllReadyH.cons rfl (fun K hK => ?_) (AllReadyH.nil))
           ·
            go_simp
            go_wp2_with (first
              | (go_at_call 14; (with_reducible refine (HQC.out _ _ _ cr11 (Rd.of_own HE.out) (by omega)).mono ?_); rintro e wr12 ⟨rfl, hb⟩
                 have hB := HB.out.trans (hb.mono HB.out.size)
                 clear hb
                 clear HB HE
                 have HB := Lib.hid hB
                 clear hB))
            clear hHeld
            refine hK.out _ _ (cells3 (P13.out.below HB.out).x) (fun hHeld => ?_)
            clear hK K
            try simp only [pS, s0, sS]
            refine wpAnyH_take (i := 9) (oi := b9) (v := ?_) rfl (by kernel_rfl) (by kernel_rfl) (by kernel_rfl) (fun _ _ _ h => h) (Or.inl ⟨by kernel_rfl, ?_⟩) hHeld ?_
            rotate_left
            · intro w hS; clear hS; unfold b9; go_simp; try with_reducible rfl
            simp only [pS, s0, sS, b9]
            refine wpAnyH_take (i := 10) (oi := b10) (v := ?_) rfl (by kernel_rfl) (by kernel_rfl) (by kernel_rfl) (fun _ _ _ h => h) (Or.inl ⟨by kernel_rfl, ?_⟩) hHeld ?_
            rotate_left
            · intro w hS; clear hS; unfold b10; go_simp; try with_reducible rfl
            simp only [pS, s0, sS, b10]
            refine wpAnyH_take (i := 11) (oi := b11) (v := ?_) rfl (by kernel_rfl) (by kernel_rfl) (by kernel_rfl) (fun _ _ _ h => h) (Or.inl ⟨by kernel_rfl, ?_⟩) hHeld ?_
            rotate_left
            · intro w hS; clear hS; unfold b11; go_simp; try with_reducible rfl
            simp only [pS, s0, sS, b11]
            refine one_ (i := 12) (by kernel_rfl) rfl (fun K hK => ?_)
            go_simp
            try go_wp2_with (fail)
            have hB := HB.out.alloc HB.out.size (.cells #[.string ⟨#[]⟩, .string ⟨#[]⟩, .string ⟨#[]⟩, .string ⟨#[]⟩, .int .i64 0, .int .i64 0] 28)
            have hM := Blk.new wr12 28 [.string ⟨#[]⟩, .string ⟨#[]⟩, .string ⟨#[]⟩, .string ⟨#[]⟩, .int .i64 0, .int .i64 0]
            have HP : Hid (w12.heap.size ≤ wr12.heap.size) := HB.out.size
            generalize (wr12.alloc (.cells #[.string ⟨#[]⟩, .string ⟨#[]⟩, .string ⟨#[]⟩, .string ⟨#[]⟩, .int .i64 0, .int .i64 0] 28)) = wr13 at hB hM ⊢
            clear HB
            have HB := Lib.hid hB
            have HM := Lib.hid hM
            clear hB hM
            clear hHeld
            refine hK.out _ _ (cells3 (P13.out.below HB.out).x) (fun hHeld => ?_)
            clear hK K
            try simp only [pS, s0, sS]
            refine one_ (i := 13) (by kernel_rfl) rfl (fun K hK => ?_)
            obtain ⟨x0, x1, x2, x3, x4, x5⟩ := cells6 HM.out
            have fx := HM.out.frozen
            go_simp
            go_wp2_with (fail)
            clear x0 x1 x2 x3 x4 x5 fx HM
            clear hHeld
            refine hK.out _ _ (cells3 (P13.out.below (put6 HB.out HP.out)).x) (fun hHeld => ?_)
            clear hK K
            refine wpAnyH_take (i := 14) (oi := b14) (v := ?_) rfl (by kernel_rfl) (by kernel_rfl) (by kernel_rfl) (fun _ _ _ h => h) (Or.inl ⟨by kernel_rfl, ?_⟩) hHeld ?_
            rotate_left
            · intro w hS; clear hS; unfold b14; go_simp; try with_reducible rfl
            simp only [pS, s0, sS, b14]
            refine wpAnyH_done (by kernel_rfl) ?_ _
            go_wp2
            go_meet
            exact ⟨rfl, put6 HB.out HP.out⟩
           ·
            go_simp
            try go_wp2_with (fail)
            have hB := HB.out.alloc HB.out.size (.cells #[.string ⟨#[]⟩, .string ⟨#[]⟩, .string ⟨#[]⟩, .string ⟨#[]⟩, .int .i64 0, .int .i64 0] 28)
            have hM := Blk.new wr9 28 [.string ⟨#[]⟩, .string ⟨#[]⟩, .string ⟨#[]⟩, .string ⟨#[]⟩, .int .i64 0, .int .i64 0]
            have HP : Hid (w12.heap.size ≤ wr9.heap.size) := HB.out.size
            have hE := own_below HE.out (below_al (Below.refl wr9.heap.size wr9) (.cells #[.string ⟨#[]⟩, .string ⟨#[]⟩, .string ⟨#[]⟩, .string ⟨#[]⟩, .int .i64 0, .int .i64 0] 28))
            generalize (wr9.alloc (.cells #[.string ⟨#[]⟩, .string ⟨#[]⟩, .string ⟨#[]⟩, .string ⟨#[]⟩, .int .i64 0, .int .i64 0] 28)) = wr15 at hB hM hE ⊢
            clear HB HE
            have HB := Lib.hid hB
            have HM := Lib.hid hM
            have HE := Lib.hid hE
            clear hB hM hE
            clear hHeld
            refine hK.out _ _ (cells3 (P13.out.below HB.out).x) (fun hHeld => ?_)
            clear hK K
            try simp only [pS, s0, sS]
            refine one_ (i := 8) (by kernel_rfl) rfl (fun K hK => ?_)
            go_simp
            go_wp2_with (first
              | (go_at_call 14; (with_reducible refine (HQC.out _ _ _ cr11 (Rd.of_own HE.out) (by omega)).mono ?_); rintro e wr16 ⟨rfl, hb⟩
                 have hB := HB.out.trans (hb.mono HB.out.size)
                 have hM := HM.out.below hb HM.out.lt
                 clear hb
                 clear HB HM HE
                 have HB := Lib.hid hB
                 have HM := Lib.hid hM
                 clear hB hM))
            clear hHeld
            refine hK.out _ _ (cells3 (P13.out.below HB.out).x) (fun hHeld => ?_)
            clear hK K
            try simp only [pS, s0, sS]
            refine wpAnyH_take (i := 9) (oi := b9) (v := ?_) rfl (by kernel_rfl) (by kernel_rfl) (by kernel_rfl) (fun _ _ _ h => h) (Or.inl ⟨by kernel_rfl, ?_⟩) hHeld ?_
            rotate_left
            · intro w hS; clear hS; unfold b9; go_simp; try with_reducible rfl
            simp only [pS, s0, sS, b9]
            refine wpAnyH_take (i := 10) (oi := b10) (v := ?_) rfl (by kernel_rfl) (by kernel_rfl) (by kernel_rfl) (fun _ _ _ h => h) (Or.inl ⟨by kernel_rfl, ?_⟩) hHeld ?_
            rotate_left
            · intro w hS; clear hS; unfold b10; go_simp; try with_reducible rfl
            simp only [pS, s0, sS, b10]
            refine wpAnyH_take (i := 11) (oi := b11) (v := ?_) rfl (by kernel_rfl) (by kernel_rfl) (by kernel_rfl) (fun _ _ _ h => h) (Or.inl ⟨by kernel_rfl, ?_⟩) hHeld ?_
            rotate_left
            · intro w hS; clear hS; unfold b11; go_simp; try with_reducible rfl
            simp only [pS, s0, sS, b11]
            refine one_ (i := 13) (by kernel_rfl) rfl (fun K hK => ?_)
            obtain ⟨x0, x1, x2, x3, x4, x5⟩ := cells6 HM.out
            have fx := HM.out.frozen
            go_simp
            go_wp2_with (fail)
            clear x0 x1 x2 x3 x4 x5 fx HM
            clear hHeld
            refine hK.out _ _ (cells3 (P13.out.below (put6 HB.out HP.out)).x) (fun hHeld => ?_)
            clear hK K
            refine wpAnyH_take (i := 14) (oi := b14) (v := ?_) rfl (by kernel_rfl) (by kernel_rfl) (by kernel_rfl) (fun _ _ _ h => h) (Or.inl ⟨by kernel_rfl, ?_⟩) hHeld ?_
            rotate_left
            · intro w hS; clear hS; unfold b14; go_simp; try with_reducible rfl
            simp only [pS, s0, sS, b14]
            refine wpAnyH_done (by kernel_rfl) ?_ _
            go_wp2
            go_meet
            exact ⟨rfl, put6 HB.out HP.out⟩
          ·
           go_simp
           try go_wp2_with (fail)
           have hB := HB.out.alloc HB.out.size (.cells #[.string ⟨#[]⟩, .string ⟨#[]⟩, .string ⟨#[]⟩, .string ⟨#[]⟩, .int .i64 0, .int .i64 0] 28)
           have hM := Blk.new wr8 28 [.string ⟨#[]⟩, .string ⟨#[]⟩, .string ⟨#[]⟩, .string ⟨#[]⟩, .int .i64 0, .int .i64 0]
           have HP : Hid (w12.heap.size ≤ wr8.heap.size) := HB.out.size
           have hE := own_below HE.out (below_al (Below.refl wr8.heap.size wr8) (.cells #[.string ⟨#[]⟩, .string ⟨#[]⟩, .string ⟨#[]⟩, .string ⟨#[]⟩, .int .i64 0, .int .i64 0] 28))
           have hX := HX.out.below (below_al (Below.refl wr8.heap.size wr8) (.cells #[.string ⟨#[]⟩, .string ⟨#[]⟩, .string ⟨#[]⟩, .string ⟨#[]⟩, .int .i64 0, .int .i64 0] 28)) HX.out.lt
           generalize (wr8.alloc (.cells #[.string ⟨#[]⟩, .string ⟨#[]⟩, .string ⟨#[]⟩, .string ⟨#[]⟩, .int .i64 0, .int .i64 0] 28)) = wr18 at hB hM hE hX ⊢
           clear HB HE HX
           have HB := Lib.hid hB
           have HM := Lib.hid hM
           have HE := Lib.hid hE
           have HX := Lib.hid hX
           clear hB hM hE hX
           clear hHeld
           refine hK.out _ _ (cells3 (P13.out.below HB.out).x) (fun hHeld => ?_)
           clear hK K
           try simp only [pS, s0, sS]
           refine one_ (i := 7) (by kernel_rfl) rfl (fun K hK => ?_)
           refine step_append_rd rfl (.tmp 55) (.tmp 57) 22 rfl EF (.slice (Ar6) (3 + m) cr7) (3 + m) (fcellsL (top T ++ F)) rfl HE.out (some ⟨wr5.heap.size, 0, none⟩) 1 1 (fcellsL ([⟨N2, V2, nv⟩])) rfl (rd_one (f := ⟨N2, V2, nv⟩) HX.out) (fcells_one _) (by omega) (by unfold maxLen; omega) HB.out.size ?_
           intro Ar20 cr21 wr19 hE hf h2
           rw [← fcellsL_append] at hE
           have hB := app_below HB.out HE.out hf
           clear HX HD
           have hM := HM.out.fr hf (fun e => own_ne_blk HE.out HM.out (by decide) e.symm)
           clear hf h2
           clear HB HE HM
           have HB := Lib.hid hB
           have HE := Lib.hid hE
           have HM := Lib.hid hM
           clear hB hE hM
           clear hHeld
           refine hK.out _ _ (cells3 (P13.out.below HB.out).x) (fun hHeld => ?_)
           clear hK K
           try simp only [pS, s0, sS]
           refine one_ (i := 8) (by kernel_rfl) rfl (fun K hK => ?_)
           go_simp
           go_wp2_with (first
             | (go_at_call 14; (with_reducible refine (HQC.out _ _ _ cr21 (Rd.of_own HE.out) (by omega)).mono ?_); rintro e wr22 ⟨rfl, hb⟩
                have hB := HB.out.trans (hb.mono HB.out.size)
                have hM := HM.out.below hb HM.out.lt
                clear hb
                clear HB HM HE
                have HB := Lib.hid hB
                have HM := Lib.hid hM
                clear hB hM))
           clear hHeld
           refine hK.out _ _ (cells3 (P13.out.below HB.out).x) (fun hHeld => ?_)
           clear hK K
           try simp only [pS, s0, sS]
           refine wpAnyH_take (i := 9) (oi := b9) (v := ?_) rfl (by kernel_rfl) (by kernel_rfl) (by kernel_rfl) (fun _ _ _ h => h) (Or.inl ⟨by kernel_rfl, ?_⟩) hHeld ?_
           rotate_left
           · intro w hS; clear hS; unfold b9; go_simp; try with_reducible rfl
           simp only [pS, s0, sS, b9]
           refine wpAnyH_take (i := 10) (oi := b10) (v := ?_) rfl (by kernel_rfl) (by kernel_rfl) (by kernel_rfl) (fun _ _ _ h => h) (Or.inl ⟨by kernel_rfl, ?_⟩) hHeld ?_
           rotate_left
           · intro w hS; clear hS; unfold b10; go_simp; try with_reducible rfl
           simp only [pS, s0, sS, b10]
           refine wpAnyH_take (i := 11) (oi := b11) (v := ?_) rfl (by kernel_rfl) (by kernel_rfl) (by kernel_rfl) (fun _ _ _ h => h) (Or.inl ⟨by kernel_rfl, ?_⟩) hHeld ?_
           rotate_left
           · intro w hS; clear hS; unfold b11; go_simp; try with_reducible rfl
           simp only [pS, s0, sS, b11]
           refine one_ (i := 13) (by kernel_rfl) rfl (fun K hK => ?_)
           obtain ⟨x0, x1, x2, x3, x4, x5⟩ := cells6 HM.out
           have fx := HM.out.frozen
           go_simp
           go_wp2_with (fail)
           clear x0 x1 x2 x3 x4 x5 fx HM
           clear hHeld
           refine hK.out _ _ (cells3 (P13.out.below (put6 HB.out HP.out)).x) (fun hHeld => ?_)
           clear hK K
           refine wpAnyH_take (i := 14) (oi := b14) (v := ?_) rfl (by kernel_rfl) (by kernel_rfl) (by kernel_rfl) (fun _ _ _ h => h) (Or.inl ⟨by kernel_rfl, ?_⟩) hHeld ?_
           rotate_left
           · intro w hS; clear hS; unfold b14; go_simp; try with_reducible rfl
           simp only [pS, s0, sS, b14]
           refine wpAnyH_done (by kernel_rfl) ?_ _
           go_wp2
           go_meet
           exact ⟨rfl, put6 HB.out HP.out⟩
         ·
          go_simp
          try go_wp2_with (fail)
          have hB := HB.out.alloc HB.out.size (.cells #[.string ⟨#[]⟩, .string ⟨#[]⟩, .string ⟨#[]⟩, .string ⟨#[]⟩, .int .i64 0, .int .i64 0] 28)
          have hM := Blk.new wr5 28 [.string ⟨#[]⟩, .string ⟨#[]⟩, .string ⟨#[]⟩, .string ⟨#[]⟩, .int .i64 0, .int .i64 0]
          have HP : Hid (w12.heap.size ≤ wr5.heap.size) := HB.out.size
          have hE := own_below HE.out (below_al (Below.refl wr5.heap.size wr5) (.cells #[.string ⟨#[]⟩, .string ⟨#[]⟩, .string ⟨#[]⟩, .string ⟨#[]⟩, .int .i64 0, .int .i64 0] 28))
          generalize (wr5.alloc (.cells #[.string ⟨#[]⟩, .string ⟨#[]⟩, .string ⟨#[]⟩, .string ⟨#[]⟩, .int .i64 0, .int .i64 0] 28)) = wr24 at hB hM hE ⊢
          clear HB HE
          have HB := Lib.hid hB
          have HM := Lib.hid hM
          have HE := Lib.hid hE
          clear hB hM hE
          clear hHeld
          refine hK.out _ _ (cells3 (P13.out.below HB.out).x) (fun hHeld => ?_)
          clear hK K
          try simp only [pS, s0, sS]
          refine one_ (i := 6) (by kernel_rfl) rfl (fun K hK => ?_)
          go_simp
          try go_wp2_with (fail)
          have hB := HB.out.alloc HB.out.size (.cells #[.string N2, .string V2, .bool nv] 34)
          have hX := Blk.new wr24 34 [.string N2, .string V2, .bool nv]
          have HD : Hid ((Value.slice (Ar6) (3 + m) cr7).ownBlock ≠ some wr24.heap.size) := fun e => by have := (HE.out.lt _ e).2; omega
          have hE := own_below HE.out (below_al (Below.refl wr24.heap.size wr24) (.cells #[.string N2, .string V2, .bool nv] 34))
          have hM := HM.out.below (below_al (Below.refl wr24.heap.size wr24) (.cells #[.string N2, .string V2, .bool nv] 34)) HM.out.lt
          generalize (wr24.alloc (.cells #[.string N2, .string V2, .bool nv] 34)) = wr25 at hB hX hE hM ⊢
          clear HB HE HM
          have HB := Lib.hid hB
          have HX := Lib.hid hX
          have HE := Lib.hid hE
          have HM := Lib.hid hM
          clear hB hX hE hM
          clear hHeld
          refine hK.out _ _ (cells3 (P13.out.below HB.out).x) (fun hHeld => ?_)
          clear hK K
          try simp only [pS, s0, sS]
          refine one_ (i := 7) (by kernel_rfl) rfl (fun K hK => ?_)
          refine step_append_rd rfl (.tmp 55) (.tmp 57) 22 rfl EF (.slice (Ar6) (3 + m) cr7) (3 + m) (fcellsL (top T ++ F)) rfl HE.out (some ⟨wr24.heap.size, 0, none⟩) 1 1 (fcellsL ([⟨N2, V2, nv⟩])) rfl (rd_one (f := ⟨N2, V2, nv⟩) HX.out) (fcells_one _) (by omega) (by unfold maxLen; omega) HB.out.size ?_
          intro Ar27 cr28 wr26 hE hf h2
          rw [← fcellsL_append] at hE
          have hB := app_below HB.out HE.out hf
          clear HX HD
          have hM := HM.out.fr hf (fun e => own_ne_blk HE.out HM.out (by decide) e.symm)
          clear hf h2
          clear HB HE HM
          have HB := Lib.hid hB
          have HE := Lib.hid hE
          have HM := Lib.hid hM
          clear hB hE hM
          clear hHeld
          refine hK.out _ _ (cells3 (P13.out.below HB.out).x) (fun hHeld => ?_)
          clear hK K
          try simp only [pS, s0, sS]
          refine one_ (i := 8) (by kernel_rfl) rfl (fun K hK => ?_)
          go_simp
          go_wp2_with (first
            | (go_at_call 14; (with_reducible refine (HQC.out _ _ _ cr28 (Rd.of_own HE.out) (by omega)).mono ?_); rintro e wr29 ⟨rfl, hb⟩
               have hB := HB.out.trans (hb.mono HB.out.size)
               have hM := HM.out.below hb HM.out.lt
               clear hb
               clear HB HM HE
               have HB := Lib.hid hB
               have HM := Lib.hid hM
               clear hB hM))
          clear hHeld
          refine hK.out _ _ (cells3 (P13.out.below HB.out).x) (fun hHeld => ?_)
          clear hK K
          try simp only [pS, s0, sS]
          refine wpAnyH_take (i := 9) (oi := b9) (v := ?_) rfl (by kernel_rfl) (by kernel_rfl) (by kernel_rfl) (fun _ _ _ h => h) (Or.inl ⟨by kernel_rfl, ?_⟩) hHeld ?_
          rotate_left
          · intro w hS; clear hS; unfold b9; go_simp; try with_reducible rfl
          simp only [pS, s0, sS, b9]
          refine wpAnyH_take (i := 10) (oi := b10) (v := ?_) rfl (by kernel_rfl) (by kernel_rfl) (by kernel_rfl) (fun _ _ _ h => h) (Or.inl ⟨by kernel_rfl, ?_⟩) hHeld ?_
          rotate_left
          · intro w hS; clear hS; unfold b10; go_simp; try with_reducible rfl
          simp only [pS, s0, sS, b10]
          refine wpAnyH_take (i := 11) (oi := b11) (v := ?_) rfl (by kernel_rfl) (by kernel_rfl) (by kernel_rfl) (fun _ _ _ h => h) (Or.inl ⟨by kernel_rfl, ?_⟩) hHeld ?_
          rotate_left
          · intro w hS; clear hS; unfold b11; go_simp; try with_reducible rfl
          simp only [pS, s0, sS, b11]
          refine one_ (i := 13) (by kernel_rfl) rfl (fun K hK => ?_)
          obtain ⟨x0, x1, x2, x3, x4, x5⟩ := cells6 HM.out
          have fx := HM.out.frozen
          go_simp
          go_wp2_with (fail)
          clear x0 x1 x2 x3 x4 x5 fx HM
          clear hHeld
          refine hK.out _ _ (cells3 (P13.out.below (put6 HB.out HP.out)).x) (fun hHeld => ?_)
          clear hK K
          refine wpAnyH_take (i := 14) (oi := b14) (v := ?_) rfl (by kernel_rfl) (by kernel_rfl) (by kernel_rfl) (fun _ _ _ h => h) (Or.inl ⟨by kernel_rfl, ?_⟩) hHeld ?_
          rotate_left
          · intro w hS; clear hS; unfold b14; go_simp; try with_reducible rfl
          simp only [pS, s0, sS, b14]
          refine wpAnyH_done (by kernel_rfl) ?_ _
          go_wp2
          go_meet
          exact ⟨rfl, put6 HB.out HP.out⟩
        ·
         go_simp
         try go_wp2_with (fail)
         have hB := HB.out.alloc HB.out.size (.cells #[.string N2, .string V2, .bool nv] 34)
         have hX := Blk.new wr2 34 [.string N2, .string V2, .bool nv]
         have HD : Hid ((Value.slice (Ar3) (3) cr4).ownBlock ≠ some wr2.heap.size) := fun e => by have := (HE.out.lt _ e).2; omega
         have hE := own_below HE.out (below_al (Below.refl wr2.heap.size wr2) (.cells #[.string N2, .string V2, .bool nv] 34))
         generalize (wr2.alloc (.cells #[.string N2, .string V2, .bool nv] 34)) = wr31 at hB hX hE ⊢
         clear HB HE
         have HB := Lib.hid hB
         have HX := Lib.hid hX
         have HE := Lib.hid hE
         clear hB hX hE
         clear hHeld
         refine hK.out _ _ (cells3 (P13.out.below HB.out).x) (fun hHeld => ?_)
         clear hK K
         try simp only [pS, s0, sS]
         refine wpAnyH_ready (rs := [4, 12]) (by kernel_rfl) (by simp) ?_
         refine AllReadyH.cons rfl (fun K hK => ?_) (AllReadyH.cons rfl (fun K hK => ?_) (AllReadyH.nil))
         ·
          refine step_append_rd rfl (.tmp 53) (.tmp 54) 22 rfl EF (.slice (Ar3) (3) cr4) (3) (fcellsL (top T)) rfl HE.out Af m cf (fcellsL (F)) rfl (P13.out.below HB.out).o (fcells_one _) (by omega) (by unfold maxLen; omega) HB.out.size ?_
          intro Ar33 cr34 wr32 hE hf h2
          rw [← fcellsL_append] at hE
          have hB := app_below HB.out HE.out hf
          have hX := HX.out.fr hf (fun e => HD.out e.symm)
          have HD2 : Hid ((Value.slice Ar33 (3 + m) cr34).ownBlock ≠ some wr2.heap.size) := fun e => by
            rcases h2 with h | h
            · exact HD.out (h ▸ e)
            · have := HX.out.lt; have e2 := h.symm.trans e; simp at e2; omega
          clear HD
          have HD := HD2
          clear HD2
          clear hf h2
          clear HB HE HX
          have HB := Lib.hid hB
          have HE := Lib.hid hE
          have HX := Lib.hid hX
          clear hB hE hX
          clear hHeld
          refine hK.out _ _ (cells3 (P13.out.below HB.out).x) (fun hHeld => ?_)
          clear hK K
          try simp only [pS, s0, sS]
          refine wpAnyH_ready (rs := [7, 12]) (by kernel_rfl) (by simp) ?_
          refine AllReadyH.cons rfl (fun K hK => ?_) (AllReadyH.cons rfl (fun K hK => ?_) (AllReadyH.nil))
          ·
           refine step_append_rd rfl (.tmp 55) (.tmp 57) 22 rfl EF (.slice (Ar33) (3 + m) cr34) (3 + m) (fcellsL (top T ++ F)) rfl HE.out (some ⟨wr2.heap.size, 0, none⟩) 1 1 (fcellsL ([⟨N2, V2, nv⟩])) rfl (rd_one (f := ⟨N2, V2, nv⟩) HX.out) (fcells_one _) (by omega) (by unfold maxLen; omega) HB.out.size ?_
           intro Ar36 cr37 wr35 hE hf h2
           rw [← fcellsL_append] at hE
           have hB := app_below HB.out HE.out hf
           clear HX HD
           clear hf h2
           clear HB HE
           have HB := Lib.hid hB
           have HE := Lib.hid hE
           clear hB hE
           clear hHeld
           refine hK.out _ _ (cells3 (P13.out.below HB.out).x) (fun hHeld => ?_)
           clear hK K
           try simp only [pS, s0, sS]
           refine wpAnyH_ready (rs := [8, 12]) (by kernel_rfl) (by simp) ?_
           refine AllReadyH.cons rfl (fun K hK => ?_) (AllReadyH.cons rfl (fun K hK => ?_) (AllReadyH.nil))
           ·
            go_simp
            go_wp2_with (first
              | (go_at_call 14; (with_reducible refine (HQC.out _ _ _ cr37 (Rd.of_own HE.out) (by omega)).mono ?_); rintro e wr38 ⟨rfl, hb⟩
                 have hB := HB.out.trans (hb.mono HB.out.size)
                 clear hb
                 clear HB HE
                 have HB := Lib.hid hB
                 clear hB))
            clear hHeld
            refine hK.out _ _ (cells3 (P13.out.below HB.out).x) (fun hHeld => ?_)
            clear hK K
            try simp only [pS, s0, sS]
            refine wpAnyH_take (i := 9) (oi := b9) (v := ?_) rfl (by kernel_rfl) (by kernel_rfl) (by kernel_rfl) (fun _ _ _ h => h) (Or.inl ⟨by kernel_rfl, ?_⟩) hHeld ?_
            rotate_left
            · intro w hS; clear hS; unfold b9; go_simp; try with_reducible rfl
            simp only [pS, s0, sS, b9]
            refine wpAnyH_take (i := 10) (oi := b10) (v := ?_) rfl (by kernel_rfl) (by kernel_rfl) (by kernel_rfl) (fun _ _ _ h => h) (Or.inl ⟨by kernel_rfl, ?_⟩) hHeld ?_
            rotate_left
            · intro w hS; clear hS; unfold b10; go_simp; try with_reducible rfl
            simp only [pS, s0, sS, b10]
            refine wpAnyH_take (i := 11) (oi := b11) (v := ?_) rfl (by kernel_rfl) (by kernel_rfl) (by kernel_rfl) (fun _ _ _ h => h) (Or.inl ⟨by kernel_rfl, ?_⟩) hHeld ?_
            rotate_left
            · intro w hS; clear hS; unfold b11; go_simp; try with_reducible rfl
            simp only [pS, s0, sS, b11]
            refine one_ (i := 12) (by kernel_rfl) rfl (fun K hK => ?_)
            go_simp
            try go_wp2_with (fail)
            have hB := HB.out.alloc HB.out.size (.cells #[.string ⟨#[]⟩, .string ⟨#[]⟩, .string ⟨#[]⟩, .string ⟨#[]⟩, .int .i64 0, .int .i64 0] 28)
            have hM := Blk.new wr38 28 [.string ⟨#[]⟩, .string ⟨#[]⟩, .string ⟨#[]⟩, .string ⟨#[]⟩, .int .i64 0, .int .i64 0]
            have HP : Hid (w12.heap.size ≤ wr38.heap.size) := HB.out.size
            generalize (wr38.alloc (.cells #[.string ⟨#[]⟩, .string ⟨#[]⟩, .string ⟨#[]⟩, .string ⟨#[]⟩, .int .i64 0, .int .i64 0] 28)) = wr39 at hB hM ⊢
            clear HB
            have HB := Lib.hid hB
            have HM := Lib.hid hM
            clear hB hM
            clear hHeld
            refine hK.out _ _ (cells3 (P13.out.below HB.out).x) (fun hHeld => ?_)
            clear hK K
            try simp only [pS, s0, sS]
            refine one_ (i := 13) (by kernel_rfl) rfl (fun K hK => ?_)
            obtain ⟨x0, x1, x2, x3, x4, x5⟩ := cells6 HM.out
            have fx := HM.out.frozen
            go_simp
            go_wp2_with (fail)
            clear x0 x1 x2 x3 x4 x5 fx HM
            clear hHeld
            refine hK.out _ _ (cells3 (P13.out.below (put6 HB.out HP.out)).x) (fun hHeld => ?_)
            clear hK K
            refine wpAnyH_take (i := 14) (oi := b14) (v := ?_) rfl (by kernel_rfl) (by kernel_rfl) (by kernel_rfl) (fun _ _ _ h => h) (Or.inl ⟨by kernel_rfl, ?_⟩) hHeld ?_
            rotate_left
            · intro w hS; clear hS; unfold b14; go_simp; try with_reducible rfl
            simp only [pS, s0, sS, b14]
            refine wpAnyH_done (by kernel_rfl) ?_ _
            go_wp2
            go_meet
            exact ⟨rfl, put6 HB.out HP.out⟩
           ·
            go_simp
            try go_wp2_with (fail)
            have hB := HB.out.alloc HB.out.size (.cells #[.string ⟨#[]⟩, .string ⟨#[]⟩, .string ⟨#[]⟩, .string ⟨#[]⟩, .int .i64 0, .int .i64 0] 28)
            have hM := Blk.new wr35 28 [.string ⟨#[]⟩, .string ⟨#[]⟩, .string ⟨#[]⟩, .string ⟨#[]⟩, .int .i64 0, .int .i64 0]
            have HP : Hid (w12.heap.size ≤ wr35.heap.size) := HB.out.size
            have hE := own_below HE.out (below_al (Below.refl wr35.heap.size wr35) (.cells #[.string ⟨#[]⟩, .string ⟨#[]⟩, .string ⟨#[]⟩, .string ⟨#[]⟩, .int .i64 0, .int .i64 0] 28))
            generalize (wr35.alloc (.cells #[.string ⟨#[]⟩, .string ⟨#[]⟩, .string ⟨#[]⟩, .string ⟨#[]⟩, .int .i64 0, .int .i64 0] 28)) = wr41 at hB hM hE ⊢
            clear HB HE
            have HB := Lib.hid hB
            have HM := Lib.hid hM
            have HE := Lib.hid hE
            clear hB hM hE
            clear hHeld
            refine hK.out _ _ (cells3 (P13.out.below HB.out).x) (fun hHeld => ?_)
            clear hK K
            try simp only [pS, s0, sS]
            refine one_ (i := 8) (by kernel_rfl) rfl (fun K hK => ?_)
            go_simp
            go_wp2_with (first
              | (go_at_call 14; (with_reducible refine (HQC.out _ _ _ cr37 (Rd.of_own HE.out) (by omega)).mono ?_); rintro e wr42 ⟨rfl, hb⟩
                 have hB := HB.out.trans (hb.mono HB.out.size)
                 have hM := HM.out.below hb HM.out.lt
                 clear hb
                 clear HB HM HE
                 have HB := Lib.hid hB
                 have HM := Lib.hid hM
                 clear hB hM))
            clear hHeld
            refine hK.out _ _ (cells3 (P13.out.below HB.out).x) (fun hHeld => ?_)
            clear hK K
            try simp only [pS, s0, sS]
            refine wpAnyH_take (i := 9) (oi := b9) (v := ?_) rfl (by kernel_rfl) (by kernel_rfl) (by kernel_rfl) (fun _ _ _ h => h) (Or.inl ⟨by kernel_rfl, ?_⟩) hHeld ?_
            rotate_left
            · intro w hS; clear hS; unfold b9; go_simp; try with_reducible rfl
            simp only [pS, s0, sS, b9]
            refine wpAnyH_take (i := 10) (oi := b10) (v := ?_) rfl (by kernel_rfl) (by kernel_rfl) (by kernel_rfl) (fun _ _ _ h => h) (Or.inl ⟨by kernel_rfl, ?_⟩) hHeld ?_
            rotate_left
            · intro w hS; clear hS; unfold b10; go_simp; try with_reducible rfl
            simp only [pS, s0, sS, b10]
            refine wpAnyH_take (i := 11) (oi := b11) (v := ?_) rfl (by kernel_rfl) (by kernel_rfl) (by kernel_rfl) (fun _ _ _ h => h) (Or.inl ⟨by kernel_rfl, ?_⟩) hHeld ?_
            rotate_left
            · intro w hS; clear hS; unfold b11; go_simp; try with_reducible rfl
            simp only [pS, s0, sS, b11]
            refine one_ (i := 13) (by kernel_rfl) rfl (fun K hK => ?_)
            obtain ⟨x0, x1, x2, x3, x4, x5⟩ := cells6 HM.out
            have fx := HM.out.frozen
            go_simp
            go_wp2_with (fail)
            clear x0 x1 x2 x3 x4 x5 fx HM
            clear hHeld
            refine hK.out _ _ (cells3 (P13.out.below (put6 HB.out HP.out)).x) (fun hHeld => ?_)
            clear hK K
            refine wpAnyH_take (i := 14) (oi := b14) (v := ?_) rfl (by kernel_rfl) (by kernel_rfl) (by kernel_rfl) (fun _ _ _ h => h) (Or.inl ⟨by kernel_rfl, ?_⟩) hHeld ?_
            rotate_left
            · intro w hS; clear hS; unfold b14; go_simp; try with_reducible rfl
            simp only [pS, s0, sS, b14]
            refine wpAnyH_done (by kernel_rfl) ?_ _
            go_wp2
            go_meet
            exact ⟨rfl, put6 HB.out HP.out⟩
          ·
           go_simp
           try go_wp2_with (fail)
           have hB := HB.out.alloc HB.out.size (.cells #[.string ⟨#[]⟩, .string ⟨#[]⟩, .string ⟨#[]⟩, .string ⟨#[]⟩, .int .i64 0, .int .i64 0] 28)
           have hM := Blk.new wr32 28 [.string ⟨#[]⟩, .string ⟨#[]⟩, .string ⟨#[]⟩, .string ⟨#[]⟩, .int .i64 0, .int .i64 0]
           have HP : Hid (w12.heap.size ≤ wr32.heap.size) := HB.out.size
           have hE := own_below HE.out (below_al (Below.refl wr32.heap.size wr32) (.cells #[.string ⟨#[]⟩, .string ⟨#[]⟩, .string ⟨#[]⟩, .string ⟨#[]⟩, .int .i64 0, .int .i64 0] 28))
           have hX := HX.out.below (below_al (Below.refl wr32.heap.size wr32) (.cells #[.string ⟨#[]⟩, .string ⟨#[]⟩, .string ⟨#[]⟩, .string ⟨#[]⟩, .int .i64 0, .int .i64 0] 28)) HX.out.lt
           generalize (wr32.alloc (.cells #[.string ⟨#[]⟩, .string ⟨#[]⟩, .string ⟨#[]⟩, .string ⟨#[]⟩, .int .i64 0, .int .i64 0] 28)) = wr44 at hB hM hE hX ⊢
           clear HB HE HX
           have HB := Lib.hid hB
           have HM := Lib.hid hM
           have HE := Lib.hid hE
           have HX := Lib.hid hX
           clear hB hM hE hX
           clear hHeld
           refine hK.out _ _ (cells3 (P13.out.below HB.out).x) (fun hHeld => ?_)
           clear hK K
           try simp only [pS, s0, sS]
           refine one_ (i := 7) (by kernel_rfl) rfl (fun K hK => ?_)
           refine step_append_rd rfl (.tmp 55) (.tmp 57) 22 rfl EF (.slice (Ar33) (3 + m) cr34) (3 + m) (fcellsL (top T ++ F)) rfl HE.out (some ⟨wr2.heap.size, 0, none⟩) 1 1 (fcellsL ([⟨N2, V2, nv⟩])) rfl (rd_one (f := ⟨N2, V2, nv⟩) HX.out) (fcells_one _) (by omega) (by unfold maxLen; omega) HB.out.size ?_
           intro Ar46 cr47 wr45 hE hf h2
           rw [← fcellsL_append] at hE
           have hB := app_below HB.out HE.out hf
           clear HX HD
           have hM := HM.out.fr hf (fun e => own_ne_blk HE.out HM.out (by decide) e.symm)
           clear hf h2
           clear HB HE HM
           have HB := Lib.hid hB
           have HE := Lib.hid hE
           have HM := Lib.hid hM
           clear hB hE hM
           clear hHeld
           refine hK.out _ _ (cells3 (P13.out.below HB.out).x) (fun hHeld => ?_)
           clear hK K
           try simp only [pS, s0, sS]
           refine one_ (i := 8) (by kernel_rfl) rfl (fun K hK => ?_)
           go_simp
           go_wp2_with (first
             | (go_at_call 14; (with_reducible refine (HQC.out _ _ _ cr47 (Rd.of_own HE.out) (by omega)).mono ?_); rintro e wr48 ⟨rfl, hb⟩
                have hB := HB.out.trans (hb.mono HB.out.size)
                have hM := HM.out.below hb HM.out.lt
                clear hb
                clear HB HM HE
                have HB := Lib.hid hB
                have HM := Lib.hid hM
                clear hB hM))
           clear hHeld
           refine hK.out _ _ (cells3 (P13.out.below HB.out).x) (fun hHeld => ?_)
           clear hK K
           try simp only [pS, s0, sS]
           refine wpAnyH_take (i := 9) (oi := b9) (v := ?_) rfl (by kernel_rfl) (by kernel_rfl) (by kernel_rfl) (fun _ _ _ h => h) (Or.inl ⟨by kernel_rfl, ?_⟩) hHeld ?_
           rotate_left
           · intro w hS; clear hS; unfold b9; go_simp; try with_reducible rfl
           simp only [pS, s0, sS, b9]
           refine wpAnyH_take (i := 10) (oi := b10) (v := ?_) rfl (by kernel_rfl) (by kernel_rfl) (by kernel_rfl) (fun _ _ _ h => h) (Or.inl ⟨by kernel_rfl, ?_⟩) hHeld ?_
           rotate_left
           · intro w hS; clear hS; unfold b10; go_simp; try with_reducible rfl
           simp only [pS, s0, sS, b10]
           refine wpAnyH_take (i := 11) (oi := b11) (v := ?_) rfl (by kernel_rfl) (by kernel_rfl) (by kernel_rfl) (fun _ _ _ h => h) (Or.inl ⟨by kernel_rfl, ?_⟩) hHeld ?_
           rotate_left
           · intro w hS; clear hS; unfold b11; go_simp; try with_reducible rfl
           simp only [pS, s0, sS, b11]
           refine one_ (i := 13) (by kernel_rfl) rfl (fun K hK => ?_)
           obtain ⟨x0, x1, x2, x3, x4, x5⟩ := cells6 HM.out
           have fx := HM.out.frozen
           go_simp
           go_wp2_with (fail)
           clear x0 x1 x2 x3 x4 x5 fx HM
           clear hHeld
           refine hK.out _ _ (cells3 (P13.out.below (put6 HB.out HP.out)).x) (fun hHeld => ?_)
           clear hK K
           refine wpAnyH_take (i := 14) (oi := b14) (v := ?_) rfl (by kernel_rfl) (by kernel_rfl) (by kernel_rfl) (fun _ _ _ h => h) (Or.inl ⟨by kernel_rfl, ?_⟩) hHeld ?_
           rotate_left
           · intro w hS; clear hS; unfold b14; go_simp; try with_reducible rfl
           simp only [pS, s0, sS, b14]
           refine wpAnyH_done (by kernel_rfl) ?_ _
           go_wp2
           go_meet
           exact ⟨rfl, put6 HB.out HP.out⟩
         ·
          go_simp
          try go_wp2_with (fail)
          have hB := HB.out.alloc HB.out.size (.cells #[.string ⟨#[]⟩, .string ⟨#[]⟩, .string ⟨#[]⟩, .string ⟨#[]⟩, .int .i64 0, .int .i64 0] 28)
          have hM := Blk.new wr31 28 [.string ⟨#[]⟩, .string ⟨#[]⟩, .string ⟨#[]⟩, .string ⟨#[]⟩, .int .i64 0, .int .i64 0]
          have HP : Hid (w12.heap.size ≤ wr31.heap.size) := HB.out.size
          have hE := own_below HE.out (below_al (Below.refl wr31.heap.size wr31) (.cells #[.string ⟨#[]⟩, .string ⟨#[]⟩, .string ⟨#[]⟩, .string ⟨#[]⟩, .int .i64 0, .int .i64 0] 28))
          have hX := HX.out.below (below_al (Below.refl wr31.heap.size wr31) (.cells #[.string ⟨#[]⟩, .string ⟨#[]⟩, .string ⟨#[]⟩, .string ⟨#[]⟩, .int .i64 0, .int .i64 0] 28)) HX.out.lt
          generalize (wr31.alloc (.cells #[.string ⟨#[]⟩, .string ⟨#[]⟩, .string ⟨#[]⟩, .string ⟨#[]⟩, .int .i64 0, .int .i64 0] 28)) = wr50 at hB hM hE hX ⊢
          clear HB HE HX
          have HB := Lib.hid hB
          have HM := Lib.hid hM
          have HE := Lib.hid hE
          have HX := Lib.hid hX
          clear hB hM hE hX
          clear hHeld
          refine hK.out _ _ (cells3 (P13.out.below HB.out).x) (fun hHeld => ?_)
          clear hK K
          try simp only [pS, s0, sS]
          refine one_ (i := 4) (by kernel_rfl) rfl (fun K hK => ?_)
          refine step_append_rd rfl (.tmp 53) (.tmp 54) 22 rfl EF (.slice (Ar3) (3) cr4) (3) (fcellsL (top T)) rfl HE.out Af m cf (fcellsL (F)) rfl (P13.out.below HB.out).o (fcells_one _) (by omega) (by unfold maxLen; omega) HB.out.size ?_
          intro Ar52 cr53 wr51 hE hf h2
          rw [← fcellsL_append] at hE
          have hB := app_below HB.out HE.out hf
          have hX := HX.out.fr hf (fun e => HD.out e.symm)
          have HD2 : Hid ((Value.slice Ar52 (3 + m) cr53).ownBlock ≠ some wr2.heap.size) := fun e => by
            rcases h2 with h | h
            · exact HD.out (h ▸ e)
            · have := HX.out.lt; have e2 := h.symm.trans e; simp at e2; omega
          clear HD
          have HD := HD2
          clear HD2
          have hM := HM.out.fr hf (fun e => own_ne_blk HE.out HM.out (by decide) e.symm)
          clear hf h2
          clear HB HE HX HM
          have HB := Lib.hid hB
          have HE := Lib.hid hE
          have HX := Lib.hid hX
          have HM := Lib.hid hM
          clear hB hE hX hM
          clear hHeld
          refine hK.out _ _ (cells3 (P13.out.below HB.out).x) (fun hHeld => ?_)
          clear hK K
          try simp only [pS, s0, sS]
          refine one_ (i := 7) (by kernel_rfl) rfl (fun K hK => ?_)
          refine step_append_rd rfl (.tmp 55) (.tmp 57) 22 rfl EF (.slice (Ar52) (3 + m) cr53) (3 + m) (fcellsL (top T ++ F)) rfl HE.out (some ⟨wr2.heap.size, 0, none⟩) 1 1 (fcellsL ([⟨N2, V2, nv⟩])) rfl (rd_one (f := ⟨N2, V2, nv⟩) HX.out) (fcells_one _) (by omega) (by unfold maxLen; omega) HB.out.size ?_
          intro Ar55 cr56 wr54 hE hf h2
          rw [← fcellsL_append] at hE
          have hB := app_below HB.out HE.out hf
          clear HX HD
          have hM := HM.out.fr hf (fun e => own_ne_blk HE.out HM.out (by decide) e.symm)
          clear hf h2
          clear HB HE HM
          have HB := Lib.hid hB
          have HE := Lib.hid hE
          have HM := Lib.hid hM
          clear hB hE hM
          clear hHeld
          refine hK.out _ _ (cells3 (P13.out.below HB.out).x) (fun hHeld => ?_)
          clear hK K
          try simp only [pS, s0, sS]
          refine one_ (i := 8) (by kernel_rfl) rfl (fun K hK => ?_)
          go_simp
          go_wp2_with (first
            | (go_at_call 14; (with_reducible refine (HQC.out _ _ _ cr56 (Rd.of_own HE.out) (by omega)).mono ?_); rintro e wr57 ⟨rfl, hb⟩
               have hB := HB.out.trans (hb.mono HB.out.size)
               have hM := HM.out.below hb HM.out.lt
               clear hb
               clear HB HM HE
               have HB := Lib.hid hB
               have HM := Lib.hid hM
               clear hB hM))
          clear hHeld
          refine hK.out _ _ (cells3 (P13.out.below HB.out).x) (fun hHeld => ?_)
          clear hK K
          try simp only [pS, s0, sS]
          refine wpAnyH_take (i := 9) (oi := b9) (v := ?_) rfl (by kernel_rfl) (by kernel_rfl) (by kernel_rfl) (fun _ _ _ h => h) (Or.inl ⟨by kernel_rfl, ?_⟩) hHeld ?_
          rotate_left
          · intro w hS; clear hS; unfold b9; go_simp; try with_reducible rfl
          simp only [pS, s0, sS, b9]
          refine wpAnyH_take (i := 10) (oi := b10) (v := ?_) rfl (by kernel_rfl) (by kernel_rfl) (by kernel_rfl) (fun _ _ _ h => h) (Or.inl ⟨by kernel_rfl, ?_⟩) hHeld ?_
          rotate_left
          · intro w hS; clear hS; unfold b10; go_simp; try with_reducible rfl
          simp only [pS, s0, sS, b10]
          refine wpAnyH_take (i := 11) (oi := b11) (v := ?_) rfl (by kernel_rfl) (by kernel_rfl) (by kernel_rfl) (fun _ _ _ h => h) (Or.inl ⟨by kernel_rfl, ?_⟩) hHeld ?_
          rotate_left
          · intro w hS; clear hS; unfold b11; go_simp; try with_reducible rfl
          simp only [pS, s0, sS, b11]
          refine one_ (i := 13) (by kernel_rfl) rfl (fun K hK => ?_)
          obtain ⟨x0, x1, x2, x3, x4, x5⟩ := cells6 HM.out
          have fx := HM.out.frozen
          go_simp
          go_wp2_with (fail)
          clear x0 x1 x2 x3 x4 x5 fx HM
          clear hHeld
          refine hK.out _ _ (cells3 (P13.out.below (put6 HB.out HP.out)).x) (fun hHeld => ?_)
          clear hK K
          refine wpAnyH_take (i := 14) (oi := b14) (v := ?_) rfl (by kernel_rfl) (by kernel_rfl) (by kernel_rfl) (fun _ _ _ h => h) (Or.inl ⟨by kernel_rfl, ?_⟩) hHeld ?_
          rotate_left
          · intro w hS; clear hS; unfold b14; go_simp; try with_reducible rfl
          simp only [pS, s0, sS, b14]
          refine wpAnyH_done (by kernel_rfl) ?_ _
          go_wp2
          go_meet
          exact ⟨rfl, put6 HB.out HP.out⟩
        ·
         go_simp
         try go_wp2_with (fail)
         have hB := HB.out.alloc HB.out.size (.cells #[.string ⟨#[]⟩, .string ⟨#[]⟩, .string ⟨#[]⟩, .string ⟨#[]⟩, .int .i64 0, .int .i64 0] 28)
         have hM := Blk.new wr2 28 [.string ⟨#[]⟩, .string ⟨#[]⟩, .string ⟨#[]⟩, .string ⟨#[]⟩, .int .i64 0, .int .i64 0]
         have HP : Hid (w12.heap.size ≤ wr2.heap.size) := HB.out.size
         have hE := own_below HE.out (below_al (Below.refl wr2.heap.size wr2) (.cells #[.string ⟨#[]⟩, .string ⟨#[]⟩, .string ⟨#[]⟩, .string ⟨#[]⟩, .int .i64 0, .int .i64 0] 28))
         generalize (wr2.alloc (.cells #[.string ⟨#[]⟩, .string ⟨#[]⟩, .string ⟨#[]⟩, .string ⟨#[]⟩, .int .i64 0, .int .i64 0] 28)) = wr59 at hB hM hE ⊢
         clear HB HE
         have HB := Lib.hid hB
         have HM := Lib.hid hM
         have HE := Lib.hid hE
         clear hB hM hE
         clear hHeld
         refine hK.out _ _ (cells3 (P13.out.below HB.out).x) (fun hHeld => ?_)
         clear hK K
         try simp only [pS, s0, sS]
         refine wpAnyH_ready (rs := [4, 6]) (by kernel_rfl) (by simp) ?_
         refine AllReadyH.cons rfl (fun K hK => ?_) (AllReadyH.cons rfl (fun K hK => ?_) (AllReadyH.nil))
         ·
          refine step_append_rd rfl (.tmp 53) (.tmp 54) 22 rfl EF (.slice (Ar3) (3) cr4) (3) (fcellsL (top T)) rfl HE.out Af m cf (fcellsL (F)) rfl (P13.out.below HB.out).o (fcells_one _) (by omega) (by unfold maxLen; omega) HB.out.size ?_
          intro Ar61 cr62 wr60 hE hf h2
          rw [← fcellsL_append] at hE
          have hB := app_below HB.out HE.out hf
          have hM := HM.out.fr hf (fun e => own_ne_blk HE.out HM.out (by decide) e.symm)
          clear hf h2
          clear HB HE HM
          have HB := Lib.hid hB
          have HE := Lib.hid hE
          have HM := Lib.hid hM
          clear hB hE hM
          clear hHeld
          refine hK.out _ _ (cells3 (P13.out.below HB.out).x) (fun hHeld => ?_)
          clear hK K
          try simp only [pS, s0, sS]
          refine one_ (i := 6) (by kernel_rfl) rfl (fun K hK => ?_)
          go_simp
          try go_wp2_with (fail)
          have hB := HB.out.alloc HB.out.size (.cells #[.string N2, .string V2, .bool nv] 34)
          have hX := Blk.new wr60 34 [.string N2, .string V2, .bool nv]
          have HD : Hid ((Value.slice (Ar61) (3 + m) cr62).ownBlock ≠ some wr60.heap.size) := fun e => by have := (HE.out.lt _ e).2; omega
          have hE := own_below HE.out (below_al (Below.refl wr60.heap.size wr60) (.cells #[.string N2, .string V2, .bool nv] 34))
          have hM := HM.out.below (below_al (Below.refl wr60.heap.size wr60) (.cells #[.string N2, .string V2, .bool nv] 34)) HM.out.lt
          generalize (wr60.alloc (.cells #[.string N2, .string V2, .bool nv] 34)) = wr63 at hB hX hE hM ⊢
          clear HB HE HM
          have HB := Lib.hid hB
          have HX := Lib.hid hX
          have HE := Lib.hid hE
          have HM := Lib.hid hM
          clear hB hX hE hM
          clear hHeld
          refine hK.out _ _ (cells3 (P13.out.below HB.out).x) (fun hHeld => ?_)
          clear hK K
          try simp only [pS, s0, sS]
          refine one_ (i := 7) (by kernel_rfl) rfl (fun K hK => ?_)
          refine step_append_rd rfl (.tmp 55) (.tmp 57) 22 rfl EF (.slice (Ar61) (3 + m) cr62) (3 + m) (fcellsL (top T ++ F)) rfl HE.out (some ⟨wr60.heap.size, 0, none⟩) 1 1 (fcellsL ([⟨N2, V2, nv⟩])) rfl (rd_one (f := ⟨N2, V2, nv⟩) HX.out) (fcells_one _) (by omega) (by unfold maxLen; omega) HB.out.size ?_
          intro Ar65 cr66 wr64 hE hf h2
          rw [← fcellsL_append] at hE
          have hB := app_below HB.out HE.out hf
          clear HX HD
          have hM := HM.out.fr hf (fun e => own_ne_blk HE.out HM.out (by decide) e.symm)
          clear hf h2
          clear HB HE HM
          have HB := Lib.hid hB
          have HE := Lib.hid hE
          have HM := Lib.hid hM
          clear hB hE hM
          clear hHeld
          refine hK.out _ _ (cells3 (P13.out.below HB.out).x) (fun hHeld => ?_)
          clear hK K
          try simp only [pS, s0, sS]
          refine one_ (i := 8) (by kernel_rfl) rfl (fun K hK => ?_)
          go_simp
          go_wp2_with (first
            | (go_at_call 14; (with_reducible refine (HQC.out _ _ _ cr66 (Rd.of_own HE.out) (by omega)).mono ?_); rintro e wr67 ⟨rfl, hb⟩
               have hB := HB.out.trans (hb.mono HB.out.size)
               have hM := HM.out.below hb HM.out.lt
               clear hb
               clear HB HM HE
               have HB := Lib.hid hB
               have HM := Lib.hid hM
               clear hB hM))
          clear hHeld
          refine hK.out _ _ (cells3 (P13.out.below HB.out).x) (fun hHeld => ?_)
          clear hK K
          try simp only [pS, s0, sS]
          refine wpAnyH_take (i := 9) (oi := b9) (v := ?_) rfl (by kernel_rfl) (by kernel_rfl) (by kernel_rfl) (fun _ _ _ h => h) (Or.inl ⟨by kernel_rfl, ?_⟩) hHeld ?_
          rotate_left
          · intro w hS; clear hS; unfold b9; go_simp; try with_reducible rfl
          simp only [pS, s0, sS, b9]
          refine wpAnyH_take (i := 10) (oi := b10) (v := ?_) rfl (by kernel_rfl) (by kernel_rfl) (by kernel_rfl) (fun _ _ _ h => h) (Or.inl ⟨by kernel_rfl, ?_⟩) hHeld ?_
          rotate_left
          · intro w hS; clear hS; unfold b10; go_simp; try with_reducible rfl
          simp only [pS, s0, sS, b10]
          refine wpAnyH_take (i := 11) (oi := b11) (v := ?_) rfl (by kernel_rfl) (by kernel_rfl) (by kernel_rfl) (fun _ _ _ h => h) (Or.inl ⟨by kernel_rfl, ?_⟩) hHeld ?_
          rotate_left
          · intro w hS; clear hS; unfold b11; go_simp; try with_reducible rfl
          simp only [pS, s0, sS, b11]
          refine one_ (i := 13) (by kernel_rfl) rfl (fun K hK => ?_)
          obtain ⟨x0, x1, x2, x3, x4, x5⟩ := cells6 HM.out
          have fx := HM.out.frozen
          go_simp
          go_wp2_with (fail)
          clear x0 x1 x2 x3 x4 x5 fx HM
          clear hHeld
          refine hK.out _ _ (cells3 (P13.out.below (put6 HB.out HP.out)).x) (fun hHeld => ?_)
          clear hK K
          refine wpAnyH_take (i := 14) (oi := b14) (v := ?_) rfl (by kernel_rfl) (by kernel_rfl) (by kernel_rfl) (fun _ _ _ h => h) (Or.inl ⟨by kernel_rfl, ?_⟩) hHeld ?_
          rotate_left
          · intro w hS; clear hS; unfold b14; go_simp; try with_reducible rfl
          simp only [pS, s0, sS, b14]
          refine wpAnyH_done (by kernel_rfl) ?_ _
          go_wp2
          go_meet
          exact ⟨rfl, put6 HB.out HP.out⟩
         ·
          go_simp
          try go_wp2_with (fail)
          have hB := HB.out.alloc HB.out.size (.cells #[.string N2, .string V2, .bool nv] 34)
          have hX := Blk.new wr59 34 [.string N2, .string V2, .bool nv]
          have HD : Hid ((Value.slice (Ar3) (3) cr4).ownBlock ≠ some wr59.heap.size) := fun e => by have := (HE.out.lt _ e).2; omega
          have hE := own_below HE.out (below_al (Below.refl wr59.heap.size wr59) (.cells #[.string N2, .string V2, .bool nv] 34))
          have hM := HM.out.below (below_al (Below.refl wr59.heap.size wr59) (.cells #[.string N2, .string V2, .bool nv] 34)) HM.out.lt
          generalize (wr59.alloc (.cells #[.string N2, .string V2, .bool nv] 34)) = wr69 at hB hX hE hM ⊢
          clear HB HE HM
          have HB := Lib.hid hB
          have HX := Lib.hid hX
          have HE := Lib.hid hE
          have HM := Lib.hid hM
          clear hB hX hE hM
          clear hHeld
          refine hK.out _ _ (cells3 (P13.out.below HB.out).x) (fun hHeld => ?_)
          clear hK K
          try simp only [pS, s0, sS]
          refine one_ (i := 4) (by kernel_rfl) rfl (fun K hK => ?_)
          refine step_append_rd rfl (.tmp 53) (.tmp 54) 22 rfl EF (.slice (Ar3) (3) cr4) (3) (fcellsL (top T)) rfl HE.out Af m cf (fcellsL (F)) rfl (P13.out.below HB.out).o (fcells_one _) (by omega) (by unfold maxLen; omega) HB.out.size ?_
          intro Ar71 cr72 wr70 hE hf h2
          rw [← fcellsL_append] at hE
          have hB := app_below HB.out HE.out hf
          have hX := HX.out.fr hf (fun e => HD.out e.symm)
          have HD2 : Hid ((Value.slice Ar71 (3 + m) cr72).ownBlock ≠ some wr59.heap.size) := fun e => by
            rcases h2 with h | h
            · exact HD.out (h ▸ e)
            · have := HX.out.lt; have e2 := h.symm.trans e; simp at e2; omega
          clear HD
          have HD := HD2
          clear HD2
          have hM := HM.out.fr hf (fun e => own_ne_blk HE.out HM.out (by decide) e.symm)
          clear hf h2
          clear HB HE HX HM
          have HB := Lib.hid hB
          have HE := Lib.hid hE
          have HX := Lib.hid hX
          have HM := Lib.hid hM
          clear hB hE hX hM
          clear hHeld
          refine hK.out _ _ (cells3 (P13.out.below HB.out).x) (fun hHeld => ?_)
          clear hK K
          try simp only [pS, s0, sS]
          refine one_ (i := 7) (by kernel_rfl) rfl (fun K hK => ?_)
          refine step_append_rd rfl (.tmp 55) (.tmp 57) 22 rfl EF (.slice (Ar71) (3 + m) cr72) (3 + m) (fcellsL (top T ++ F)) rfl HE.out (some ⟨wr59.heap.size, 0, none⟩) 1 1 (fcellsL ([⟨N2, V2, nv⟩])) rfl (rd_one (f := ⟨N2, V2, nv⟩) HX.out) (fcells_one _) (by omega) (by unfold maxLen; omega) HB.out.size ?_
          intro Ar74 cr75 wr73 hE hf h2
          rw [← fcellsL_append] at hE
          have hB := app_below HB.out HE.out hf
          clear HX HD
          have hM := HM.out.fr hf (fun e => own_ne_blk HE.out HM.out (by decide) e.symm)
          clear hf h2
          clear HB HE HM
          have HB := Lib.hid hB
          have HE := Lib.hid hE
          have HM := Lib.hid hM
          clear hB hE hM
          clear hHeld
          refine hK.out _ _ (cells3 (P13.out.below HB.out).x) (fun hHeld => ?_)
          clear hK K
          try simp only [pS, s0, sS]
          refine one_ (i := 8) (by kernel_rfl) rfl (fun K hK => ?_)
          go_simp
          go_wp2_with (first
            | (go_at_call 14; (with_reducible refine (HQC.out _ _ _ cr75 (Rd.of_own HE.out) (by omega)).mono ?_); rintro e wr76 ⟨rfl, hb⟩
               have hB := HB.out.trans (hb.mono HB.out.size)
               have hM := HM.out.below hb HM.out.lt
               clear hb
               clear HB HM HE
               have HB := Lib.hid hB
               have HM := Lib.hid hM
               clear hB hM))
          clear hHeld
          refine hK.out _ _ (cells3 (P13.out.below HB.out).x) (fun hHeld => ?_)
          clear hK K
          try simp only [pS, s0, sS]
          refine wpAnyH_take (i := 9) (oi := b9) (v := ?_) rfl (by kernel_rfl) (by kernel_rfl) (by kernel_rfl) (fun _ _ _ h => h) (Or.inl ⟨by kernel_rfl, ?_⟩) hHeld ?_
          rotate_left
          · intro w hS; clear hS; unfold b9; go_simp; try with_reducible rfl
          simp only [pS, s0, sS, b9]
          refine wpAnyH_take (i := 10) (oi := b10) (v := ?_) rfl (by kernel_rfl) (by kernel_rfl) (by kernel_rfl) (fun _ _ _ h => h) (Or.inl ⟨by kernel_rfl, ?_⟩) hHeld ?_
          rotate_left
          · intro w hS; clear hS; unfold b10; go_simp; try with_reducible rfl
          simp only [pS, s0, sS, b10]
          refine wpAnyH_take (i := 11) (oi := b11) (v := ?_) rfl (by kernel_rfl) (by kernel_rfl) (by kernel_rfl) (fun _ _ _ h => h) (Or.inl ⟨by kernel_rfl, ?_⟩) hHeld ?_
          rotate_left
          · intro w hS; clear hS; unfold b11; go_simp; try with_reducible rfl
          simp only [pS, s0, sS, b11]
          refine one_ (i := 13) (by kernel_rfl) rfl (fun K hK => ?_)
          obtain ⟨x0, x1, x2, x3, x4, x5⟩ := cells6 HM.out
          have fx := HM.out.frozen
          go_simp
          go_wp2_with (fail)
          clear x0 x1 x2 x3 x4 x5 fx HM
          clear hHeld
          refine hK.out _ _ (cells3 (P13.out.below (put6 HB.out HP.out)).x) (fun hHeld => ?_)
          clear hK K
          refine wpAnyH_take (i := 14) (oi := b14) (v := ?_) rfl (by kernel_rfl) (by kernel_rfl) (by kernel_rfl) (fun _ _ _ h => h) (Or.inl ⟨by kernel_rfl, ?_⟩) hHeld ?_
          rotate_left
          · intro w hS; clear hS; unfold b14; go_simp; try with_reducible rfl
          simp only [pS, s0, sS, b14]
          refine wpAnyH_done (by kernel_rfl) ?_ _
          go_wp2
          go_meet
          exact ⟨rfl, put6 HB.out HP.out⟩
       ·
        go_simp
        try go_wp2_with (fail)
        have hB := HB.out.alloc HB.out.size (.cells #[.string N2, .string V2, .bool nv] 34)
        have hX := Blk.new wr1 34 [.string N2, .string V2, .bool nv]
        have HD : Hid ((Value.slice (some ⟨wr0.heap.size, 0, none⟩) (0) 0).ownBlock ≠ some wr1.heap.size) := fun e => by have := (HE.out.lt _ e).2; omega
        have hE := own_below HE.out (below_al (Below.refl wr1.heap.size wr1) (.cells #[.string N2, .string V2, .bool nv] 34))
        generalize (wr1.alloc (.cells #[.string N2, .string V2, .bool nv] 34)) = wr78 at hB hX hE ⊢
        clear HB HE
        have HB := Lib.hid hB
        have HX := Lib.hid hX
        have HE := Lib.hid hE
        clear hB hX hE
        clear hHeld
        refine hK.out _ _ (cells3 (P13.out.below HB.out).x) (fun hHeld => ?_)
        clear hK K
        try simp only [pS, s0, sS]
        refine wpAnyH_ready (rs := [2, 12]) (by kernel_rfl) (by simp) ?_
        refine AllReadyH.cons rfl (fun K hK => ?_) (AllReadyH.cons rfl (fun K hK => ?_) (AllReadyH.nil))
        ·
         refine step_append_rd rfl (.tmp 51) (.tmp 52) 22 rfl EF (.slice (some ⟨wr0.heap.size, 0, none⟩) (0) 0) (0) [] rfl HE.out A6 3 c6 (fcellsL (top T)) rfl (P13.out.below HB.out).t (fcells_one _) (by omega) (by unfold maxLen; omega) HB.out.size ?_
         intro Ar80 cr81 wr79 hE hf h2
         simp only [Nat.zero_add, List.nil_append] at hE h2 ⊢
         have hB := app_below HB.out HE.out hf
         have hX := HX.out.fr hf (fun e => HD.out e.symm)
         have HD2 : Hid ((Value.slice Ar80 (3) cr81).ownBlock ≠ some wr1.heap.size) := fun e => by
           rcases h2 with h | h
           · exact HD.out (h ▸ e)
           · have := HX.out.lt; have e2 := h.symm.trans e; simp at e2; omega
         clear HD
         have HD := HD2
         clear HD2
         clear hf h2
         clear HB HE HX
         have HB := Lib.hid hB
         have HE := Lib.hid hE
         have HX := Lib.hid hX
         clear hB hE hX
         clear hHeld
         refine hK.out _ _ (cells3 (P13.out.below HB.out).x) (fun hHeld => ?_)
         clear hK K
         try simp only [pS, s0, sS]
         refine wpAnyH_ready (rs := [4, 12]) (by kernel_rfl) (by simp) ?_
         refine AllReadyH.cons rfl (fun K hK => ?_) (AllReadyH.cons rfl (fun K hK => ?_) (AllReadyH.nil))
         ·
          refine step_append_rd rfl (.tmp 53) (.tmp 54) 22 rfl EF (.slice (Ar80) (3) cr81) (3) (fcellsL (top T)) rfl HE.out Af m cf (fcellsL (F)) rfl (P13.out.below HB.out).o (fcells_one _) (by omega) (by unfold maxLen; omega) HB.out.size ?_
          intro Ar83 cr84 wr82 hE hf h2
          rw [← fcellsL_append] at hE
          have hB := app_below HB.out HE.out hf
          have hX := HX.out.fr hf (fun e => HD.out e.symm)
          have HD2 : Hid ((Value.slice Ar83 (3 + m) cr84).ownBlock ≠ some wr1.heap.size) := fun e => by
            rcases h2 with h | h
            · exact HD.out (h ▸ e)
            · have := HX.out.lt; have e2 := h.symm.trans e; simp at e2; omega
          clear HD
          have HD := HD2
          clear HD2
          clear hf h2
          clear HB HE HX
          have HB := Lib.hid hB
          have HE := Lib.hid hE
          have HX := Lib.hid hX
          clear hB hE hX
          clear hHeld
          refine hK.out _ _ (cells3 (P13.out.below HB.out).x) (fun hHeld => ?_)
          clear hK K
          try simp only [pS, s0, sS]
          refine wpAnyH_ready (rs := [7, 12]) (by kernel_rfl) (by simp) ?_
          refine AllReadyH.cons rfl (fun K hK => ?_) (AllReadyH.cons rfl (fun K hK => ?_) (AllReadyH.nil))
          ·
           refine step_append_rd rfl (.tmp 55) (.tmp 57) 22 rfl EF (.slice (Ar83) (3 + m) cr84) (3 + m) (fcellsL (top T ++ F)) rfl HE.out (some ⟨wr1.heap.size, 0, none⟩) 1 1 (fcellsL ([⟨N2, V2, nv⟩])) rfl (rd_one (f := ⟨N2, V2, nv⟩) HX.out) (fcells_one _) (by omega) (by unfold maxLen; omega) HB.out.size ?_
           intro Ar86 cr87 wr85 hE hf h2
           rw [← fcellsL_append] at hE
           have hB := app_below HB.out HE.out hf
           clear HX HD
           clear hf h2
           clear HB HE
           have HB := Lib.hid hB
           have HE := Lib.hid hE
           clear hB hE
           clear hHeld
           refine hK.out _ _ (cells3 (P13.out.below HB.out).x) (fun hHeld => ?_)
           clear hK K
           try simp only [pS, s0, sS]
           refine wpAnyH_ready (rs := [8, 12]) (by kernel_rfl) (by simp) ?_
           refine AllReadyH.cons rfl (fun K hK => ?_) (AllReadyH.cons rfl (fun K hK => ?_) (AllReadyH.nil))
           ·
            go_simp
            go_wp2_with (first
              | (go_at_call 14; (with_reducible refine (HQC.out _ _ _ cr87 (Rd.of_own HE.out) (by omega)).mono ?_); rintro e wr88 ⟨rfl, hb⟩
                 have hB := HB.out.trans (hb.mono HB.out.size)
                 clear hb
                 clear HB HE
                 have HB := Lib.hid hB
                 clear hB))
            clear hHeld
            refine hK.out _ _ (cells3 (P13.out.below HB.out).x) (fun hHeld => ?_)
            clear hK K
            try simp only [pS, s0, sS]
            refine wpAnyH_take (i := 9) (oi := b9) (v := ?_) rfl (by kernel_rfl) (by kernel_rfl) (by kernel_rfl) (fun _ _ _ h => h) (Or.inl ⟨by kernel_rfl, ?_⟩) hHeld ?_
            rotate_left
            · intro w hS; clear hS; unfold b9; go_simp; try with_reducible rfl
            simp only [pS, s0, sS, b9]
            refine wpAnyH_take (i := 10) (oi := b10) (v := ?_) rfl (by kernel_rfl) (by kernel_rfl) (by kernel_rfl) (fun _ _ _ h => h) (Or.inl ⟨by kernel_rfl, ?_⟩) hHeld ?_
            rotate_left
            · intro w hS; clear hS; unfold b10; go_simp; try with_reducible rfl
            simp only [pS, s0, sS, b10]
            refine wpAnyH_take (i := 11) (oi := b11) (v := ?_) rfl (by kernel_rfl) (by kernel_rfl) (by kernel_rfl) (fun _ _ _ h => h) (Or.inl ⟨by kernel_rfl, ?_⟩) hHeld ?_
            rotate_left
            · intro w hS; clear hS; unfold b11; go_simp; try with_reducible rfl
            simp only [pS, s0, sS, b11]
            refine one_ (i := 12) (by kernel_rfl) rfl (fun K hK => ?_)
            go_simp
            try go_wp2_with (fail)
            have hB := HB.out.alloc HB.out.size (.cells #[.string ⟨#[]⟩, .string ⟨#[]⟩, .string ⟨#[]⟩, .string ⟨#[]⟩, .int .i64 0, .int .i64 0] 28)
            have hM := Blk.new wr88 28 [.string ⟨#[]⟩, .string ⟨#[]⟩, .string ⟨#[]⟩, .string ⟨#[]⟩, .int .i64 0, .int .i64 0]
            have HP : Hid (w12.heap.size ≤ wr88.heap.size) := HB.out.size
            generalize (wr88.alloc (.cells #[.string ⟨#[]⟩, .string ⟨#[]⟩, .string ⟨#[]⟩, .string ⟨#[]⟩, .int .i64 0, .int .i64 0] 28)) = wr89 at hB hM ⊢
            clear HB
            have HB := Lib.hid hB
            have HM := Lib.hid hM
            clear hB hM
            clear hHeld
            refine hK.out _ _ (cells3 (P13.out.below HB.out).x) (fun hHeld => ?_)
            clear hK K
            try simp only [pS, s0, sS]
            refine one_ (i := 13) (by kernel_rfl) rfl (fun K hK => ?_)
            obtain ⟨x0, x1, x2, x3, x4, x5⟩ := cells6 HM.out
            have fx := HM.out.frozen
            go_simp
            go_wp2_with (fail)
            clear x0 x1 x2 x3 x4 x5 fx HM
            clear hHeld
            refine hK.out _ _ (cells3 (P13.out.below (put6 HB.out HP.out)).x) (fun hHeld => ?_)
            clear hK K
            refine wpAnyH_take (i := 14) (oi := b14) (v := ?_) rfl (by kernel_rfl) (by kernel_rfl) (by kernel_rfl) (fun _ _ _ h => h) (Or.inl ⟨by kernel_rfl, ?_⟩) hHeld ?_
            rotate_left
            · intro w hS; clear hS; unfold b14; go_simp; try with_reducible rfl
            simp only [pS, s0, sS, b14]
            refine wpAnyH_done (by kernel_rfl) ?_ _
            go_wp2
            go_meet
            exact ⟨rfl, put6 HB.out HP.out⟩
           ·
            go_simp
            try go_wp2_with (fail)
            have hB := HB.out.alloc HB.out.size (.cells #[.string ⟨#[]⟩, .string ⟨#[]⟩, .string ⟨#[]⟩, .string ⟨#[]⟩, .int .i64 0, .int .i64 0] 28)
            have hM := Blk.new wr85 28 [.string ⟨#[]⟩, .string ⟨#[]⟩, .string ⟨#[]⟩, .string ⟨#[]⟩, .int .i64 0, .int .i64 0]
            have HP : Hid (w12.heap.size ≤ wr85.heap.size) := HB.out.size
            have hE := own_below HE.out (below_al (Below.refl wr85.heap.size wr85) (.cells #[.string ⟨#[]⟩, .string ⟨#[]⟩, .string ⟨#[]⟩, .string ⟨#[]⟩, .int .i64 0, .int .i64 0] 28))
            generalize (wr85.alloc (.cells #[.string ⟨#[]⟩, .string ⟨#[]⟩, .string ⟨#[]⟩, .string ⟨#[]⟩, .int .i64 0, .int .i64 0] 28)) = wr91 at hB hM hE ⊢
            clear HB HE
            have HB := Lib.hid hB
            have HM := Lib.hid hM
            have HE := Lib.hid hE
            clear hB hM hE
            clear hHeld
            refine hK.out _ _ (cells3 (P13.out.below HB.out).x) (fun hHeld => ?_)
            clear hK K
            try simp only [pS, s0, sS]
            refine one_ (i := 8) (by kernel_rfl) rfl (fun K hK => ?_)
            go_simp
            go_wp2_with (first
              | (go_at_call 14; (with_reducible refine (HQC.out _ _ _ cr87 (Rd.of_own HE.out) (by omega)).mono ?_); rintro e wr92 ⟨rfl, hb⟩
                 have hB := HB.out.trans (hb.mono HB.out.size)
                 have hM := HM.out.below hb HM.out.lt
                 clear hb
                 clear HB HM HE
                 have HB := Lib.hid hB
                 have HM := Lib.hid hM
                 clear hB hM))
            clear hHeld
            refine hK.out _ _ (cells3 (P13.out.below HB.out).x) (fun hHeld => ?_)
            clear hK K
            try simp only [pS, s0, sS]
            refine wpAnyH_take (i := 9) (oi := b9) (v := ?_) rfl (by kernel_rfl) (by kernel_rfl) (by kernel_rfl) (fun _ _ _ h => h) (Or.inl ⟨by kernel_rfl, ?_⟩) hHeld ?_
            rotate_left
            · intro w hS; clear hS; unfold b9; go_simp; try with_reducible rfl
            simp only [pS, s0, sS, b9]
            refine wpAnyH_take (i := 10) (oi := b10) (v := ?_) rfl (by kernel_rfl) (by kernel_rfl) (by kernel_rfl) (fun _ _ _ h => h) (Or.inl ⟨by kernel_rfl, ?_⟩) hHeld ?_
            rotate_left
            · intro w hS; clear hS; unfold b10; go_simp; try with_reducible rfl
            simp only [pS, s0, sS, b10]
            refine wpAnyH_take (i := 11) (oi := b11) (v := ?_) rfl (by kernel_rfl) (by kernel_rfl) (by kernel_rfl) (fun _ _ _ h => h) (Or.inl ⟨by kernel_rfl, ?_⟩) hHeld ?_
            rotate_left
            · intro w hS; clear hS; unfold b11; go_simp; try with_reducible rfl
            simp only [pS, s0, sS, b11]
            refine one_ (i := 13) (by kernel_rfl) rfl (fun K hK => ?_)
            obtain ⟨x0, x1, x2, x3, x4, x5⟩ := cells6 HM.out
            have fx := HM.out.frozen
            go_simp
            go_wp2_with (fail)
            clear x0 x1 x2 x3 x4 x5 fx HM
            clear hHeld
            refine hK.out _ _ (cells3 (P13.out.below (put6 HB.out HP.out)).x) (fun hHeld => ?_)
            clear hK K
            refine wpAnyH_take (i := 14) (oi := b14) (v := ?_) rfl (by kernel_rfl) (by kernel_rfl) (by kernel_rfl) (fun _ _ _ h => h) (Or.inl ⟨by kernel_rfl, ?_⟩) hHeld ?_
            rotate_left
            · intro w hS; clear hS; unfold b14; go_simp; try with_reducible rfl
            simp only [pS, s0, sS, b14]
            refine wpAnyH_done (by kernel_rfl) ?_ _
            go_wp2
            go_meet
            exact ⟨rfl, put6 HB.out HP.out⟩
          ·
           go_simp
           try go_wp2_with (fail)
           have hB := HB.out.alloc HB.out.size (.cells #[.string ⟨#[]⟩, .string ⟨#[]⟩, .string ⟨#[]⟩, .string ⟨#[]⟩, .int .i64 0, .int .i64 0] 28)
           have hM := Blk.new wr82 28 [.string ⟨#[]⟩, .string ⟨#[]⟩, .string ⟨#[]⟩, .string ⟨#[]⟩, .int .i64 0, .int .i64 0]
           have HP : Hid (w12.heap.size ≤ wr82.heap.size) := HB.out.size
           have hE := own_below HE.out (below_al (Below.refl wr82.heap.size wr82) (.cells #[.string ⟨#[]⟩, .string ⟨#[]⟩, .string ⟨#[]⟩, .string ⟨#[]⟩, .int .i64 0, .int .i64 0] 28))
           have hX := HX.out.below (below_al (Below.refl wr82.heap.size wr82) (.cells #[.string ⟨#[]⟩, .string ⟨#[]⟩, .string ⟨#[]⟩, .string ⟨#[]⟩, .int .i64 0, .int .i64 0] 28)) HX.out.lt
           generalize (wr82.alloc (.cells #[.string ⟨#[]⟩, .string ⟨#[]⟩, .string ⟨#[]⟩, .string ⟨#[]⟩, .int .i64 0, .int .i64 0] 28)) = wr94 at hB hM hE hX ⊢
           clear HB HE HX
           have HB := Lib.hid hB
           have HM := Lib.hid hM
           have HE := Lib.hid hE
           have HX := Lib.hid hX
           clear hB hM hE hX
           clear hHeld
           refine hK.out _ _ (cells3 (P13.out.below HB.out).x) (fun hHeld => ?_)
           clear hK K
           try simp only [pS, s0, sS]
           refine one_ (i := 7) (by kernel_rfl) rfl (fun K hK => ?_)
           refine step_append_rd rfl (.tmp 55) (.tmp 57) 22 rfl EF (.slice (Ar83) (3 + m) cr84) (3 + m) (fcellsL (top T ++ F)) rfl HE.out (some ⟨wr1.heap.size, 0, none⟩) 1 1 (fcellsL ([⟨N2, V2, nv⟩])) rfl (rd_one (f := ⟨N2, V2, nv⟩) HX.out) (fcells_one _) (by omega) (by unfold maxLen; omega) HB.out.size ?_
           intro Ar96 cr97 wr95 hE hf h2
           rw [← fcellsL_append] at hE
           have hB := app_below HB.out HE.out hf
           clear HX HD
           have hM := HM.out.fr hf (fun e => own_ne_blk HE.out HM.out (by decide) e.symm)
           clear hf h2
           clear HB HE HM
           have HB := Lib.hid hB
           have HE := Lib.hid hE
           have HM := Lib.hid hM
           clear hB hE hM
           clear hHeld
           refine hK.out _ _ (cells3 (P13.out.below HB.out).x) (fun hHeld => ?_)
           clear hK K
           try simp only [pS, s0, sS]
           refine one_ (i := 8) (by kernel_rfl) rfl (fun K hK => ?_)
           go_simp
           go_wp2_with (first
             | (go_at_call 14; (with_reducible refine (HQC.out _ _ _ cr97 (Rd.of_own HE.out) (by omega)).mono ?_); rintro e wr98 ⟨rfl, hb⟩
                have hB := HB.out.trans (hb.mono HB.out.size)
                have hM := HM.out.below hb HM.out.lt
                clear hb
                clear HB HM HE
                have HB := Lib.hid hB
                have HM := Lib.hid hM
                clear hB hM))
           clear hHeld
           refine hK.out _ _ (cells3 (P13.out.below HB.out).x) (fun hHeld => ?_)
           clear hK K
           try simp only [pS, s0, sS]
           refine wpAnyH_take (i := 9) (oi := b9) (v := ?_) rfl (by kernel_rfl) (by kernel_rfl) (by kernel_rfl) (fun _ _ _ h => h) (Or.inl ⟨by kernel_rfl, ?_⟩) hHeld ?_
           rotate_left
           · intro w hS; clear hS; unfold b9; go_simp; try with_reducible rfl
           simp only [pS, s0, sS, b9]
           refine wpAnyH_take (i := 10) (oi := b10) (v := ?_) rfl (by kernel_rfl) (by kernel_rfl) (by kernel_rfl) (fun _ _ _ h => h) (Or.inl ⟨by kernel_rfl, ?_⟩) hHeld ?_
           rotate_left
           · intro w hS; clear hS; unfold b10; go_simp; try with_reducible rfl
           simp only [pS, s0, sS, b10]
           refine wpAnyH_take (i := 11) (oi := b11) (v := ?_) rfl (by kernel_rfl) (by kernel_rfl) (by kernel_rfl) (fun _ _ _ h => h) (Or.inl ⟨by kernel_rfl, ?_⟩) hHeld ?_
           rotate_left
           · intro w hS; clear hS; unfold b11; go_simp; try with_reducible rfl
           simp only [pS, s0, sS, b11]
           refine one_ (i := 13) (by kernel_rfl) rfl (fun K hK => ?_)
           obtain ⟨x0, x1, x2, x3, x4, x5⟩ := cells6 HM.out
           have fx := HM.out.frozen
           go_simp
           go_wp2_with (fail)
           clear x0 x1 x2 x3 x4 x5 fx HM
           clear hHeld
           refine hK.out _ _ (cells3 (P13.out.below (put6 HB.out HP.out)).x) (fun hHeld => ?_)
           clear hK K
           refine wpAnyH_take (i := 14) (oi := b14) (v := ?_) rfl (by kernel_rfl) (by kernel_rfl) (by kernel_rfl) (fun _ _ _ h => h) (Or.inl ⟨by kernel_rfl, ?_⟩) hHeld ?_
           rotate_left
           · intro w hS; clear hS; unfold b14; go_simp; try with_reducible rfl
           simp only [pS, s0, sS, b14]
           refine wpAnyH_done (by kernel_rfl) ?_ _
           go_wp2
           go_meet
           exact ⟨rfl, put6 HB.out HP.out⟩
         ·
          go_simp
          try go_wp2_with (fail)
          have hB := HB.out.alloc HB.out.size (.cells #[.string ⟨#[]⟩, .string ⟨#[]⟩, .string ⟨#[]⟩, .string ⟨#[]⟩, .int .i64 0, .int .i64 0] 28)
          have hM := Blk.new wr79 28 [.string ⟨#[]⟩, .string ⟨#[]⟩, .string ⟨#[]⟩, .string ⟨#[]⟩, .int .i64 0, .int .i64 0]
          have HP : Hid (w12.heap.size ≤ wr79.heap.size) := HB.out.size
          have hE := own_below HE.out (below_al (Below.refl wr79.heap.size wr79) (.cells #[.string ⟨#[]⟩, .string ⟨#[]⟩, .string ⟨#[]⟩, .string ⟨#[]⟩, .int .i64 0, .int .i64 0] 28))
          have hX := HX.out.below (below_al (Below.refl wr79.heap.size wr79) (.cells #[.string ⟨#[]⟩, .string ⟨#[]⟩, .string ⟨#[]⟩, .string ⟨#[]⟩, .int .i64 0, .int .i64 0] 28)) HX.out.lt
          generalize (wr79.alloc (.cells #[.string ⟨#[]⟩, .string ⟨#[]⟩, .string ⟨#[]⟩, .string ⟨#[]⟩, .int .i64 0, .int .i64 0] 28)) = wr100 at hB hM hE hX ⊢
          clear HB HE HX
          have HB := Lib.hid hB
          have HM := Lib.hid hM
          have HE := Lib.hid hE
          have HX := Lib.hid hX
          clear hB hM hE hX
          clear hHeld
          refine hK.out _ _ (cells3 (P13.out.below HB.out).x) (fun hHeld => ?_)
          clear hK K
          try simp only [pS, s0, sS]
          refine one_ (i := 4) (by kernel_rfl) rfl (fun K hK => ?_)
          refine step_append_rd rfl (.tmp 53) (.tmp 54) 22 rfl EF (.slice (Ar80) (3) cr81) (3) (fcellsL (top T)) rfl HE.out Af m cf (fcellsL (F)) rfl (P13.out.below HB.out).o (fcells_one _) (by omega) (by unfold maxLen; omega) HB.out.size ?_
          intro Ar102 cr103 wr101 hE hf h2
          rw [← fcellsL_append] at hE
          have hB := app_below HB.out HE.out hf
          have hX := HX.out.fr hf (fun e => HD.out e.symm)
          have HD2 : Hid ((Value.slice Ar102 (3 + m) cr103).ownBlock ≠ some wr1.heap.size) := fun e => by
            rcases h2 with h | h
            · exact HD.out (h ▸ e)
            · have := HX.out.lt; have e2 := h.symm.trans e; simp at e2; omega
          clear HD
          have HD := HD2
          clear HD2
          have hM := HM.out.fr hf (fun e => own_ne_blk HE.out HM.out (by decide) e.symm)
          clear hf h2
          clear HB HE HX HM
          have HB := Lib.hid hB
          have HE := Lib.hid hE
          have HX := Lib.hid hX
          have HM := Lib.hid hM
          clear hB hE hX hM
          clear hHeld
          refine hK.out _ _ (cells3 (P13.out.below HB.out).x) (fun hHeld => ?_)
          clear hK K
          try simp only [pS, s0, sS]
          refine one_ (i := 7) (by kernel_rfl) rfl (fun K hK => ?_)
          refine step_append_rd rfl (.tmp 55) (.tmp 57) 22 rfl EF (.slice (Ar102) (3 + m) cr103) (3 + m) (fcellsL (top T ++ F)) rfl HE.out (some ⟨wr1.heap.size, 0, none⟩) 1 1 (fcellsL ([⟨N2, V2, nv⟩])) rfl (rd_one (f := ⟨N2, V2, nv⟩) HX.out) (fcells_one _) (by omega) (by unfold maxLen; omega) HB.out.size ?_
          intro Ar105 cr106 wr104 hE hf h2
          rw [← fcellsL_append] at hE
          have hB := app_below HB.out HE.out hf
          clear HX HD
          have hM := HM.out.fr hf (fun e => own_ne_blk HE.out HM.out (by decide) e.symm)
          clear hf h2
          clear HB HE HM
          have HB := Lib.hid hB
          have HE := Lib.hid hE
          have HM := Lib.hid hM
          clear hB hE hM
          clear hHeld
          refine hK.out _ _ (cells3 (P13.out.below HB.out).x) (fun hHeld => ?_)
          clear hK K
          try simp only [pS, s0, sS]
          refine one_ (i := 8) (by kernel_rfl) rfl (fun K hK => ?_)
          go_simp
          go_wp2_with (first
            | (go_at_call 14; (with_reducible refine (HQC.out _ _ _ cr106 (Rd.of_own HE.out) (by omega)).mono ?_); rintro e wr107 ⟨rfl, hb⟩
               have hB := HB.out.trans (hb.mono HB.out.size)
               have hM := HM.out.below hb HM.out.lt
               clear hb
               clear HB HM HE
               have HB := Lib.hid hB
               have HM := Lib.hid hM
               clear hB hM))
          clear hHeld
          refine hK.out _ _ (cells3 (P13.out.below HB.out).x) (fun hHeld => ?_)
          clear hK K
          try simp only [pS, s0, sS]
          refine wpAnyH_take (i := 9) (oi := b9) (v := ?_) rfl (by kernel_rfl) (by kernel_rfl) (by kernel_rfl) (fun _ _ _ h => h) (Or.inl ⟨by kernel_rfl, ?_⟩) hHeld ?_
          rotate_left
          · intro w hS; clear hS; unfold b9; go_simp; try with_reducible rfl
          simp only [pS, s0, sS, b9]
          refine wpAnyH_take (i := 10) (oi := b10) (v := ?_) rfl (by kernel_rfl) (by kernel_rfl) (by kernel_rfl) (fun _ _ _ h => h) (Or.inl ⟨by kernel_rfl, ?_⟩) hHeld ?_
          rotate_left
          · intro w hS; clear hS; unfold b10; go_simp; try with_reducible rfl
          simp only [pS, s0, sS, b10]
          refine wpAnyH_take (i := 11) (oi := b11) (v := ?_) rfl (by kernel_rfl) (by kernel_rfl) (by kernel_rfl) (fun _ _ _ h => h) (Or.inl ⟨by kernel_rfl, ?_⟩) hHeld ?_
          rotate_left
          · intro w hS; clear hS; unfold b11; go_simp; try with_reducible rfl
          simp only [pS, s0, sS, b11]
          refine one_ (i := 13) (by kernel_rfl) rfl (fun K hK => ?_)
          obtain ⟨x0, x1, x2, x3, x4, x5⟩ := cells6 HM.out
          have fx := HM.out.frozen
          go_simp
          go_wp2_with (fail)
          clear x0 x1 x2 x3 x4 x5 fx HM
          clear hHeld
          refine hK.out _ _ (cells3 (P13.out.below (put6 HB.out HP.out)).x) (fun hHeld => ?_)
          clear hK K
          refine wpAnyH_take (i := 14) (oi := b14) (v := ?_) rfl (by kernel_rfl) (by kernel_rfl) (by kernel_rfl) (fun _ _ _ h => h) (Or.inl ⟨by kernel_rfl, ?_⟩) hHeld ?_
          rotate_left
          · intro w hS; clear hS; unfold b14; go_simp; try with_reducible rfl
          simp only [pS, s0, sS, b14]
          refine wpAnyH_done (by kernel_rfl) ?_ _
          go_wp2
          go_meet
          exact ⟨rfl, put6 HB.out HP.out⟩
        ·
         go_simp
         try go_wp2_with (fail)
         have hB := HB.out.alloc HB.out.size (.cells #[.string ⟨#[]⟩, .string ⟨#[]⟩, .string ⟨#[]⟩, .string ⟨#[]⟩, .int .i64 0, .int .i64 0] 28)
         have hM := Blk.new wr78 28 [.string ⟨#[]⟩, .string ⟨#[]⟩, .string ⟨#[]⟩, .string ⟨#[]⟩, .int .i64 0, .int .i64 0]
         have HP : Hid (w12.heap.size ≤ wr78.heap.size) := HB.out.size
         have hE := own_below HE.out (below_al (Below.refl wr78.heap.size wr78) (.cells #[.string ⟨#[]⟩, .string ⟨#[]⟩, .string ⟨#[]⟩, .string ⟨#[]⟩, .int .i64 0, .int .i64 0] 28))
         have hX := HX.out.below (below_al (Below.refl wr78.heap.size wr78) (.cells #[.string ⟨#[]⟩, .string ⟨#[]⟩, .string ⟨#[]⟩, .string ⟨#[]⟩, .int .i64 0, .int .i64 0] 28)) HX.out.lt
         generalize (wr78.alloc (.cells #[.string ⟨#[]⟩, .string ⟨#[]⟩, .string ⟨#[]⟩, .string ⟨#[]⟩, .int .i64 0, .int .i64 0] 28)) = wr109 at hB hM hE hX ⊢
         clear HB HE HX
         have HB := Lib.hid hB
         have HM := Lib.hid hM
         have HE := Lib.hid hE
         have HX := Lib.hid hX
         clear hB hM hE hX
         clear hHeld
         refine hK.out _ _ (cells3 (P13.out.below HB.out).x) (fun hHeld => ?_)
         clear hK K
         try simp only [pS, s0, sS]
         refine one_ (i := 2) (by kernel_rfl) rfl (fun K hK => ?_)
         refine step_append_rd rfl (.tmp 51) (.tmp 52) 22 rfl EF (.slice (some ⟨wr0.heap.size, 0, none⟩) (0) 0) (0) [] rfl HE.out A6 3 c6 (fcellsL (top T)) rfl (P13.out.below HB.out).t (fcells_one _) (by omega) (by unfold maxLen; omega) HB.out.size ?_
         intro Ar111 cr112 wr110 hE hf h2
         simp only [Nat.zero_add, List.nil_append] at hE h2 ⊢
         have hB := app_below HB.out HE.out hf
         have hX := HX.out.fr hf (fun e => HD.out e.symm)
         have HD2 : Hid ((Value.slice Ar111 (3) cr112).ownBlock ≠ some wr1.heap.size) := fun e => by
           rcases h2 with h | h
           · exact HD.out (h ▸ e)
           · have := HX.out.lt; have e2 := h.symm.trans e; simp at e2; omega
         clear HD
         have HD := HD2
         clear HD2
         have hM := HM.out.fr hf (fun e => own_ne_blk HE.out HM.out (by decide) e.symm)
         clear hf h2
         clear HB HE HX HM
         have HB := Lib.hid hB
         have HE := Lib.hid hE
         have HX := Lib.hid hX
         have HM := Lib.hid hM
         clear hB hE hX hM
         clear hHeld
         refine hK.out _ _ (cells3 (P13.out.below HB.out).x) (fun hHeld => ?_)
         clear hK K
         try simp only [pS, s0, sS]
         refine one_ (i := 4) (by kernel_rfl) rfl (fun K hK => ?_)
         refine step_append_rd rfl (.tmp 53) (.tmp 54) 22 rfl EF (.slice (Ar111) (3) cr112) (3) (fcellsL (top T)) rfl HE.out Af m cf (fcellsL (F)) rfl (P13.out.below HB.out).o (fcells_one _) (by omega) (by unfold maxLen; omega) HB.out.size ?_
         intro Ar114 cr115 wr113 hE hf h2
         rw [← fcellsL_append] at hE
         have hB := app_below HB.out HE.out hf
         have hX := HX.out.fr hf (fun e => HD.out e.symm)
         have HD2 : Hid ((Value.slice Ar114 (3 + m) cr115).ownBlock ≠ some wr1.heap.size) := fun e => by
           rcases h2 with h | h
           · exact HD.out (h ▸ e)
           · have := HX.out.lt; have e2 := h.symm.trans e; simp at e2; omega
         clear HD
         have HD := HD2
         clear HD2
         have hM := HM.out.fr hf (fun e => own_ne_blk HE.out HM.out (by decide) e.symm)
         clear hf h2
         clear HB HE HX HM
         have HB := Lib.hid hB
         have HE := Lib.hid hE
         have HX := Lib.hid hX
         have HM := Lib.hid hM
         clear hB hE hX hM
         clear hHeld
         refine hK.out _ _ (cells3 (P13.out.below HB.out).x) (fun hHeld => ?_)
         clear hK K
         try simp only [pS, s0, sS]
         refine one_ (i := 7) (by kernel_rfl) rfl (fun K hK => ?_)
         refine step_append_rd rfl (.tmp 55) (.tmp 57) 22 rfl EF (.slice (Ar114) (3 + m) cr115) (3 + m) (fcellsL (top T ++ F)) rfl HE.out (some ⟨wr1.heap.size, 0, none⟩) 1 1 (fcellsL ([⟨N2, V2, nv⟩])) rfl (rd_one (f := ⟨N2, V2, nv⟩) HX.out) (fcells_one _) (by omega) (by unfold maxLen; omega) HB.out.size ?_
         intro Ar117 cr118 wr116 hE hf h2
         rw [← fcellsL_append] at hE
         have hB := app_below HB.out HE.out hf
         clear HX HD
         have hM := HM.out.fr hf (fun e => own_ne_blk HE.out HM.out (by decide) e.symm)
         clear hf h2
         clear HB HE HM
         have HB := Lib.hid hB
         have HE := Lib.hid hE
         have HM := Lib.hid hM
         clear hB hE hM
         clear hHeld
         refine hK.out _ _ (cells3 (P13.out.below HB.out).x) (fun hHeld => ?_)
         clear hK K
         try simp only [pS, s0, sS]
         refine one_ (i := 8) (by kernel_rfl) rfl (fun K hK => ?_)
         go_simp
         go_wp2_with (first
           | (go_at_call 14; (with_reducible refine (HQC.out _ _ _ cr118 (Rd.of_own HE.out) (by omega)).mono ?_); rintro e wr119 ⟨rfl, hb⟩
              have hB := HB.out.trans (hb.mono HB.out.size)
              have hM := HM.out.below hb HM.out.lt
              clear hb
              clear HB HM HE
              have HB := Lib.hid hB
              have HM := Lib.hid hM
              clear hB hM))
         clear hHeld
         refine hK.out _ _ (cells3 (P13.out.below HB.out).x) (fun hHeld => ?_)
         clear hK K
         try simp only [pS, s0, sS]
         refine wpAnyH_take (i := 9) (oi := b9) (v := ?_) rfl (by kernel_rfl) (by kernel_rfl) (by kernel_rfl) (fun _ _ _ h => h) (Or.inl ⟨by kernel_rfl, ?_⟩) hHeld ?_
         rotate_left
         · intro w hS; clear hS; unfold b9; go_simp; try with_reducible rfl
         simp only [pS, s0, sS, b9]
         refine wpAnyH_take (i := 10) (oi := b10) (v := ?_) rfl (by kernel_rfl) (by kernel_rfl) (by kernel_rfl) (fun _ _ _ h => h) (Or.inl ⟨by kernel_rfl, ?_⟩) hHeld ?_
         rotate_left
         · intro w hS; clear hS; unfold b10; go_simp; try with_reducible rfl
         simp only [pS, s0, sS, b10]
         refine wpAnyH_take (i := 11) (oi := b11) (v := ?_) rfl (by kernel_rfl) (by kernel_rfl) (by kernel_rfl) (fun _ _ _ h => h) (Or.inl ⟨by kernel_rfl, ?_⟩) hHeld ?_
         rotate_left
         · intro w hS; clear hS; unfold b11; go_simp; try with_reducible rfl
         simp only [pS, s0, sS, b11]
         refine one_ (i := 13) (by kernel_rfl) rfl (fun K hK => ?_)
         obtain ⟨x0, x1, x2, x3, x4, x5⟩ := cells6 HM.out
         have fx := HM.out.frozen
         go_simp
         go_wp2_with (fail)
         clear x0 x1 x2 x3 x4 x5 fx HM
         clear hHeld
         refine hK.out _ _ (cells3 (P13.out.below (put6 HB.out HP.out)).x) (fun hHeld => ?_)
         clear hK K
         refine wpAnyH_take (i := 14) (oi := b14) (v := ?_) rfl (by kernel_rfl) (by kernel_rfl) (by kernel_rfl) (fun _ _ _ h => h) (Or.inl ⟨by kernel_rfl, ?_⟩) hHeld ?_
         rotate_left
         · intro w hS; clear hS; unfold b14; go_simp; try with_reducible rfl
         simp only [pS, s0, sS, b14]
         refine wpAnyH_done (by kernel_rfl) ?_ _
         go_wp2
         go_meet
         exact ⟨rfl, put6 HB.out HP.out⟩
       ·
        go_simp
        try go_wp2_with (fail)
        have hB := HB.out.alloc HB.out.size (.cells #[.string ⟨#[]⟩, .string ⟨#[]⟩, .string ⟨#[]⟩, .string ⟨#[]⟩, .int .i64 0, .int .i64 0] 28)
        have hM := Blk.new wr1 28 [.string ⟨#[]⟩, .string ⟨#[]⟩, .string ⟨#[]⟩, .string ⟨#[]⟩, .int .i64 0, .int .i64 0]
        have HP : Hid (w12.heap.size ≤ wr1.heap.size) := HB.out.size
        have hE := own_below HE.out (below_al (Below.refl wr1.heap.size wr1) (.cells #[.string ⟨#[]⟩, .string ⟨#[]⟩, .string ⟨#[]⟩, .string ⟨#[]⟩, .int .i64 0, .int .i64 0] 28))
        generalize (wr1.alloc (.cells #[.string ⟨#[]⟩, .string ⟨#[]⟩, .string ⟨#[]⟩, .string ⟨#[]⟩, .int .i64 0, .int .i64 0] 28)) = wr121 at hB hM hE ⊢
        clear HB HE
        have HB := Lib.hid hB
        have HM := Lib.hid hM
        have HE := Lib.hid hE
        clear hB hM hE
        clear hHeld
        refine hK.out _ _ (cells3 (P13.out.below HB.out).x) (fun hHeld => ?_)
        clear hK K
        try simp only [pS, s0, sS]
        refine wpAnyH_ready (rs := [2, 6]) (by kernel_rfl) (by simp) ?_
        refine AllReadyH.cons rfl (fun K hK => ?_) (AllReadyH.cons rfl (fun K hK => ?_) (AllReadyH.nil))
        ·
         refine step_append_rd rfl (.tmp 51) (.tmp 52) 22 rfl EF (.slice (some ⟨wr0.heap.size, 0, none⟩) (0) 0) (0) [] rfl HE.out A6 3 c6 (fcellsL (top T)) rfl (P13.out.below HB.out).t (fcells_one _) (by omega) (by unfold maxLen; omega) HB.out.size ?_
         intro Ar123 cr124 wr122 hE hf h2
         simp only [Nat.zero_add, List.nil_append] at hE h2 ⊢
         have hB := app_below HB.out HE.out hf
         have hM := HM.out.fr hf (fun e => own_ne_blk HE.out HM.out (by decide) e.symm)
         clear hf h2
         clear HB HE HM
         have HB := Lib.hid hB
         have HE := Lib.hid hE
         have HM := Lib.hid hM
         clear hB hE hM
         clear hHeld
         refine hK.out _ _ (cells3 (P13.out.below HB.out).x) (fun hHeld => ?_)
         clear hK K
         try simp only [pS, s0, sS]
         refine wpAnyH_ready (rs := [4, 6]) (by kernel_rfl) (by simp) ?_
         refine AllReadyH.cons rfl (fun K hK => ?_) (AllReadyH.cons rfl (fun K hK => ?_) (AllReadyH.nil))
         ·
          refine step_append_rd rfl (.tmp 53) (.tmp 54) 22 rfl EF (.slice (Ar123) (3) cr124) (3) (fcellsL (top T)) rfl HE.out Af m cf (fcellsL (F)) rfl (P13.out.below HB.out).o (fcells_one _) (by omega) (by unfold maxLen; omega) HB.out.size ?_
          intro Ar126 cr127 wr125 hE hf h2
          rw [← fcellsL_append] at hE
          have hB := app_below HB.out HE.out hf
          have hM := HM.out.fr hf (fun e => own_ne_blk HE.out HM.out (by decide) e.symm)
          clear hf h2
          clear HB HE HM
          have HB := Lib.hid hB
          have HE := Lib.hid hE
          have HM := Lib.hid hM
          clear hB hE hM
          clear hHeld
          refine hK.out _ _ (cells3 (P13.out.below HB.out).x) (fun hHeld => ?_)
          clear hK K
          try simp only [pS, s0, sS]
          refine one_ (i := 6) (by kernel_rfl) rfl (fun K hK => ?_)
          go_simp
          try go_wp2_with (fail)
          have hB := HB.out.alloc HB.out.size (.cells #[.string N2, .string V2, .bool nv] 34)
          have hX := Blk.new wr125 34 [.string N2, .string V2, .bool nv]
          have HD : Hid ((Value.slice (Ar126) (3 + m) cr127).ownBlock ≠ some wr125.heap.size) := fun e => by have := (HE.out.lt _ e).2; omega
          have hE := own_below HE.out (below_al (Below.refl wr125.heap.size wr125) (.cells #[.string N2, .string V2, .bool nv] 34))
          have hM := HM.out.below (below_al (Below.refl wr125.heap.size wr125) (.cells #[.string N2, .string V2, .bool nv] 34)) HM.out.lt
          generalize (wr125.alloc (.cells #[.string N2, .string V2, .bool nv] 34)) = wr128 at hB hX hE hM ⊢
          clear HB HE HM
          have HB := Lib.hid hB
          have HX := Lib.hid hX
          have HE := Lib.hid hE
          have HM := Lib.hid hM
          clear hB hX hE hM
          clear hHeld
          refine hK.out _ _ (cells3 (P13.out.below HB.out).x) (fun hHeld => ?_)
          clear hK K
          try simp only [pS, s0, sS]
          refine one_ (i := 7) (by kernel_rfl) rfl (fun K hK => ?_)
          refine step_append_rd rfl (.tmp 55) (.tmp 57) 22 rfl EF (.slice (Ar126) (3 + m) cr127) (3 + m) (fcellsL (top T ++ F)) rfl HE.out (some ⟨wr125.heap.size, 0, none⟩) 1 1 (fcellsL ([⟨N2, V2, nv⟩])) rfl (rd_one (f := ⟨N2, V2, nv⟩) HX.out) (fcells_one _) (by omega) (by unfold maxLen; omega) HB.out.size ?_
          intro Ar130 cr131 wr129 hE hf h2
          rw [← fcellsL_append] at hE
          have hB := app_below HB.out HE.out hf
          clear HX HD
          have hM := HM.out.fr hf (fun e => own_ne_blk HE.out HM.out (by decide) e.symm)
          clear hf h2
          clear HB HE HM
          have HB := Lib.hid hB
          have HE := Lib.hid hE
          have HM := Lib.hid hM
          clear hB hE hM
          clear hHeld
          refine hK.out _ _ (cells3 (P13.out.below HB.out).x) (fun hHeld => ?_)
          clear hK K
          try simp only [pS, s0, sS]
          refine one_ (i := 8) (by kernel_rfl) rfl (fun K hK => ?_)
          go_simp
          go_wp2_with (first
            | (go_at_call 14; (with_reducible refine (HQC.out _ _ _ cr131 (Rd.of_own HE.out) (by omega)).mono ?_); rintro e wr132 ⟨rfl, hb⟩
               have hB := HB.out.trans (hb.mono HB.out.size)
               have hM := HM.out.below hb HM.out.lt
               clear hb
               clear HB HM HE
               have HB := Lib.hid hB
               have HM := Lib.hid hM
               clear hB hM))
          clear hHeld
          refine hK.out _ _ (cells3 (P13.out.below HB.out).x) (fun hHeld => ?_)
          clear hK K
          try simp only [pS, s0, sS]
          refine wpAnyH_take (i := 9) (oi := b9) (v := ?_) rfl (by kernel_rfl) (by kernel_rfl) (by kernel_rfl) (fun _ _ _ h => h) (Or.inl ⟨by kernel_rfl, ?_⟩) hHeld ?_
          rotate_left
          · intro w hS; clear hS; unfold b9; go_simp; try with_reducible rfl
          simp only [pS, s0, sS, b9]
          refine wpAnyH_take (i := 10) (oi := b10) (v := ?_) rfl (by kernel_rfl) (by kernel_rfl) (by kernel_rfl) (fun _ _ _ h => h) (Or.inl ⟨by kernel_rfl, ?_⟩) hHeld ?_
          rotate_left
          · intro w hS; clear hS; unfold b10; go_simp; try with_reducible rfl
          simp only [pS, s0, sS, b10]
          refine wpAnyH_take (i := 11) (oi := b11) (v := ?_) rfl (by kernel_rfl) (by kernel_rfl) (by kernel_rfl) (fun _ _ _ h => h) (Or.inl ⟨by kernel_rfl, ?_⟩) hHeld ?_
          rotate_left
          · intro w hS; clear hS; unfold b11; go_simp; try with_reducible rfl
          simp only [pS, s0, sS, b11]
          refine one_ (i := 13) (by kernel_rfl) rfl (fun K hK => ?_)
          obtain ⟨x0, x1, x2, x3, x4, x5⟩ := cells6 HM.out
          have fx := HM.out.frozen
          go_simp
          go_wp2_with (fail)
          clear x0 x1 x2 x3 x4 x5 fx HM
          clear hHeld
          refine hK.out _ _ (cells3 (P13.out.below (put6 HB.out HP.out)).x) (fun hHeld => ?_)
          clear hK K
          refine wpAnyH_take (i := 14) (oi := b14) (v := ?_) rfl (by kernel_rfl) (by kernel_rfl) (by kernel_rfl) (fun _ _ _ h => h) (Or.inl ⟨by kernel_rfl, ?_⟩) hHeld ?_
          rotate_left
          · intro w hS; clear hS; unfold b14; go_simp; try with_reducible rfl
          simp only [pS, s0, sS, b14]
          refine wpAnyH_done (by kernel_rfl) ?_ _
          go_wp2
          go_meet
          exact ⟨rfl, put6 HB.out HP.out⟩
         ·
          go_simp
          try go_wp2_with (fail)
          have hB := HB.out.alloc HB.out.size (.cells #[.string N2, .string V2, .bool nv] 34)
          have hX := Blk.new wr122 34 [.string N2, .string V2, .bool nv]
          have HD : Hid ((Value.slice (Ar123) (3) cr124).ownBlock ≠ some wr122.heap.size) := fun e => by have := (HE.out.lt _ e).2; omega
          have hE := own_below HE.out (below_al (Below.refl wr122.heap.size wr122) (.cells #[.string N2, .string V2, .bool nv] 34))
          have hM := HM.out.below (below_al (Below.refl wr122.heap.size wr122) (.cells #[.string N2, .string V2, .bool nv] 34)) HM.out.lt
          generalize (wr122.alloc (.cells #[.string N2, .string V2, .bool nv] 34)) = wr134 at hB hX hE hM ⊢
          clear HB HE HM
          have HB := Lib.hid hB
          have HX := Lib.hid hX
          have HE := Lib.hid hE
          have HM := Lib.hid hM
          clear hB hX hE hM
          clear hHeld
          refine hK.out _ _ (cells3 (P13.out.below HB.out).x) (fun hHeld => ?_)
          clear hK K
          try simp only [pS, s0, sS]
          refine one_ (i := 4) (by kernel_rfl) rfl (fun K hK => ?_)
          refine step_append_rd rfl (.tmp 53) (.tmp 54) 22 rfl EF (.slice (Ar123) (3) cr124) (3) (fcellsL (top T)) rfl HE.out Af m cf (fcellsL (F)) rfl (P13.out.below HB.out).o (fcells_one _) (by omega) (by unfold maxLen; omega) HB.out.size ?_
          intro Ar136 cr137 wr135 hE hf h2
          rw [← fcellsL_append] at hE
          have hB := app_below HB.out HE.out hf
          have hX := HX.out.fr hf (fun e => HD.out e.symm)
          have HD2 : Hid ((Value.slice Ar136 (3 + m) cr137).ownBlock ≠ some wr122.heap.size) := fun e => by
            rcases h2 with h | h
            · exact HD.out (h ▸ e)
            · have := HX.out.lt; have e2 := h.symm.trans e; simp at e2; omega
          clear HD
          have HD := HD2
          clear HD2
          have hM := HM.out.fr hf (fun e => own_ne_blk HE.out HM.out (by decide) e.symm)
          clear hf h2
          clear HB HE HX HM
          have HB := Lib.hid hB
          have HE := Lib.hid hE
          have HX := Lib.hid hX
          have HM := Lib.hid hM
          clear hB hE hX hM
          clear hHeld
          refine hK.out _ _ (cells3 (P13.out.below HB.out).x) (fun hHeld => ?_)
          clear hK K
          try simp only [pS, s0, sS]
          refine one_ (i := 7) (by kernel_rfl) rfl (fun K hK => ?_)
          refine step_append_rd rfl (.tmp 55) (.tmp 57) 22 rfl EF (.slice (Ar136) (3 + m) cr137) (3 + m) (fcellsL (top T ++ F)) rfl HE.out (some ⟨wr122.heap.size, 0, none⟩) 1 1 (fcellsL ([⟨N2, V2, nv⟩])) rfl (rd_one (f := ⟨N2, V2, nv⟩) HX.out) (fcells_one _) (by omega) (by unfold maxLen; omega) HB.out.size ?_
          intro Ar139 cr140 wr138 hE hf h2
          rw [← fcellsL_append] at hE
          have hB := app_below HB.out HE.out hf
          clear HX HD
          have hM := HM.out.fr hf (fun e => own_ne_blk HE.out HM.out (by decide) e.symm)
          clear hf h2
          clear HB HE HM
          have HB := Lib.hid hB
          have HE := Lib.hid hE
          have HM := Lib.hid hM
          clear hB hE hM
          clear hHeld
          refine hK.out _ _ (cells3 (P13.out.below HB.out).x) (fun hHeld => ?_)
          clear hK K
          try simp only [pS, s0, sS]
          refine one_ (i := 8) (by kernel_rfl) rfl (fun K hK => ?_)
          go_simp
          go_wp2_with (first
            | (go_at_call 14; (with_reducible refine (HQC.out _ _ _ cr140 (Rd.of_own HE.out) (by omega)).mono ?_); rintro e wr141 ⟨rfl, hb⟩
               have hB := HB.out.trans (hb.mono HB.out.size)
               have hM := HM.out.below hb HM.out.lt
               clear hb
               clear HB HM HE
               have HB := Lib.hid hB
               have HM := Lib.hid hM
               clear hB hM))
          clear hHeld
          refine hK.out _ _ (cells3 (P13.out.below HB.out).x) (fun hHeld => ?_)
          clear hK K
          try simp only [pS, s0, sS]
          refine wpAnyH_take (i := 9) (oi := b9) (v := ?_) rfl (by kernel_rfl) (by kernel_rfl) (by kernel_rfl) (fun _ _ _ h => h) (Or.inl ⟨by kernel_rfl, ?_⟩) hHeld ?_
          rotate_left
          · intro w hS; clear hS; unfold b9; go_simp; try with_reducible rfl
          simp only [pS, s0, sS, b9]
          refine wpAnyH_take (i := 10) (oi := b10) (v := ?_) rfl (by kernel_rfl) (by kernel_rfl) (by kernel_rfl) (fun _ _ _ h => h) (Or.inl ⟨by kernel_rfl, ?_⟩) hHeld ?_
          rotate_left
          · intro w hS; clear hS; unfold b10; go_simp; try with_reducible rfl
          simp only [pS, s0, sS, b10]
          refine wpAnyH_take (i := 11) (oi := b11) (v := ?_) rfl (by kernel_rfl) (by kernel_rfl) (by kernel_rfl) (fun _ _ _ h => h) (Or.inl ⟨by kernel_rfl, ?_⟩) hHeld ?_
          rotate_left
          · intro w hS; clear hS; unfold b11; go_simp; try with_reducible rfl
          simp only [pS, s0, sS, b11]
          refine one_ (i := 13) (by kernel_rfl) rfl (fun K hK => ?_)
          obtain ⟨x0, x1, x2, x3, x4, x5⟩ := cells6 HM.out
          have fx := HM.out.frozen
          go_simp
          go_wp2_with (fail)
          clear x0 x1 x2 x3 x4 x5 fx HM
          clear hHeld
          refine hK.out _ _ (cells3 (P13.out.below (put6 HB.out HP.out)).x) (fun hHeld => ?_)
          clear hK K
          refine wpAnyH_take (i := 14) (oi := b14) (v := ?_) rfl (by kernel_rfl) (by kernel_rfl) (by kernel_rfl) (fun _ _ _ h => h) (Or.inl ⟨by kernel_rfl, ?_⟩) hHeld ?_
          rotate_left
          · intro w hS; clear hS; unfold b14; go_simp; try with_reducible rfl
          simp only [pS, s0, sS, b14]
          refine wpAnyH_done (by kernel_rfl) ?_ _
          go_wp2
          go_meet
          exact ⟨rfl, put6 HB.out HP.out⟩
        ·
         go_simp
         try go_wp2_with (fail)
         have hB := HB.out.alloc HB.out.size (.cells #[.string N2, .string V2, .bool nv] 34)
         have hX := Blk.new wr121 34 [.string N2, .string V2, .bool nv]
         have HD : Hid ((Value.slice (some ⟨wr0.heap.size, 0, none⟩) (0) 0).ownBlock ≠ some wr121.heap.size) := fun e => by have := (HE.out.lt _ e).2; omega
         have hE := own_below HE.out (below_al (Below.refl wr121.heap.size wr121) (.cells #[.string N2, .string V2, .bool nv] 34))
         have hM := HM.out.below (below_al (Below.refl wr121.heap.size wr121) (.cells #[.string N2, .string V2, .bool nv] 34)) HM.out.lt
         generalize (wr121.alloc (.cells #[.string N2, .string V2, .bool nv] 34)) = wr143 at hB hX hE hM ⊢
         clear HB HE HM
         have HB := Lib.hid hB
         have HX := Lib.hid hX
         have HE := Lib.hid hE
         have HM := Lib.hid hM
         clear hB hX hE hM
         clear hHeld
         refine hK.out _ _ (cells3 (P13.out.below HB.out).x) (fun hHeld => ?_)
         clear hK K
         try simp only [pS, s0, sS]
         refine one_ (i := 2) (by kernel_rfl) rfl (fun K hK => ?_)
         refine step_append_rd rfl (.tmp 51) (.tmp 52) 22 rfl EF (.slice (some ⟨wr0.heap.size, 0, none⟩) (0) 0) (0) [] rfl HE.out A6 3 c6 (fcellsL (top T)) rfl (P13.out.below HB.out).t (fcells_one _) (by omega) (by unfold maxLen; omega) HB.out.size ?_
         intro Ar145 cr146 wr144 hE hf h2
         simp only [Nat.zero_add, List.nil_append] at hE h2 ⊢
         have hB := app_below HB.out HE.out hf
         have hX := HX.out.fr hf (fun e => HD.out e.symm)
         have HD2 : Hid ((Value.slice Ar145 (3) cr146).ownBlock ≠ some wr121.heap.size) := fun e => by
           rcases h2 with h | h
           · exact HD.out (h ▸ e)
           · have := HX.out.lt; have e2 := h.symm.trans e; simp at e2; omega
         clear HD
         have HD := HD2
         clear HD2
         have hM := HM.out.fr hf (fun e => own_ne_blk HE.out HM.out (by decide) e.symm)
         clear hf h2
         clear HB HE HX HM
         have HB := Lib.hid hB
         have HE := Lib.hid hE
         have HX := Lib.hid hX
         have HM := Lib.hid hM
         clear hB hE hX hM
         clear hHeld
         refine hK.out _ _ (cells3 (P13.out.below HB.out).x) (fun hHeld => ?_)
         clear hK K
         try simp only [pS, s0, sS]
         refine one_ (i := 4) (by kernel_rfl) rfl (fun K hK => ?_)
         refine step_append_rd rfl (.tmp 53) (.tmp 54) 22 rfl EF (.slice (Ar145) (3) cr146) (3) (fcellsL (top T)) rfl HE.out Af m cf (fcellsL (F)) rfl (P13.out.below HB.out).o (fcells_one _) (by omega) (by unfold maxLen; omega) HB.out.size ?_
         intro Ar148 cr149 wr147 hE hf h2
         rw [← fcellsL_append] at hE
         have hB := app_below HB.out HE.out hf
         have hX := HX.out.fr hf (fun e => HD.out e.symm)
         have HD2 : Hid ((Value.slice Ar148 (3 + m) cr149).ownBlock ≠ some wr121.heap.size) := fun e => by
           rcases h2 with h | h
           · exact HD.out (h ▸ e)
           · have := HX.out.lt; have e2 := h.symm.trans e; simp at e2; omega
         clear HD
         have HD := HD2
         clear HD2
         have hM := HM.out.fr hf (fun e => own_ne_blk HE.out HM.out (by decide) e.symm)
         clear hf h2
         clear HB HE HX HM
         have HB := Lib.hid hB
         have HE := Lib.hid hE
         have HX := Lib.hid hX
         have HM := Lib.hid hM
         clear hB hE hX hM
         clear hHeld
         refine hK.out _ _ (cells3 (P13.out.below HB.out).x) (fun hHeld => ?_)
         clear hK K
         try simp only [pS, s0, sS]
         refine one_ (i := 7) (by kernel_rfl) rfl (fun K hK => ?_)
         refine step_append_rd rfl (.tmp 55) (.tmp 57) 22 rfl EF (.slice (Ar148) (3 + m) cr149) (3 + m) (fcellsL (top T ++ F)) rfl HE.out (some ⟨wr121.heap.size, 0, none⟩) 1 1 (fcellsL ([⟨N2, V2, nv⟩])) rfl (rd_one (f := ⟨N2, V2, nv⟩) HX.out) (fcells_one _) (by omega) (by unfold maxLen; omega) HB.out.size ?_
         intro Ar151 cr152 wr150 hE hf h2
         rw [← fcellsL_append] at hE
         have hB := app_below HB.out HE.out hf
         clear HX HD
         have hM := HM.out.fr hf (fun e => own_ne_blk HE.out HM.out (by decide) e.symm)
         clear hf h2
         clear HB HE HM
         have HB := Lib.hid hB
         have HE := Lib.hid hE
         have HM := Lib.hid hM
         clear hB hE hM
         clear hHeld
         refine hK.out _ _ (cells3 (P13.out.below HB.out).x) (fun hHeld => ?_)
         clear hK K
         try simp only [pS, s0, sS]
         refine one_ (i := 8) (by kernel_rfl) rfl (fun K hK => ?_)
         go_simp
         go_wp2_with (first
           | (go_at_call 14; (with_reducible refine (HQC.out _ _ _ cr152 (Rd.of_own HE.out) (by omega)).mono ?_); rintro e wr153 ⟨rfl, hb⟩
              have hB := HB.out.trans (hb.mono HB.out.size)
              have hM := HM.out.below hb HM.out.lt
              clear hb
              clear HB HM HE
              have HB := Lib.hid hB
              have HM := Lib.hid hM
              clear hB hM))
         clear hHeld
         refine hK.out _ _ (cells3 (P13.out.below HB.out).x) (fun hHeld => ?_)
         clear hK K
         try simp only [pS, s0, sS]
         refine wpAnyH_take (i := 9) (oi := b9) (v := ?_) rfl (by kernel_rfl) (by kernel_rfl) (by kernel_rfl) (fun _ _ _ h => h) (Or.inl ⟨by kernel_rfl, ?_⟩) hHeld ?_
         rotate_left
         · intro w hS; clear hS; unfold b9; go_simp; try with_reducible rfl
         simp only [pS, s0, sS, b9]
         refine wpAnyH_take (i := 10) (oi := b10) (v := ?_) rfl (by kernel_rfl) (by kernel_rfl) (by kernel_rfl) (fun _ _ _ h => h) (Or.inl ⟨by kernel_rfl, ?_⟩) hHeld ?_
         rotate_left
         · intro w hS; clear hS; unfold b10; go_simp; try with_reducible rfl
         simp only [pS, s0, sS, b10]
         refine wpAnyH_take (i := 11) (oi := b11) (v := ?_) rfl (by kernel_rfl) (by kernel_rfl) (by kernel_rfl) (fun _ _ _ h => h) (Or.inl ⟨by kernel_rfl, ?_⟩) hHeld ?_
         rotate_left
         · intro w hS; clear hS; unfold b11; go_simp; try with_reducible rfl
         simp only [pS, s0, sS, b11]
         refine one_ (i := 13) (by kernel_rfl) rfl (fun K hK => ?_)
         obtain ⟨x0, x1, x2, x3, x4, x5⟩ := cells6 HM.out
         have fx := HM.out.frozen
         go_simp
         go_wp2_with (fail)
         clear x0 x1 x2 x3 x4 x5 fx HM
         clear hHeld
         refine hK.out _ _ (cells3 (P13.out.below (put6 HB.out HP.out)).x) (fun hHeld => ?_)
         clear hK K
         refine wpAnyH_take (i := 14) (oi := b14) (v := ?_) rfl (by kernel_rfl) (by kernel_rfl) (by kernel_rfl) (fun _ _ _ h => h) (Or.inl ⟨by kernel_rfl, ?_⟩) hHeld ?_
         rotate_left
         · intro w hS; clear hS; unfold b14; go_simp; try with_reducible rfl
         simp only [pS, s0, sS, b14]
         refine wpAnyH_done (by kernel_rfl) ?_ _
         go_wp2
         go_meet
         exact ⟨rfl, put6 HB.out HP.out⟩
      ·
       go_simp
       try go_wp2_with (fail)
       have hB := HB.out.alloc HB.out.size (.cells #[.string N2, .string V2, .bool nv] 34)
       have hX := Blk.new wr0 34 [.string N2, .string V2, .bool nv]
       generalize (wr0.alloc (.cells #[.string N2, .string V2, .bool nv] 34)) = wr155 at hB hX ⊢
       clear HB
       have HB := Lib.hid hB
       have HX := Lib.hid hX
       clear hB hX
       clear hHeld
       refine hK.out _ _ (cells3 (P13.out.below HB.out).x) (fun hHeld => ?_)
       clear hK K
       try simp only [pS, s0, sS]
       refine wpAnyH_ready (rs := [0, 12]) (by kernel_rfl) (by simp) ?_
       refine AllReadyH.cons rfl (fun K hK => ?_) (AllReadyH.cons rfl (fun K hK => ?_) (AllReadyH.nil))
       ·
        go_simp
        try go_wp2_with (fail)
        have hB := HB.out.alloc HB.out.size (.cells #[] 34)
        have hE := own_lower (own_empty wr155) HB.out.size
        have HD : Hid ((Value.slice (some ⟨wr155.heap.size, 0, none⟩) 0 0).ownBlock ≠ some wr0.heap.size) := fun e => by have := HX.out.lt; simp [Value.ownBlock] at e; omega
        have hX := HX.out.below (below_al (Below.refl wr155.heap.size wr155) (.cells #[] 34)) HX.out.lt
        generalize (wr155.alloc (.cells #[] 34)) = wr156 at hB hE hX ⊢
        clear HB HX
        have HB := Lib.hid hB
        have HE := Lib.hid hE
        have HX := Lib.hid hX
        clear hB hE hX
        clear hHeld
        refine hK.out _ _ (cells3 (P13.out.below HB.out).x) (fun hHeld => ?_)
        clear hK K
        try simp only [pS, s0, sS]
        refine wpAnyH_ready (rs := [2, 12]) (by kernel_rfl) (by simp) ?_
        refine AllReadyH.cons rfl (fun K hK => ?_) (AllReadyH.cons rfl (fun K hK => ?_) (AllReadyH.nil))
        ·
         refine step_append_rd rfl (.tmp 51) (.tmp 52) 22 rfl EF (.slice (some ⟨wr155.heap.size, 0, none⟩) (0) 0) (0) [] rfl HE.out A6 3 c6 (fcellsL (top T)) rfl (P13.out.below HB.out).t (fcells_one _) (by omega) (by unfold maxLen; omega) HB.out.size ?_
         intro Ar158 cr159 wr157 hE hf h2
         simp only [Nat.zero_add, List.nil_append] at hE h2 ⊢
         have hB := app_below HB.out HE.out hf
         have hX := HX.out.fr hf (fun e => HD.out e.symm)
         have HD2 : Hid ((Value.slice Ar158 (3) cr159).ownBlock ≠ some wr0.heap.size) := fun e => by
           rcases h2 with h | h
           · exact HD.out (h ▸ e)
           · have := HX.out.lt; have e2 := h.symm.trans e; simp at e2; omega
         clear HD
         have HD := HD2
         clear HD2
         clear hf h2
         clear HB HE HX
         have HB := Lib.hid hB
         have HE := Lib.hid hE
         have HX := Lib.hid hX
         clear hB hE hX
         clear hHeld
         refine hK.out _ _ (cells3 (P13.out.below HB.out).x) (fun hHeld => ?_)
         clear hK K
         try simp only [pS, s0, sS]
         refine wpAnyH_ready (rs := [4, 12]) (by kernel_rfl) (by simp) ?_
         refine AllReadyH.cons rfl (fun K hK => ?_) (AllReadyH.cons rfl (fun K hK => ?_) (AllReadyH.nil))
         ·
          refine step_append_rd rfl (.tmp 53) (.tmp 54) 22 rfl EF (.slice (Ar158) (3) cr159) (3) (fcellsL (top T)) rfl HE.out Af m cf (fcellsL (F)) rfl (P13.out.below HB.out).o (fcells_one _) (by omega) (by unfold maxLen; omega) HB.out.size ?_
          intro Ar161 cr162 wr160 hE hf h2
          rw [← fcellsL_append] at hE
          have hB := app_below HB.out HE.out hf
          have hX := HX.out.fr hf (fun e => HD.out e.symm)
          have HD2 : Hid ((Value.slice Ar161 (3 + m) cr162).ownBlock ≠ some wr0.heap.size) := fun e => by
            rcases h2 with h | h
            · exact HD.out (h ▸ e)
            · have := HX.out.lt; have e2 := h.symm.trans e; simp at e2; omega
          clear HD
          have HD := HD2
          clear HD2
          clear hf h2
          clear HB HE HX
          have HB := Lib.hid hB
          have HE := Lib.hid hE
          have HX := Lib.hid hX
          clear hB hE hX
          clear hHeld
          refine hK.out _ _ (cells3 (P13.out.below HB.out).x) (fun hHeld => ?_)
          clear hK K
          try simp only [pS, s0, sS]
          refine wpAnyH_ready (rs := [7, 12]) (by kernel_rfl) (by simp) ?_
          refine AllReadyH.cons rfl (fun K hK => ?_) (AllReadyH.cons rfl (fun K hK => ?_) (AllReadyH.nil))
          ·
           refine step_append_rd rfl (.tmp 55) (.tmp 57) 22 rfl EF (.slice (Ar161) (3 + m) cr162) (3 + m) (fcellsL (top T ++ F)) rfl HE.out (some ⟨wr0.heap.size, 0, none⟩) 1 1 (fcellsL ([⟨N2, V2, nv⟩])) rfl (rd_one (f := ⟨N2, V2, nv⟩) HX.out) (fcells_one _) (by omega) (by unfold maxLen; omega) HB.out.size ?_
           intro Ar164 cr165 wr163 hE hf h2
           rw [← fcellsL_append] at hE
           have hB := app_below HB.out HE.out hf
           clear HX HD
           clear hf h2
           clear HB HE
           have HB := Lib.hid hB
           have HE := Lib.hid hE
           clear hB hE
           clear hHeld
           refine hK.out _ _ (cells3 (P13.out.below HB.out).x) (fun hHeld => ?_)
           clear hK K
           try simp only [pS, s0, sS]
           refine wpAnyH_ready (rs := [8, 12]) (by kernel_rfl) (by simp) ?_
           refine AllReadyH.cons rfl (fun K hK => ?_) (AllReadyH.cons rfl (fun K hK => ?_) (AllReadyH.nil))
           ·
            go_simp
            go_wp2_with (first
              | (go_at_call 14; (with_reducible refine (HQC.out _ _ _ cr165 (Rd.of_own HE.out) (by omega)).mono ?_); rintro e wr166 ⟨rfl, hb⟩
                 have hB := HB.out.trans (hb.mono HB.out.size)
                 clear hb
                 clear HB HE
                 have HB := Lib.hid hB
                 clear hB))
            clear hHeld
            refine hK.out _ _ (cells3 (P13.out.below HB.out).x) (fun hHeld => ?_)
            clear hK K
            try simp only [pS, s0, sS]
            refine wpAnyH_take (i := 9) (oi := b9) (v := ?_) rfl (by kernel_rfl) (by kernel_rfl) (by kernel_rfl) (fun _ _ _ h => h) (Or.inl ⟨by kernel_rfl, ?_⟩) hHeld ?_
            rotate_left
            · intro w hS; clear hS; unfold b9; go_simp; try with_reducible rfl
            simp only [pS, s0, sS, b9]
            refine wpAnyH_take (i := 10) (oi := b10) (v := ?_) rfl (by kernel_rfl) (by kernel_rfl) (by kernel_rfl) (fun _ _ _ h => h) (Or.inl ⟨by kernel_rfl, ?_⟩) hHeld ?_
            rotate_left
            · intro w hS; clear hS; unfold b10; go_simp; try with_reducible rfl
            simp only [pS, s0, sS, b10]
            refine wpAnyH_take (i := 11) (oi := b11) (v := ?_) rfl (by kernel_rfl) (by kernel_rfl) (by kernel_rfl) (fun _ _ _ h => h) (Or.inl ⟨by kernel_rfl, ?_⟩) hHeld ?_
            rotate_left
            · intro w hS; clear hS; unfold b11; go_simp; try with_reducible rfl
            simp only [pS, s0, sS, b11]
            refine one_ (i := 12) (by kernel_rfl) rfl (fun K hK => ?_)
            go_simp
            try go_wp2_with (fail)
            have hB := HB.out.alloc HB.out.size (.cells #[.string ⟨#[]⟩, .string ⟨#[]⟩, .string ⟨#[]⟩, .string ⟨#[]⟩, .int .i64 0, .int .i64 0] 28)
            have hM := Blk.new wr166 28 [.string ⟨#[]⟩, .string ⟨#[]⟩, .string ⟨#[]⟩, .string ⟨#[]⟩, .int .i64 0, .int .i64 0]
            have HP : Hid (w12.heap.size ≤ wr166.heap.size) := HB.out.size
            generalize (wr166.alloc (.cells #[.string ⟨#[]⟩, .string ⟨#[]⟩, .string ⟨#[]⟩, .string ⟨#[]⟩, .int .i64 0, .int .i64 0] 28)) = wr167 at hB hM ⊢
            clear HB
            have HB := Lib.hid hB
            have HM := Lib.hid hM
            clear hB hM
            clear hHeld
            refine hK.out _ _ (cells3 (P13.out.below HB.out).x) (fun hHeld => ?_)
            clear hK K
            try simp only [pS, s0, sS]
            refine one_ (i := 13) (by kernel_rfl) rfl (fun K hK => ?_)
            obtain ⟨x0, x1, x2, x3, x4, x5⟩ := cells6 HM.out
            have fx := HM.out.frozen
            go_simp
            go_wp2_with (fail)
            clear x0 x1 x2 x3 x4 x5 fx HM
            clear hHeld
            refine hK.out _ _ (cells3 (P13.out.below (put6 HB.out HP.out)).x) (fun hHeld => ?_)
            clear hK K
            refine wpAnyH_take (i := 14) (oi := b14) (v := ?_) rfl (by kernel_rfl) (by kernel_rfl) (by kernel_rfl) (fun _ _ _ h => h) (Or.inl ⟨by kernel_rfl, ?_⟩) hHeld ?_
            rotate_left
            · intro w hS; clear hS; unfold b14; go_simp; try with_reducible rfl
            simp only [pS, s0, sS, b14]
            refine wpAnyH_done (by kernel_rfl) ?_ _
            go_wp2
            go_meet
            exact ⟨rfl, put6 HB.out HP.out⟩
           ·
            go_simp
            try go_wp2_with (fail)
            have hB := HB.out.alloc HB.out.size (.cells #[.string ⟨#[]⟩, .string ⟨#[]⟩, .string ⟨#[]⟩, .string ⟨#[]⟩, .int .i64 0, .int .i64 0] 28)
            have hM := Blk.new wr163 28 [.string ⟨#[]⟩, .string ⟨#[]⟩, .string ⟨#[]⟩, .string ⟨#[]⟩, .int .i64 0, .int .i64 0]
            have HP : Hid (w12.heap.size ≤ wr163.heap.size) := HB.out.size
            have hE := own_below HE.out (below_al (Below.refl wr163.heap.size wr163) (.cells #[.string ⟨#[]⟩, .string ⟨#[]⟩, .string ⟨#[]⟩, .string ⟨#[]⟩, .int .i64 0, .int .i64 0] 28))
            generalize (wr163.alloc (.cells #[.string ⟨#[]⟩, .string ⟨#[]⟩, .string ⟨#[]⟩, .string ⟨#[]⟩, .int .i64 0, .int .i64 0] 28)) = wr169 at hB hM hE ⊢
            clear HB HE
            have HB := Lib.hid hB
            have HM := Lib.hid hM
            have HE := Lib.hid hE
            clear hB hM hE
            clear hHeld
            refine hK.out _ _ (cells3 (P13.out.below HB.out).x) (fun hHeld => ?_)
            clear hK K
            try simp only [pS, s0, sS]
            refine one_ (i := 8) (by kernel_rfl) rfl (fun K hK => ?_)
            go_simp
            go_wp2_with (first
              | (go_at_call 14; (with_reducible refine (HQC.out _ _ _ cr165 (Rd.of_own HE.out) (by omega)).mono ?_); rintro e wr170 ⟨rfl, hb⟩
                 have hB := HB.out.trans (hb.mono HB.out.size)
                 have hM := HM.out.below hb HM.out.lt
                 clear hb
                 clear HB HM HE
                 have HB := Lib.hid hB
                 have HM := Lib.hid hM
                 clear hB hM))
            clear hHeld
            refine hK.out _ _ (cells3 (P13.out.below HB.out).x) (fun hHeld => ?_)
            clear hK K
            try simp only [pS, s0, sS]
            refine wpAnyH_take (i := 9) (oi := b9) (v := ?_) rfl (by kernel_rfl) (by kernel_rfl) (by kernel_rfl) (fun _ _ _ h => h) (Or.inl ⟨by kernel_rfl, ?_⟩) hHeld ?_
            rotate_left
            · intro w hS; clear hS; unfold b9; go_simp; try with_reducible rfl
            simp only [pS, s0, sS, b9]
            refine wpAnyH_take (i := 10) (oi := b10) (v := ?_) rfl (by kernel_rfl) (by kernel_rfl) (by kernel_rfl) (fun _ _ _ h => h) (Or.inl ⟨by kernel_rfl, ?_⟩) hHeld ?_
            rotate_left
            · intro w hS; clear hS; unfold b10; go_simp; try with_reducible rfl
            simp only [pS, s0, sS, b10]
            refine wpAnyH_take (i := 11) (oi := b11) (v := ?_) rfl (by kernel_rfl) (by kernel_rfl) (by kernel_rfl) (fun _ _ _ h => h) (Or.inl ⟨by kernel_rfl, ?_⟩) hHeld ?_
            rotate_left
            · intro w hS; clear hS; unfold b11; go_simp; try with_reducible rfl
            simp only [pS, s0, sS, b11]
            refine one_ (i := 13) (by kernel_rfl) rfl (fun K hK => ?_)
            obtain ⟨x0, x1, x2, x3, x4, x5⟩ := cells6 HM.out
            have fx := HM.out.frozen
            go_simp
            go_wp2_with (fail)
            clear x0 x1 x2 x3 x4 x5 fx HM
            clear hHeld
            refine hK.out _ _ (cells3 (P13.out.below (put6 HB.out HP.out)).x) (fun hHeld => ?_)
            clear hK K
            refine wpAnyH_take (i := 14) (oi := b14) (v := ?_) rfl (by kernel_rfl) (by kernel_rfl) (by kernel_rfl) (fun _ _ _ h => h) (Or.inl ⟨by kernel_rfl, ?_⟩) hHeld ?_
            rotate_left
            · intro w hS; clear hS; unfold b14; go_simp; try with_reducible rfl
            simp only [pS, s0, sS, b14]
            refine wpAnyH_done (by kernel_rfl) ?_ _
            go_wp2
            go_meet
            exact ⟨rfl, put6 HB.out HP.out⟩
          ·
           go_simp
           try go_wp2_with (fail)
           have hB := HB.out.alloc HB.out.size (.cells #[.string ⟨#[]⟩, .string ⟨#[]⟩, .string ⟨#[]⟩, .string ⟨#[]⟩, .int .i64 0, .int .i64 0] 28)
           have hM := Blk.new wr160 28 [.string ⟨#[]⟩, .string ⟨#[]⟩, .string ⟨#[]⟩, .string ⟨#[]⟩, .int .i64 0, .int .i64 0]
           have HP : Hid (w12.heap.size ≤ wr160.heap.size) := HB.out.size
           have hE := own_below HE.out (below_al (Below.refl wr160.heap.size wr160) (.cells #[.string ⟨#[]⟩, .string ⟨#[]⟩, .string ⟨#[]⟩, .string ⟨#[]⟩, .int .i64 0, .int .i64 0] 28))
           have hX := HX.out.below (below_al (Below.refl wr160.heap.size wr160) (.cells #[.string ⟨#[]⟩, .string ⟨#[]⟩, .string ⟨#[]⟩, .string ⟨#[]⟩, .int .i64 0, .int .i64 0] 28)) HX.out.lt
           generalize (wr160.alloc (.cells #[.string ⟨#[]⟩, .string ⟨#[]⟩, .string ⟨#[]⟩, .string ⟨#[]⟩, .int .i64 0, .int .i64 0] 28)) = wr172 at hB hM hE hX ⊢
           clear HB HE HX
           have HB := Lib.hid hB
           have HM := Lib.hid hM
           have HE := Lib.hid hE
           have HX := Lib.hid hX
           clear hB hM hE hX
           clear hHeld
           refine hK.out _ _ (cells3 (P13.out.below HB.out).x) (fun hHeld => ?_)
           clear hK K
           try simp only [pS, s0, sS]
           refine one_ (i := 7) (by kernel_rfl) rfl (fun K hK => ?_)
           refine step_append_rd rfl (.tmp 55) (.tmp 57) 22 rfl EF (.slice (Ar161) (3 + m) cr162) (3 + m) (fcellsL (top T ++ F)) rfl HE.out (some ⟨wr0.heap.size, 0, none⟩) 1 1 (fcellsL ([⟨N2, V2, nv⟩])) rfl (rd_one (f := ⟨N2, V2, nv⟩) HX.out) (fcells_one _) (by omega) (by unfold maxLen; omega) HB.out.size ?_
           intro Ar174 cr175 wr173 hE hf h2
           rw [← fcellsL_append] at hE
           have hB := app_below HB.out HE.out hf
           clear HX HD
           have hM := HM.out.fr hf (fun e => own_ne_blk HE.out HM.out (by decide) e.symm)
           clear hf h2
           clear HB HE HM
           have HB := Lib.hid hB
           have HE := Lib.hid hE
           have HM := Lib.hid hM
           clear hB hE hM
           clear hHeld
           refine hK.out _ _ (cells3 (P13.out.below HB.out).x) (fun hHeld => ?_)
           clear hK K
           try simp only [pS, s0, sS]
           refine one_ (i := 8) (by kernel_rfl) rfl (fun K hK => ?_)
           go_simp
           go_wp2_with (first
             | (go_at_call 14; (with_reducible refine (HQC.out _ _ _ cr175 (Rd.of_own HE.out) (by omega)).mono ?_); rintro e wr176 ⟨rfl, hb⟩
                have hB := HB.out.trans (hb.mono HB.out.size)
                have hM := HM.out.below hb HM.out.lt
                clear hb
                clear HB HM HE
                have HB := Lib.hid hB
                have HM := Lib.hid hM
                clear hB hM))
           clear hHeld
           refine hK.out _ _ (cells3 (P13.out.below HB.out).x) (fun hHeld => ?_)
           clear hK K
           try simp only [pS, s0, sS]
           refine wpAnyH_take (i := 9) (oi := b9) (v := ?_) rfl (by kernel_rfl) (by kernel_rfl) (by kernel_rfl) (fun _ _ _ h => h) (Or.inl ⟨by kernel_rfl, ?_⟩) hHeld ?_
           rotate_left
           · intro w hS; clear hS; unfold b9; go_simp; try with_reducible rfl
           simp only [pS, s0, sS, b9]
           refine wpAnyH_take (i := 10) (oi := b10) (v := ?_) rfl (by kernel_rfl) (by kernel_rfl) (by kernel_rfl) (fun _ _ _ h => h) (Or.inl ⟨by kernel_rfl, ?_⟩) hHeld ?_
           rotate_left
           · intro w hS; clear hS; unfold b10; go_simp; try with_reducible rfl
           simp only [pS, s0, sS, b10]
           refine wpAnyH_take (i := 11) (oi := b11) (v := ?_) rfl (by kernel_rfl) (by kernel_rfl) (by kernel_rfl) (fun _ _ _ h => h) (Or.inl ⟨by kernel_rfl, ?_⟩) hHeld ?_
           rotate_left
           · intro w hS; clear hS; unfold b11; go_simp; try with_reducible rfl
           simp only [pS, s0, sS, b11]
           refine one_ (i := 13) (by kernel_rfl) rfl (fun K hK => ?_)
           obtain ⟨x0, x1, x2, x3, x4, x5⟩ := cells6 HM.out
           have fx := HM.out.frozen
           go_simp
           go_wp2_with (fail)
           clear x0 x1 x2 x3 x4 x5 fx HM
           clear hHeld
           refine hK.out _ _ (cells3 (P13.out.below (put6 HB.out HP.out)).x) (fun hHeld => ?_)
           clear hK K
           refine wpAnyH_take (i := 14) (oi := b14) (v := ?_) rfl (by kernel_rfl) (by kernel_rfl) (by kernel_rfl) (fun _ _ _ h => h) (Or.inl ⟨by kernel_rfl, ?_⟩) hHeld ?_
           rotate_left
           · intro w hS; clear hS; unfold b14; go_simp; try with_reducible rfl
           simp only [pS, s0, sS, b14]
           refine wpAnyH_done (by kernel_rfl) ?_ _
           go_wp2
           go_meet
           exact ⟨rfl, put6 HB.out HP.out⟩
         ·
          go_simp
          try go_wp2_with (fail)
          have hB := HB.out.alloc HB.out.size (.cells #[.string ⟨#[]⟩, .string ⟨#[]⟩, .string ⟨#[]⟩, .string ⟨#[]⟩, .int .i64 0, .int .i64 0] 28)
          have hM := Blk.new wr157 28 [.string ⟨#[]⟩, .string ⟨#[]⟩, .string ⟨#[]⟩, .string ⟨#[]⟩, .int .i64 0, .int .i64 0]
          have HP : Hid (w12.heap.size ≤ wr157.heap.size) := HB.out.size
          have hE := own_below HE.out (below_al (Below.refl wr157.heap.size wr157) (.cells #[.string ⟨#[]⟩, .string ⟨#[]⟩, .string ⟨#[]⟩, .string ⟨#[]⟩, .int .i64 0, .int .i64 0] 28))
          have hX := HX.out.below (below_al (Below.refl wr157.heap.size wr157) (.cells #[.string ⟨#[]⟩, .string ⟨#[]⟩, .string ⟨#[]⟩, .string ⟨#[]⟩, .int .i64 0, .int .i64 0] 28)) HX.out.lt
          generalize (wr157.alloc (.cells #[.string ⟨#[]⟩, .string ⟨#[]⟩, .string ⟨#[]⟩, .string ⟨#[]⟩, .int .i64 0, .int .i64 0] 28)) = wr178 at hB hM hE hX ⊢
          clear HB HE HX
          have HB := Lib.hid hB
          have HM := Lib.hid hM
          have HE := Lib.hid hE
          have HX := Lib.hid hX
          clear hB hM hE hX
          clear hHeld
          refine hK.out _ _ (cells3 (P13.out.below HB.out).x) (fun hHeld => ?_)
          clear hK K
          try simp only [pS, s0, sS]
          refine one_ (i := 4) (by kernel_rfl) rfl (fun K hK => ?_)
          refine step_append_rd rfl (.tmp 53) (.tmp 54) 22 rfl EF (.slice (Ar158) (3) cr159) (3) (fcellsL (top T)) rfl HE.out Af m cf (fcellsL (F)) rfl (P13.out.below HB.out).o (fcells_one _) (by omega) (by unfold maxLen; omega) HB.out.size ?_
          intro Ar180 cr181 wr179 hE hf h2
          rw [← fcellsL_append] at hE
          have hB := app_below HB.out HE.out hf
          have hX := HX.out.fr hf (fun e => HD.out e.symm)
          have HD2 : Hid ((Value.slice Ar180 (3 + m) cr181).ownBlock ≠ some wr0.heap.size) := fun e => by
            rcases h2 with h | h
            · exact HD.out (h ▸ e)
            · have := HX.out.lt; have e2 := h.symm.trans e; simp at e2; omega
          clear HD
          have HD := HD2
          clear HD2
          have hM := HM.out.fr hf (fun e => own_ne_blk HE.out HM.out (by decide) e.symm)
          clear hf h2
          clear HB HE HX HM
          have HB := Lib.hid hB
          have HE := Lib.hid hE
          have HX := Lib.hid hX
          have HM := Lib.hid hM
          clear hB hE hX hM
          clear hHeld
          refine hK.out _ _ (cells3 (P13.out.below HB.out).x) (fun hHeld => ?_)
          clear hK K
          try simp only [pS, s0, sS]
          refine one_ (i := 7) (by kernel_rfl) rfl (fun K hK => ?_)
          refine step_append_rd rfl (.tmp 55) (.tmp 57) 22 rfl EF (.slice (Ar180) (3 + m) cr181) (3 + m) (fcellsL (top T ++ F)) rfl HE.out (some ⟨wr0.heap.size, 0, none⟩) 1 1 (fcellsL ([⟨N2, V2, nv⟩])) rfl (rd_one (f := ⟨N2, V2, nv⟩) HX.out) (fcells_one _) (by omega) (by unfold maxLen; omega) HB.out.size ?_
          intro Ar183 cr184 wr182 hE hf h2
          rw [← fcellsL_append] at hE
          have hB := app_below HB.out HE.out hf
          clear HX HD
          have hM := HM.out.fr hf (fun e => own_ne_blk HE.out HM.out (by decide) e.symm)
          clear hf h2
          clear HB HE HM
          have HB := Lib.hid hB
          have HE := Lib.hid hE
          have HM := Lib.hid hM
          clear hB hE hM
          clear hHeld
          refine hK.out _ _ (cells3 (P13.out.below HB.out).x) (fun hHeld => ?_)
          clear hK K
          try simp only [pS, s0, sS]
          refine one_ (i := 8) (by kernel_rfl) rfl (fun K hK => ?_)
          go_simp
          go_wp2_with (first
            | (go_at_call 14; (with_reducible refine (HQC.out _ _ _ cr184 (Rd.of_own HE.out) (by omega)).mono ?_); rintro e wr185 ⟨rfl, hb⟩
               have hB := HB.out.trans (hb.mono HB.out.size)
               have hM := HM.out.below hb HM.out.lt
               clear hb
               clear HB HM HE
               have HB := Lib.hid hB
               have HM := Lib.hid hM
               clear hB hM))
          clear hHeld
          refine hK.out _ _ (cells3 (P13.out.below HB.out).x) (fun hHeld => ?_)
          clear hK K
          try simp only [pS, s0, sS]
          refine wpAnyH_take (i := 9) (oi := b9) (v := ?_) rfl (by kernel_rfl) (by kernel_rfl) (by kernel_rfl) (fun _ _ _ h => h) (Or.inl ⟨by kernel_rfl, ?_⟩) hHeld ?_
          rotate_left
          · intro w hS; clear hS; unfold b9; go_simp; try with_reducible rfl
          simp only [pS, s0, sS, b9]
          refine wpAnyH_take (i := 10) (oi := b10) (v := ?_) rfl (by kernel_rfl) (by kernel_rfl) (by kernel_rfl) (fun _ _ _ h => h) (Or.inl ⟨by kernel_rfl, ?_⟩) hHeld ?_
          rotate_left
          · intro w hS; clear hS; unfold b10; go_simp; try with_reducible rfl
          simp only [pS, s0, sS, b10]
          refine wpAnyH_take (i := 11) (oi := b11) (v := ?_) rfl (by kernel_rfl) (by kernel_rfl) (by kernel_rfl) (fun _ _ _ h => h) (Or.inl ⟨by kernel_rfl, ?_⟩) hHeld ?_
          rotate_left
          · intro w hS; clear hS; unfold b11; go_simp; try with_reducible rfl
          simp only [pS, s0, sS, b11]
          refine one_ (i := 13) (by kernel_rfl) rfl (fun K hK => ?_)
          obtain ⟨x0, x1, x2, x3, x4, x5⟩ := cells6 HM.out
          have fx := HM.out.frozen
          go_simp
          go_wp2_with (fail)
          clear x0 x1 x2 x3 x4 x5 fx HM
          clear hHeld
          refine hK.out _ _ (cells3 (P13.out.below (put6 HB.out HP.out)).x) (fun hHeld => ?_)
          clear hK K
          refine wpAnyH_take (i := 14) (oi := b14) (v := ?_) rfl (by kernel_rfl) (by kernel_rfl) (by kernel_rfl) (fun _ _ _ h => h) (Or.inl ⟨by kernel_rfl, ?_⟩) hHeld ?_
          rotate_left
          · intro w hS; clear hS; unfold b14; go_simp; try with_reducible rfl
          simp only [pS, s0, sS, b14]
          refine wpAnyH_done (by kernel_rfl) ?_ _
          go_wp2
          go_meet
          exact ⟨rfl, put6 HB.out HP.out⟩
        ·
         go_simp
         try go_wp2_with (fail)
         have hB := HB.out.alloc HB.out.size (.cells #[.string ⟨#[]⟩, .string ⟨#[]⟩, .string ⟨#[]⟩, .string ⟨#[]⟩, .int .i64 0, .int .i64 0] 28)
         have hM := Blk.new wr156 28 [.string ⟨#[]⟩, .string ⟨#[]⟩, .string ⟨#[]⟩, .string ⟨#[]⟩, .int .i64 0, .int .i64 0]
         have HP : Hid (w12.heap.size ≤ wr156.heap.size) := HB.out.size
         have hE := own_below HE.out (below_al (Below.refl wr156.heap.size wr156) (.cells #[.string ⟨#[]⟩, .string ⟨#[]⟩, .string ⟨#[]⟩, .string ⟨#[]⟩, .int .i64 0, .int .i64 0] 28))
         have hX := HX.out.below (below_al (Below.refl wr156.heap.size wr156) (.cells #[.string ⟨#[]⟩, .string ⟨#[]⟩, .string ⟨#[]⟩, .string ⟨#[]⟩, .int .i64 0, .int .i64 0] 28)) HX.out.lt
         generalize (wr156.alloc (.cells #[.string ⟨#[]⟩, .string ⟨#[]⟩, .string ⟨#[]⟩, .string ⟨#[]⟩, .int .i64 0, .int .i64 0] 28)) = wr187 at hB hM hE hX ⊢
         clear HB HE HX
         have HB := Lib.hid hB
         have HM := Lib.hid hM
         have HE := Lib.hid hE
         have HX := Lib.hid hX
         clear hB hM hE hX
         clear hHeld
         refine hK.out _ _ (cells3 (P13.out.below HB.out).x) (fun hHeld => ?_)
         clear hK K
         try simp only [pS, s0, sS]
         refine one_ (i := 2) (by kernel_rfl) rfl (fun K hK => ?_)
         refine step_append_rd rfl (.tmp 51) (.tmp 52) 22 rfl EF (.slice (some ⟨wr155.heap.size, 0, none⟩) (0) 0) (0) [] rfl HE.out A6 3 c6 (fcellsL (top T)) rfl (P13.out.below HB.out).t (fcells_one _) (by omega) (by unfold maxLen; omega) HB.out.size ?_
         intro Ar189 cr190 wr188 hE hf h2
         simp only [Nat.zero_add, List.nil_append] at hE h2 ⊢
         have hB := app_below HB.out HE.out hf
         have hX := HX.out.fr hf (fun e => HD.out e.symm)
         have HD2 : Hid ((Value.slice Ar189 (3) cr190).ownBlock ≠ some wr0.heap.size) := fun e => by
           rcases h2 with h | h
           · exact HD.out (h ▸ e)
           · have := HX.out.lt; have e2 := h.symm.trans e; simp at e2; omega
         clear HD
         have HD := HD2
         clear HD2
         have hM := HM.out.fr hf (fun e => own_ne_blk HE.out HM.out (by decide) e.symm)
         clear hf h2
         clear HB HE HX HM
         have HB := Lib.hid hB
         have HE := Lib.hid hE
         have HX := Lib.hid hX
         have HM := Lib.hid hM
         clear hB hE hX hM
         clear hHeld
         refine hK.out _ _ (cells3 (P13.out.below HB.out).x) (fun hHeld => ?_)
         clear hK K
         try simp only [pS, s0, sS]
         refine one_ (i := 4) (by kernel_rfl) rfl (fun K hK => ?_)
         refine step_append_rd rfl (.tmp 53) (.tmp 54) 22 rfl EF (.slice (Ar189) (3) cr190) (3) (fcellsL (top T)) rfl HE.out Af m cf (fcellsL (F)) rfl (P13.out.below HB.out).o (fcells_one _) (by omega) (by unfold maxLen; omega) HB.out.size ?_
         intro Ar192 cr193 wr191 hE hf h2
         rw [← fcellsL_append] at hE
         have hB := app_below HB.out HE.out hf
         have hX := HX.out.fr hf (fun e => HD.out e.symm)
         have HD2 : Hid ((Value.slice Ar192 (3 + m) cr193).ownBlock ≠ some wr0.heap.size) := fun e => by
           rcases h2 with h | h
           · exact HD.out (h ▸ e)
           · have := HX.out.lt; have e2 := h.symm.trans e; simp at e2; omega
         clear HD
         have HD := HD2
         clear HD2
         have hM := HM.out.fr hf (fun e => own_ne_blk HE.out HM.out (by decide) e.symm)
         clear hf h2
         clear HB HE HX HM
         have HB := Lib.hid hB
         have HE := Lib.hid hE
         have HX := Lib.hid hX
         have HM := Lib.hid hM
         clear hB hE hX hM
         clear hHeld
         refine hK.out _ _ (cells3 (P13.out.below HB.out).x) (fun hHeld => ?_)
         clear hK K
         try simp only [pS, s0, sS]
         refine one_ (i := 7) (by kernel_rfl) rfl (fun K hK => ?_)
         refine step_append_rd rfl (.tmp 55) (.tmp 57) 22 rfl EF (.slice (Ar192) (3 + m) cr193) (3 + m) (fcellsL (top T ++ F)) rfl HE.out (some ⟨wr0.heap.size, 0, none⟩) 1 1 (fcellsL ([⟨N2, V2, nv⟩])) rfl (rd_one (f := ⟨N2, V2, nv⟩) HX.out) (fcells_one _) (by omega) (by unfold maxLen; omega) HB.out.size ?_
         intro Ar195 cr196 wr194 hE hf h2
         rw [← fcellsL_append] at hE
         have hB := app_below HB.out HE.out hf
         clear HX HD
         have hM := HM.out.fr hf (fun e => own_ne_blk HE.out HM.out (by decide) e.symm)
         clear hf h2
         clear HB HE HM
         have HB := Lib.hid hB
         have HE := Lib.hid hE
         have HM := Lib.hid hM
         clear hB hE hM
         clear hHeld
         refine hK.out _ _ (cells3 (P13.out.below HB.out).x) (fun hHeld => ?_)
         clear hK K
         try simp only [pS, s0, sS]
         refine one_ (i := 8) (by kernel_rfl) rfl (fun K hK => ?_)
         go_simp
         go_wp2_with (first
           | (go_at_call 14; (with_reducible refine (HQC.out _ _ _ cr196 (Rd.of_own HE.out) (by omega)).mono ?_); rintro e wr197 ⟨rfl, hb⟩
              have hB := HB.out.trans (hb.mono HB.out.size)
              have hM := HM.out.below hb HM.out.lt
              clear hb
              clear HB HM HE
              have HB := Lib.hid hB
              have HM := Lib.hid hM
              clear hB hM))
         clear hHeld
         refine hK.out _ _ (cells3 (P13.out.below HB.out).x) (fun hHeld => ?_)
         clear hK K
         try simp only [pS, s0, sS]
         refine wpAnyH_take (i := 9) (oi := b9) (v := ?_) rfl (by kernel_rfl) (by kernel_rfl) (by kernel_rfl) (fun _ _ _ h => h) (Or.inl ⟨by kernel_rfl, ?_⟩) hHeld ?_
         rotate_left
         · intro w hS; clear hS; unfold b9; go_simp; try with_reducible rfl
         simp only [pS, s0, sS, b9]
         refine wpAnyH_take (i := 10) (oi := b10) (v := ?_) rfl (by kernel_rfl) (by kernel_rfl) (by kernel_rfl) (fun _ _ _ h => h) (Or.inl ⟨by kernel_rfl, ?_⟩) hHeld ?_
         rotate_left
         · intro w hS; clear hS; unfold b10; go_simp; try with_reducible rfl
         simp only [pS, s0, sS, b10]
         refine wpAnyH_take (i := 11) (oi := b11) (v := ?_) rfl (by kernel_rfl) (by kernel_rfl) (by kernel_rfl) (fun _ _ _ h => h) (Or.inl ⟨by kernel_rfl, ?_⟩) hHeld ?_
         rotate_left
         · intro w hS; clear hS; unfold b11; go_simp; try with_reducible rfl
         simp only [pS, s0, sS, b11]
         refine one_ (i := 13) (by kernel_rfl) rfl (fun K hK => ?_)
         obtain ⟨x0, x1, x2, x3, x4, x5⟩ := cells6 HM.out
         have fx := HM.out.frozen
         go_simp
         go_wp2_with (fail)
         clear x0 x1 x2 x3 x4 x5 fx HM
         clear hHeld
         refine hK.out _ _ (cells3 (P13.out.below (put6 HB.out HP.out)).x) (fun hHeld => ?_)
         clear hK K
         refine wpAnyH_take (i := 14) (oi := b14) (v := ?_) rfl (by kernel_rfl) (by kernel_rfl) (by kernel_rfl) (fun _ _ _ h => h) (Or.inl ⟨by kernel_rfl, ?_⟩) hHeld ?_
         rotate_left
         · intro w hS; clear hS; unfold b14; go_simp; try with_reducible rfl
         simp only [pS, s0, sS, b14]
         refine wpAnyH_done (by kernel_rfl) ?_ _
         go_wp2
         go_meet
         exact ⟨rfl, put6 HB.out HP.out⟩
       ·
        go_simp
        try go_wp2_with (fail)
        have hB := HB.out.alloc HB.out.size (.cells #[.string ⟨#[]⟩, .string ⟨#[]⟩, .string ⟨#[]⟩, .string ⟨#[]⟩, .int .i64 0, .int .i64 0] 28)
        have hM := Blk.new wr155 28 [.string ⟨#[]⟩, .string ⟨#[]⟩, .string ⟨#[]⟩, .string ⟨#[]⟩, .int .i64 0, .int .i64 0]
        have HP : Hid (w12.heap.size ≤ wr155.heap.size) := HB.out.size
        have hX := HX.out.below (below_al (Below.refl wr155.heap.size wr155) (.cells #[.string ⟨#[]⟩, .string ⟨#[]⟩, .string ⟨#[]⟩, .string ⟨#[]⟩, .int .i64 0, .int .i64 0] 28)) HX.out.lt
        generalize (wr155.alloc (.cells #[.string ⟨#[]⟩, .string ⟨#[]⟩, .string ⟨#[]⟩, .string ⟨#[]⟩, .int .i64 0, .int .i64 0] 28)) = wr199 at hB hM hX ⊢
        clear HB HX
        have HB := Lib.hid hB
        have HM := Lib.hid hM
        have HX := Lib.hid hX
        clear hB hM hX
        clear hHeld
        refine hK.out _ _ (cells3 (P13.out.below HB.out).x) (fun hHeld => ?_)
        clear hK K
        try simp only [pS, s0, sS]
        refine one_ (i := 0) (by kernel_rfl) rfl (fun K hK => ?_)
        go_simp
        try go_wp2_with (fail)
        have hB := HB.out.alloc HB.out.size (.cells #[] 34)
        have hE := own_lower (own_empty wr199) HB.out.size
        have HD : Hid ((Value.slice (some ⟨wr199.heap.size, 0, none⟩) 0 0).ownBlock ≠ some wr0.heap.size) := fun e => by have := HX.out.lt; simp [Value.ownBlock] at e; omega
        have hX := HX.out.below (below_al (Below.refl wr199.heap.size wr199) (.cells #[] 34)) HX.out.lt
        have hM := HM.out.below (below_al (Below.refl wr199.heap.size wr199) (.cells #[] 34)) HM.out.lt
        generalize (wr199.alloc (.cells #[] 34)) = wr200 at hB hE hX hM ⊢
        clear HB HX HM
        have HB := Lib.hid hB
        have HE := Lib.hid hE
        have HX := Lib.hid hX
        have HM := Lib.hid hM
        clear hB hE hX hM
        clear hHeld
        refine hK.out _ _ (cells3 (P13.out.below HB.out).x) (fun hHeld => ?_)
        clear hK K
        try simp only [pS, s0, sS]
        refine one_ (i := 2) (by kernel_rfl) rfl (fun K hK => ?_)
        refine step_append_rd rfl (.tmp 51) (.tmp 52) 22 rfl EF (.slice (some ⟨wr199.heap.size, 0, none⟩) (0) 0) (0) [] rfl HE.out A6 3 c6 (fcellsL (top T)) rfl (P13.out.below HB.out).t (fcells_one _) (by omega) (by unfold maxLen; omega) HB.out.size ?_
        intro Ar202 cr203 wr201 hE hf h2
        simp only [Nat.zero_add, List.nil_append] at hE h2 ⊢
        have hB := app_below HB.out HE.out hf
        have hX := HX.out.fr hf (fun e => HD.out e.symm)
        have HD2 : Hid ((Value.slice Ar202 (3) cr203).ownBlock ≠ some wr0.heap.size) := fun e => by
          rcases h2 with h | h
          · exact HD.out (h ▸ e)
          · have := HX.out.lt; have e2 := h.symm.trans e; simp at e2; omega
        clear HD
        have HD := HD2
        clear HD2
        have hM := HM.out.fr hf (fun e => own_ne_blk HE.out HM.out (by decide) e.symm)
        clear hf h2
        clear HB HE HX HM
        have HB := Lib.hid hB
        have HE := Lib.hid hE
        have HX := Lib.hid hX
        have HM := Lib.hid hM
        clear hB hE hX hM
        clear hHeld
        refine hK.out _ _ (cells3 (P13.out.below HB.out).x) (fun hHeld => ?_)
        clear hK K
        try simp only [pS, s0, sS]
        refine one_ (i := 4) (by kernel_rfl) rfl (fun K hK => ?_)
        refine step_append_rd rfl (.tmp 53) (.tmp 54) 22 rfl EF (.slice (Ar202) (3) cr203) (3) (fcellsL (top T)) rfl HE.out Af m cf (fcellsL (F)) rfl (P13.out.below HB.out).o (fcells_one _) (by omega) (by unfold maxLen; omega) HB.out.size ?_
        intro Ar205 cr206 wr204 hE hf h2
        rw [← fcellsL_append] at hE
        have hB := app_below HB.out HE.out hf
        have hX := HX.out.fr hf (fun e => HD.out e.symm)
        have HD2 : Hid ((Value.slice Ar205 (3 + m) cr206).ownBlock ≠ some wr0.heap.size) := fun e => by
          rcases h2 with h | h
          · exact HD.out (h ▸ e)
          · have := HX.out.lt; have e2 := h.symm.trans e; simp at e2; omega
        clear HD
        have HD := HD2
        clear HD2
        have hM := HM.out.fr hf (fun e => own_ne_blk HE.out HM.out (by decide) e.symm)
        clear hf h2
        clear HB HE HX HM
        have HB := Lib.hid hB
        have HE := Lib.hid hE
        have HX := Lib.hid hX
        have HM := Lib.hid hM
        clear hB hE hX hM
        clear hHeld
        refine hK.out _ _ (cells3 (P13.out.below HB.out).x) (fun hHeld => ?_)
        clear hK K
        try simp only [pS, s0, sS]
        refine one_ (i := 7) (by kernel_rfl) rfl (fun K hK => ?_)
        refine step_append_rd rfl (.tmp 55) (.tmp 57) 22 rfl EF (.slice (Ar205) (3 + m) cr206) (3 + m) (fcellsL (top T ++ F)) rfl HE.out (some ⟨wr0.heap.size, 0, none⟩) 1 1 (fcellsL ([⟨N2, V2, nv⟩])) rfl (rd_one (f := ⟨N2, V2, nv⟩) HX.out) (fcells_one _) (by omega) (by unfold maxLen; omega) HB.out.size ?_
        intro Ar208 cr209 wr207 hE hf h2
        rw [← fcellsL_append] at hE
        have hB := app_below HB.out HE.out hf
        clear HX HD
        have hM := HM.out.fr hf (fun e => own_ne_blk HE.out HM.out (by decide) e.symm)
        clear hf h2
        clear HB HE HM
        have HB := Lib.hid hB
        have HE := Lib.hid hE
        have HM := Lib.hid hM
        clear hB hE hM
        clear hHeld
        refine hK.out _ _ (cells3 (P13.out.below HB.out).x) (fun hHeld => ?_)
        clear hK K
        try simp only [pS, s0, sS]
        refine one_ (i := 8) (by kernel_rfl) rfl (fun K hK => ?_)
        go_simp
        go_wp2_with (first
          | (go_at_call 14; (with_reducible refine (HQC.out _ _ _ cr209 (Rd.of_own HE.out) (by omega)).mono ?_); rintro e wr210 ⟨rfl, hb⟩
             have hB := HB.out.trans (hb.mono HB.out.size)
             have hM := HM.out.below hb HM.out.lt
             clear hb
             clear HB HM HE
             have HB := Lib.hid hB
             have HM := Lib.hid hM
             clear hB hM))
        clear hHeld
        refine hK.out _ _ (cells3 (P13.out.below HB.out).x) (fun hHeld => ?_)
        clear hK K
        try simp only [pS, s0, sS]
        refine wpAnyH_take (i := 9) (oi := b9) (v := ?_) rfl (by kernel_rfl) (by kernel_rfl) (by kernel_rfl) (fun _ _ _ h => h) (Or.inl ⟨by kernel_rfl, ?_⟩) hHeld ?_
        rotate_left
        · intro w hS; clear hS; unfold b9; go_simp; try with_reducible rfl
        simp only [pS, s0, sS, b9]
        refine wpAnyH_take (i := 10) (oi := b10) (v := ?_) rfl (by kernel_rfl) (by kernel_rfl) (by kernel_rfl) (fun _ _ _ h => h) (Or.inl ⟨by kernel_rfl, ?_⟩) hHeld ?_
        rotate_left
        · intro w hS; clear hS; unfold b10; go_simp; try with_reducible rfl
        simp only [pS, s0, sS, b10]
        refine wpAnyH_take (i := 11) (oi := b11) (v := ?_) rfl (by kernel_rfl) (by kernel_rfl) (by kernel_rfl) (fun _ _ _ h => h) (Or.inl ⟨by kernel_rfl, ?_⟩) hHeld ?_
        rotate_left
        · intro w hS; clear hS; unfold b11; go_simp; try with_reducible rfl
        simp only [pS, s0, sS, b11]
        refine one_ (i := 13) (by kernel_rfl) rfl (fun K hK => ?_)
        obtain ⟨x0, x1, x2, x3, x4, x5⟩ := cells6 HM.out
        have fx := HM.out.frozen
        go_simp
        go_wp2_with (fail)
        clear x0 x1 x2 x3 x4 x5 fx HM
        clear hHeld
        refine hK.out _ _ (cells3 (P13.out.below (put6 HB.out HP.out)).x) (fun hHeld => ?_)
        clear hK K
        refine wpAnyH_take (i := 14) (oi := b14) (v := ?_) rfl (by kernel_rfl) (by kernel_rfl) (by kernel_rfl) (fun _ _ _ h => h) (Or.inl ⟨by kernel_rfl, ?_⟩) hHeld ?_
        rotate_left
        · intro w hS; clear hS; unfold b14; go_simp; try with_reducible rfl
        simp only [pS, s0, sS, b14]
        refine wpAnyH_done (by kernel_rfl) ?_ _
        go_wp2
        go_meet
        exact ⟨rfl, put6 HB.out HP.out⟩
      ·
       go_simp
       try go_wp2_with (fail)
       have hB := HB.out.alloc HB.out.size (.cells #[.string ⟨#[]⟩, .string ⟨#[]⟩, .string ⟨#[]⟩, .string ⟨#[]⟩, .int .i64 0, .int .i64 0] 28)
       have hM := Blk.new wr0 28 [.string ⟨#[]⟩, .string ⟨#[]⟩, .string ⟨#[]⟩, .string ⟨#[]⟩, .int .i64 0, .int .i64 0]
       have HP : Hid (w12.heap.size ≤ wr0.heap.size) := HB.out.size
       generalize (wr0.alloc (.cells #[.string ⟨#[]⟩, .string ⟨#[]⟩, .string ⟨#[]⟩, .string ⟨#[]⟩, .int .i64 0, .int .i64 0] 28)) = wr212 at hB hM ⊢
       clear HB
       have HB := Lib.hid hB
       have HM := Lib.hid hM
       clear hB hM
       clear hHeld
       refine hK.out _ _ (cells3 (P13.out.below HB.out).x) (fun hHeld => ?_)
       clear hK K
       try simp only [pS, s0, sS]
       refine wpAnyH_ready (rs := [0, 6]) (by kernel_rfl) (by simp) ?_
       refine AllReadyH.cons rfl (fun K hK => ?_) (AllReadyH.cons rfl (fun K hK => ?_) (AllReadyH.nil))
       ·
        go_simp
        try go_wp2_with (fail)
        have hB := HB.out.alloc HB.out.size (.cells #[] 34)
        have hE := own_lower (own_empty wr212) HB.out.size
        have hM := HM.out.below (below_al (Below.refl wr212.heap.size wr212) (.cells #[] 34)) HM.out.lt
        generalize (wr212.alloc (.cells #[] 34)) = wr213 at hB hE hM ⊢
        clear HB HM
        have HB := Lib.hid hB
        have HE := Lib.hid hE
        have HM := Lib.hid hM
        clear hB hE hM
        clear hHeld
        refine hK.out _ _ (cells3 (P13.out.below HB.out).x) (fun hHeld => ?_)
        clear hK K
        try simp only [pS, s0, sS]
        refine wpAnyH_ready (rs := [2, 6]) (by kernel_rfl) (by simp) ?_
        refine AllReadyH.cons rfl (fun K hK => ?_) (AllReadyH.cons rfl (fun K hK => ?_) (AllReadyH.nil))
        ·
         refine step_append_rd rfl (.tmp 51) (.tmp 52) 22 rfl EF (.slice (some ⟨wr212.heap.size, 0, none⟩) (0) 0) (0) [] rfl HE.out A6 3 c6 (fcellsL (top T)) rfl (P13.out.below HB.out).t (fcells_one _) (by omega) (by unfold maxLen; omega) HB.out.size ?_
         intro Ar215 cr216 wr214 hE hf h2
         simp only [Nat.zero_add, List.nil_append] at hE h2 ⊢
         have hB := app_below HB.out HE.out hf
         have hM := HM.out.fr hf (fun e => own_ne_blk HE.out HM.out (by decide) e.symm)
         clear hf h2
         clear HB HE HM
         have HB := Lib.hid hB
         have HE := Lib.hid hE
         have HM := Lib.hid hM
         clear hB hE hM
         clear hHeld
         refine hK.out _ _ (cells3 (P13.out.below HB.out).x) (fun hHeld => ?_)
         clear hK K
         try simp only [pS, s0, sS]
         refine wpAnyH_ready (rs := [4, 6]) (by kernel_rfl) (by simp) ?_
         refine AllReadyH.cons rfl (fun K hK => ?_) (AllReadyH.cons rfl (fun K hK => ?_) (AllReadyH.nil))
         ·
          refine step_append_rd rfl (.tmp 53) (.tmp 54) 22 rfl EF (.slice (Ar215) (3) cr216) (3) (fcellsL (top T)) rfl HE.out Af m cf (fcellsL (F)) rfl (P13.out.below HB.out).o (fcells_one _) (by omega) (by unfold maxLen; omega) HB.out.size ?_
          intro Ar218 cr219 wr217 hE hf h2
          rw [← fcellsL_append] at hE
          have hB := app_below HB.out HE.out hf
          have hM := HM.out.fr hf (fun e => own_ne_blk HE.out HM.out (by decide) e.symm)
          clear hf h2
          clear HB HE HM
          have HB := Lib.hid hB
          have HE := Lib.hid hE
          have HM := Lib.hid hM
          clear hB hE hM
          clear hHeld
          refine hK.out _ _ (cells3 (P13.out.below HB.out).x) (fun hHeld => ?_)
          clear hK K
          try simp only [pS, s0, sS]
          refine one_ (i := 6) (by kernel_rfl) rfl (fun K hK => ?_)
          go_simp
          try go_wp2_with (fail)
          have hB := HB.out.alloc HB.out.size (.cells #[.string N2, .string V2, .bool nv] 34)
          have hX := Blk.new wr217 34 [.string N2, .string V2, .bool nv]
          have HD : Hid ((Value.slice (Ar218) (3 + m) cr219).ownBlock ≠ some wr217.heap.size) := fun e => by have := (HE.out.lt _ e).2; omega
          have hE := own_below HE.out (below_al (Below.refl wr217.heap.size wr217) (.cells #[.string N2, .string V2, .bool nv] 34))
          have hM := HM.out.below (below_al (Below.refl wr217.heap.size wr217) (.cells #[.string N2, .string V2, .bool nv] 34)) HM.out.lt
          generalize (wr217.alloc (.cells #[.string N2, .string V2, .bool nv] 34)) = wr220 at hB hX hE hM ⊢
          clear HB HE HM
          have HB := Lib.hid hB
          have HX := Lib.hid hX
          have HE := Lib.hid hE
          have HM := Lib.hid hM
          clear hB hX hE hM
          clear hHeld
          refine hK.out _ _ (cells3 (P13.out.below HB.out).x) (fun hHeld => ?_)
          clear hK K
          try simp only [pS, s0, sS]
          refine one_ (i := 7) (by kernel_rfl) rfl (fun K hK => ?_)
          refine step_append_rd rfl (.tmp 55) (.tmp 57) 22 rfl EF (.slice (Ar218) (3 + m) cr219) (3 + m) (fcellsL (top T ++ F)) rfl HE.out (some ⟨wr217.heap.size, 0, none⟩) 1 1 (fcellsL ([⟨N2, V2, nv⟩])) rfl (rd_one (f := ⟨N2, V2, nv⟩) HX.out) (fcells_one _) (by omega) (by unfold maxLen; omega) HB.out.size ?_
          intro Ar222 cr223 wr221 hE hf h2
          rw [← fcellsL_append] at hE
          have hB := app_below HB.out HE.out hf
          clear HX HD
          have hM := HM.out.fr hf (fun e => own_ne_blk HE.out HM.out (by decide) e.symm)
          clear hf h2
          clear HB HE HM
          have HB := Lib.hid hB
          have HE := Lib.hid hE
          have HM := Lib.hid hM
          clear hB hE hM
          clear hHeld
          refine hK.out _ _ (cells3 (P13.out.below HB.out).x) (fun hHeld => ?_)
          clear hK K
          try simp only [pS, s0, sS]
          refine one_ (i := 8) (by kernel_rfl) rfl (fun K hK => ?_)
          go_simp
          go_wp2_with (first
            | (go_at_call 14; (with_reducible refine (HQC.out _ _ _ cr223 (Rd.of_own HE.out) (by omega)).mono ?_); rintro e wr224 ⟨rfl, hb⟩
               have hB := HB.out.trans (hb.mono HB.out.size)
               have hM := HM.out.below hb HM.out.lt
               clear hb
               clear HB HM HE
               have HB := Lib.hid hB
               have HM := Lib.hid hM
               clear hB hM))
          clear hHeld
          refine hK.out _ _ (cells3 (P13.out.below HB.out).x) (fun hHeld => ?_)
          clear hK K
          try simp only [pS, s0, sS]
          refine wpAnyH_take (i := 9) (oi := b9) (v := ?_) rfl (by kernel_rfl) (by kernel_rfl) (by kernel_rfl) (fun _ _ _ h => h) (Or.inl ⟨by kernel_rfl, ?_⟩) hHeld ?_
          rotate_left
          · intro w hS; clear hS; unfold b9; go_simp; try with_reducible rfl
          simp only [pS, s0, sS, b9]
          refine wpAnyH_take (i := 10) (oi := b10) (v := ?_) rfl (by kernel_rfl) (by kernel_rfl) (by kernel_rfl) (fun _ _ _ h => h) (Or.inl ⟨by kernel_rfl, ?_⟩) hHeld ?_
          rotate_left
          · intro w hS; clear hS; unfold b10; go_simp; try with_reducible rfl
          simp only [pS, s0, sS, b10]
          refine wpAnyH_take (i := 11) (oi := b11) (v := ?_) rfl (by kernel_rfl) (by kernel_rfl) (by kernel_rfl) (fun _ _ _ h => h) (Or.inl ⟨by kernel_rfl, ?_⟩) hHeld ?_
          rotate_left
          · intro w hS; clear hS; unfold b11; go_simp; try with_reducible rfl
          simp only [pS, s0, sS, b11]
          refine one_ (i := 13) (by kernel_rfl) rfl (fun K hK => ?_)
          obtain ⟨x0, x1, x2, x3, x4, x5⟩ := cells6 HM.out
          have fx := HM.out.frozen
          go_simp
          go_wp2_with (fail)
          clear x0 x1 x2 x3 x4 x5 fx HM
          clear hHeld
          refine hK.out _ _ (cells3 (P13.out.below (put6 HB.out HP.out)).x) (fun hHeld => ?_)
          clear hK K
          refine wpAnyH_take (i := 14) (oi := b14) (v := ?_) rfl (by kernel_rfl) (by kernel_rfl) (by kernel_rfl) (fun _ _ _ h => h) (Or.inl ⟨by kernel_rfl, ?_⟩) hHeld ?_
          rotate_left
          · intro w hS; clear hS; unfold b14; go_simp; try with_reducible rfl
          simp only [pS, s0, sS, b14]
          refine wpAnyH_done (by kernel_rfl) ?_ _
          go_wp2
          go_meet
          exact ⟨rfl, put6 HB.out HP.out⟩
         ·
          go_simp
          try go_wp2_with (fail)
          have hB := HB.out.alloc HB.out.size (.cells #[.string N2, .string V2, .bool nv] 34)
          have hX := Blk.new wr214 34 [.string N2, .string V2, .bool nv]
          have HD : Hid ((Value.slice (Ar215) (3) cr216).ownBlock ≠ some wr214.heap.size) := fun e => by have := (HE.out.lt _ e).2; omega
          have hE := own_below HE.out (below_al (Below.refl wr214.heap.size wr214) (.cells #[.string N2, .string V2, .bool nv] 34))
          have hM := HM.out.below (below_al (Below.refl wr214.heap.size wr214) (.cells #[.string N2, .string V2, .bool nv] 34)) HM.out.lt
          generalize (wr214.alloc (.cells #[.string N2, .string V2, .bool nv] 34)) = wr226 at hB hX hE hM ⊢
          clear HB HE HM
          have HB := Lib.hid hB
          have HX := Lib.hid hX
          have HE := Lib.hid hE
          have HM := Lib.hid hM
          clear hB hX hE hM
          clear hHeld
          refine hK.out _ _ (cells3 (P13.out.below HB.out).x) (fun hHeld => ?_)
          clear hK K
          try simp only [pS, s0, sS]
          refine one_ (i := 4) (by kernel_rfl) rfl (fun K hK => ?_)
          refine step_append_rd rfl (.tmp 53) (.tmp 54) 22 rfl EF (.slice (Ar215) (3) cr216) (3) (fcellsL (top T)) rfl HE.out Af m cf (fcellsL (F)) rfl (P13.out.below HB.out).o (fcells_one _) (by omega) (by unfold maxLen; omega) HB.out.size ?_
          intro Ar228 cr229 wr227 hE hf h2
          rw [← fcellsL_append] at hE
          have hB := app_below HB.out HE.out hf
          have hX := HX.out.fr hf (fun e => HD.out e.symm)
          have HD2 : Hid ((Value.slice Ar228 (3 + m) cr229).ownBlock ≠ some wr214.heap.size) := fun e => by
            rcases h2 with h | h
            · exact HD.out (h ▸ e)
            · have := HX.out.lt; have e2 := h.symm.trans e; simp at e2; omega
          clear HD
          have HD := HD2
          clear HD2
          have hM := HM.out.fr hf (fun e => own_ne_blk HE.out HM.out (by decide) e.symm)
          clear hf h2
          clear HB HE HX HM
          have HB := Lib.hid hB
          have HE := Lib.hid hE
          have HX := Lib.hid hX
          have HM := Lib.hid hM
          clear hB hE hX hM
          clear hHeld
          refine hK.out _ _ (cells3 (P13.out.below HB.out).x) (fun hHeld => ?_)
          clear hK K
          try simp only [pS, s0, sS]
          refine one_ (i := 7) (by kernel_rfl) rfl (fun K hK => ?_)
          refine step_append_rd rfl (.tmp 55) (.tmp 57) 22 rfl EF (.slice (Ar228) (3 + m) cr229) (3 + m) (fcellsL (top T ++ F)) rfl HE.out (some ⟨wr214.heap.size, 0, none⟩) 1 1 (fcellsL ([⟨N2, V2, nv⟩])) rfl (rd_one (f := ⟨N2, V2, nv⟩) HX.out) (fcells_one _) (by omega) (by unfold maxLen; omega) HB.out.size ?_
          intro Ar231 cr232 wr230 hE hf h2
          rw [← fcellsL_append] at hE
          have hB := app_below HB.out HE.out hf
          clear HX HD
          have hM := HM.out.fr hf (fun e => own_ne_blk HE.out HM.out (by decide) e.symm)
          clear hf h2
          clear HB HE HM
          have HB := Lib.hid hB
          have HE := Lib.hid hE
          have HM := Lib.hid hM
          clear hB hE hM
          clear hHeld
          refine hK.out _ _ (cells3 (P13.out.below HB.out).x) (fun hHeld => ?_)
          clear hK K
          try simp only [pS, s0, sS]
          refine one_ (i := 8) (by kernel_rfl) rfl (fun K hK => ?_)
          go_simp
          go_wp2_with (first
            | (go_at_call 14; (with_reducible refine (HQC.out _ _ _ cr232 (Rd.of_own HE.out) (by omega)).mono ?_); rintro e wr233 ⟨rfl, hb⟩
               have hB := HB.out.trans (hb.mono HB.out.size)
               have hM := HM.out.below hb HM.out.lt
               clear hb
               clear HB HM HE
               have HB := Lib.hid hB
               have HM := Lib.hid hM
               clear hB hM))
          clear hHeld
          refine hK.out _ _ (cells3 (P13.out.below HB.out).x) (fun hHeld => ?_)
          clear hK K
          try simp only [pS, s0, sS]
          refine wpAnyH_take (i := 9) (oi := b9) (v := ?_) rfl (by kernel_rfl) (by kernel_rfl) (by kernel_rfl) (fun _ _ _ h => h) (Or.inl ⟨by kernel_rfl, ?_⟩) hHeld ?_
          rotate_left
          · intro w hS; clear hS; unfold b9; go_simp; try with_reducible rfl
          simp only [pS, s0, sS, b9]
          refine wpAnyH_take (i := 10) (oi := b10) (v := ?_) rfl (by kernel_rfl) (by kernel_rfl) (by kernel_rfl) (fun _ _ _ h => h) (Or.inl ⟨by kernel_rfl, ?_⟩) hHeld ?_
          rotate_left
          · intro w hS; clear hS; unfold b10; go_simp; try with_reducible rfl
          simp only [pS, s0, sS, b10]
          refine wpAnyH_take (i := 11) (oi := b11) (v := ?_) rfl (by kernel_rfl) (by kernel_rfl) (by kernel_rfl) (fun _ _ _ h => h) (Or.inl ⟨by kernel_rfl, ?_⟩) hHeld ?_
          rotate_left
          · intro w hS; clear hS; unfold b11; go_simp; try with_reducible rfl
          simp only [pS, s0, sS, b11]
          refine one_ (i := 13) (by kernel_rfl) rfl (fun K hK => ?_)
          obtain ⟨x0, x1, x2, x3, x4, x5⟩ := cells6 HM.out
          have fx := HM.out.frozen
          go_simp
          go_wp2_with (fail)
          clear x0 x1 x2 x3 x4 x5 fx HM
          clear hHeld
          refine hK.out _ _ (cells3 (P13.out.below (put6 HB.out HP.out)).x) (fun hHeld => ?_)
          clear hK K
          refine wpAnyH_take (i := 14) (oi := b14) (v := ?_) rfl (by kernel_rfl) (by kernel_rfl) (by kernel_rfl) (fun _ _ _ h => h) (Or.inl ⟨by kernel_rfl, ?_⟩) hHeld ?_
          rotate_left
          · intro w hS; clear hS; unfold b14; go_simp; try with_reducible rfl
          simp only [pS, s0, sS, b14]
          refine wpAnyH_done (by kernel_rfl) ?_ _
          go_wp2
          go_meet
          exact ⟨rfl, put6 HB.out HP.out⟩
        ·
         go_simp
         try go_wp2_with (fail)
         have hB := HB.out.alloc HB.out.size (.cells #[.string N2, .string V2, .bool nv] 34)
         have hX := Blk.new wr213 34 [.string N2, .string V2, .bool nv]
         have HD : Hid ((Value.slice (some ⟨wr212.heap.size, 0, none⟩) (0) 0).ownBlock ≠ some wr213.heap.size) := fun e => by have := (HE.out.lt _ e).2; omega
         have hE := own_below HE.out (below_al (Below.refl wr213.heap.size wr213) (.cells #[.string N2, .string V2, .bool nv] 34))
         have hM := HM.out.below (below_al (Below.refl wr213.heap.size wr213) (.cells #[.string N2, .string V2, .bool nv] 34)) HM.out.lt
         generalize (wr213.alloc (.cells #[.string N2, .string V2, .bool nv] 34)) = wr235 at hB hX hE hM ⊢
         clear HB HE HM
         have HB := Lib.hid hB
         have HX := Lib.hid hX
         have HE := Lib.hid hE
         have HM := Lib.hid hM
         clear hB hX hE hM
         clear hHeld
         refine hK.out _ _ (cells3 (P13.out.below HB.out).x) (fun hHeld => ?_)
         clear hK K
         try simp only [pS, s0, sS]
         refine one_ (i := 2) (by kernel_rfl) rfl (fun K hK => ?_)
         refine step_append_rd rfl (.tmp 51) (.tmp 52) 22 rfl EF (.slice (some ⟨wr212.heap.size, 0, none⟩) (0) 0) (0) [] rfl HE.out A6 3 c6 (fcellsL (top T)) rfl (P13.out.below HB.out).t (fcells_one _) (by omega) (by unfold maxLen; omega) HB.out.size ?_
         intro Ar237 cr238 wr236 hE hf h2
         simp only [Nat.zero_add, List.nil_append] at hE h2 ⊢
         have hB := app_below HB.out HE.out hf
         have hX := HX.out.fr hf (fun e => HD.out e.symm)
         have HD2 : Hid ((Value.slice Ar237 (3) cr238).ownBlock ≠ some wr213.heap.size) := fun e => by
           rcases h2 with h | h
           · exact HD.out (h ▸ e)
           · have := HX.out.lt; have e2 := h.symm.trans e; simp at e2; omega
         clear HD
         have HD := HD2
         clear HD2
         have hM := HM.out.fr hf (fun e => own_ne_blk HE.out HM.out (by decide) e.symm)
         clear hf h2
         clear HB HE HX HM
         have HB := Lib.hid hB
         have HE := Lib.hid hE
         have HX := Lib.hid hX
         have HM := Lib.hid hM
         clear hB hE hX hM
         clear hHeld
         refine hK.out _ _ (cells3 (P13.out.below HB.out).x) (fun hHeld => ?_)
         clear hK K
         try simp only [pS, s0, sS]
         refine one_ (i := 4) (by kernel_rfl) rfl (fun K hK => ?_)
         refine step_append_rd rfl (.tmp 53) (.tmp 54) 22 rfl EF (.slice (Ar237) (3) cr238) (3) (fcellsL (top T)) rfl HE.out Af m cf (fcellsL (F)) rfl (P13.out.below HB.out).o (fcells_one _) (by omega) (by unfold maxLen; omega) HB.out.size ?_
         intro Ar240 cr241 wr239 hE hf h2
         rw [← fcellsL_append] at hE
         have hB := app_below HB.out HE.out hf
         have hX := HX.out.fr hf (fun e => HD.out e.symm)
         have HD2 : Hid ((Value.slice Ar240 (3 + m) cr241).ownBlock ≠ some wr213.heap.size) := fun e => by
           rcases h2 with h | h
           · exact HD.out (h ▸ e)
           · have := HX.out.lt; have e2 := h.symm.trans e; simp at e2; omega
         clear HD
         have HD := HD2
         clear HD2
         have hM := HM.out.fr hf (fun e => own_ne_blk HE.out HM.out (by decide) e.symm)
         clear hf h2
         clear HB HE HX HM
         have HB := Lib.hid hB
         have HE := Lib.hid hE
         have HX := Lib.hid hX
         have HM := Lib.hid hM
         clear hB hE hX hM
         clear hHeld
         refine hK.out _ _ (cells3 (P13.out.below HB.out).x) (fun hHeld => ?_)
         clear hK K
         try simp only [pS, s0, sS]
         refine one_ (i := 7) (by kernel_rfl) rfl (fun K hK => ?_)
         refine step_append_rd rfl (.tmp 55) (.tmp 57) 22 rfl EF (.slice (Ar240) (3 + m) cr241) (3 + m) (fcellsL (top T ++ F)) rfl HE.out (some ⟨wr213.heap.size, 0, none⟩) 1 1 (fcellsL ([⟨N2, V2, nv⟩])) rfl (rd_one (f := ⟨N2, V2, nv⟩) HX.out) (fcells_one _) (by omega) (by unfold maxLen; omega) HB.out.size ?_
         intro Ar243 cr244 wr242 hE hf h2
         rw [← fcellsL_append] at hE
         have hB := app_below HB.out HE.out hf
         clear HX HD
         have hM := HM.out.fr hf (fun e => own_ne_blk HE.out HM.out (by decide) e.symm)
         clear hf h2
         clear HB HE HM
         have HB := Lib.hid hB
         have HE := Lib.hid hE
         have HM := Lib.hid hM
         clear hB hE hM
         clear hHeld
         refine hK.out _ _ (cells3 (P13.out.below HB.out).x) (fun hHeld => ?_)
         clear hK K
         try simp only [pS, s0, sS]
         refine one_ (i := 8) (by kernel_rfl) rfl (fun K hK => ?_)
         go_simp
         go_wp2_with (first
           | (go_at_call 14; (with_reducible refine (HQC.out _ _ _ cr244 (Rd.of_own HE.out) (by omega)).mono ?_); rintro e wr245 ⟨rfl, hb⟩
              have hB := HB.out.trans (hb.mono HB.out.size)
              have hM := HM.out.below hb HM.out.lt
              clear hb
              clear HB HM HE
              have HB := Lib.hid hB
              have HM := Lib.hid hM
              clear hB hM))
         clear hHeld
         refine hK.out _ _ (cells3 (P13.out.below HB.out).x) (fun hHeld => ?_)
         clear hK K
         try simp only [pS, s0, sS]
         refine wpAnyH_take (i := 9) (oi := b9) (v := ?_) rfl (by kernel_rfl) (by kernel_rfl) (by kernel_rfl) (fun _ _ _ h => h) (Or.inl ⟨by kernel_rfl, ?_⟩) hHeld ?_
         rotate_left
         · intro w hS; clear hS; unfold b9; go_simp; try with_reducible rfl
         simp only [pS, s0, sS, b9]
         refine wpAnyH_take (i := 10) (oi := b10) (v := ?_) rfl (by kernel_rfl) (by kernel_rfl) (by kernel_rfl) (fun _ _ _ h => h) (Or.inl ⟨by kernel_rfl, ?_⟩) hHeld ?_
         rotate_left
         · intro w hS; clear hS; unfold b10; go_simp; try with_reducible rfl
         simp only [pS, s0, sS, b10]
         refine wpAnyH_take (i := 11) (oi := b11) (v := ?_) rfl (by kernel_rfl) (by kernel_rfl) (by kernel_rfl) (fun _ _ _ h => h) (Or.inl ⟨by kernel_rfl, ?_⟩) hHeld ?_
         rotate_left
         · intro w hS; clear hS; unfold b11; go_simp; try with_reducible rfl
         simp only [pS, s0, sS, b11]
         refine one_ (i := 13) (by kernel_rfl) rfl (fun K hK => ?_)
         obtain ⟨x0, x1, x2, x3, x4, x5⟩ := cells6 HM.out
         have fx := HM.out.frozen
         go_simp
         go_wp2_with (fail)
         clear x0 x1 x2 x3 x4 x5 fx HM
         clear hHeld
         refine hK.out _ _ (cells3 (P13.out.below (put6 HB.out HP.out)).x) (fun hHeld => ?_)
         clear hK K
         refine wpAnyH_take (i := 14) (oi := b14) (v := ?_) rfl (by kernel_rfl) (by kernel_rfl) (by kernel_rfl) (fun _ _ _ h => h) (Or.inl ⟨by kernel_rfl, ?_⟩) hHeld ?_
         rotate_left
         · intro w hS; clear hS; unfold b14; go_simp; try with_reducible rfl
         simp only [pS, s0, sS, b14]
         refine wpAnyH_done (by kernel_rfl) ?_ _
         go_wp2
         go_meet
         exact ⟨rfl, put6 HB.out HP.out⟩
       ·
        go_simp
        try go_wp2_with (fail)
        have hB := HB.out.alloc HB.out.size (.cells #[.string N2, .string V2, .bool nv] 34)
        have hX := Blk.new wr212 34 [.string N2, .string V2, .bool nv]
        have hM := HM.out.below (below_al (Below.refl wr212.heap.size wr212) (.cells #[.string N2, .string V2, .bool nv] 34)) HM.out.lt
        generalize (wr212.alloc (.cells #[.string N2, .string V2, .bool nv] 34)) = wr247 at hB hX hM ⊢
        clear HB HM
        have HB := Lib.hid hB
        have HX := Lib.hid hX
        have HM := Lib.hid hM
        clear hB hX hM
        clear hHeld
        refine hK.out _ _ (cells3 (P13.out.below HB.out).x) (fun hHeld => ?_)
        clear hK K
        try simp only [pS, s0, sS]
        refine one_ (i := 0) (by kernel_rfl) rfl (fun K hK => ?_)
        go_simp
        try go_wp2_with (fail)
        have hB := HB.out.alloc HB.out.size (.cells #[] 34)
        have hE := own_lower (own_empty wr247) HB.out.size
        have HD : Hid ((Value.slice (some ⟨wr247.heap.size, 0, none⟩) 0 0).ownBlock ≠ some wr212.heap.size) := fun e => by have := HX.out.lt; simp [Value.ownBlock] at e; omega
        have hX := HX.out.below (below_al (Below.refl wr247.heap.size wr247) (.cells #[] 34)) HX.out.lt
        have hM := HM.out.below (below_al (Below.refl wr247.heap.size wr247) (.cells #[] 34)) HM.out.lt
        generalize (wr247.alloc (.cells #[] 34)) = wr248 at hB hE hX hM ⊢
        clear HB HX HM
        have HB := Lib.hid hB
        have HE := Lib.hid hE
        have HX := Lib.hid hX
        have HM := Lib.hid hM
        clear hB hE hX hM
        clear hHeld
        refine hK.out _ _ (cells3 (P13.out.below HB.out).x) (fun hHeld => ?_)
        clear hK K
        try simp only [pS, s0, sS]
        refine one_ (i := 2) (by kernel_rfl) rfl (fun K hK => ?_)
        refine step_append_rd rfl (.tmp 51) (.tmp 52) 22 rfl EF (.slice (some ⟨wr247.heap.size, 0, none⟩) (0) 0) (0) [] rfl HE.out A6 3 c6 (fcellsL (top T)) rfl (P13.out.below HB.out).t (fcells_one _) (by omega) (by unfold maxLen; omega) HB.out.size ?_
        intro Ar250 cr251 wr249 hE hf h2
        simp only [Nat.zero_add, List.nil_append] at hE h2 ⊢
        have hB := app_below HB.out HE.out hf
        have hX := HX.out.fr hf (fun e => HD.out e.symm)
        have HD2 : Hid ((Value.slice Ar250 (3) cr251).ownBlock ≠ some wr212.heap.size) := fun e => by
          rcases h2 with h | h
          · exact HD.out (h ▸ e)
          · have := HX.out.lt; have e2 := h.symm.trans e; simp at e2; omega
        clear HD
        have HD := HD2
        clear HD2
        have hM := HM.out.fr hf (fun e => own_ne_blk HE.out HM.out (by decide) e.symm)
        clear hf h2
        clear HB HE HX HM
        have HB := Lib.hid hB
        have HE := Lib.hid hE
        have HX := Lib.hid hX
        have HM := Lib.hid hM
        clear hB hE hX hM
        clear hHeld
        refine hK.out _ _ (cells3 (P13.out.below HB.out).x) (fun hHeld => ?_)
        clear hK K
        try simp only [pS, s0, sS]
        refine one_ (i := 4) (by kernel_rfl) rfl (fun K hK => ?_)
        refine step_append_rd rfl (.tmp 53) (.tmp 54) 22 rfl EF (.slice (Ar250) (3) cr251) (3) (fcellsL (top T)) rfl HE.out Af m cf (fcellsL (F)) rfl (P13.out.below HB.out).o (fcells_one _) (by omega) (by unfold maxLen; omega) HB.out.size ?_
        intro Ar253 cr254 wr252 hE hf h2
        rw [← fcellsL_append] at hE
        have hB := app_below HB.out HE.out hf
        have hX := HX.out.fr hf (fun e => HD.out e.symm)
        have HD2 : Hid ((Value.slice Ar253 (3 + m) cr254).ownBlock ≠ some wr212.heap.size) := fun e => by
          rcases h2 with h | h
          · exact HD.out (h ▸ e)
          · have := HX.out.lt; have e2 := h.symm.trans e; simp at e2; omega
        clear HD
        have HD := HD2
        clear HD2
        have hM := HM.out.fr hf (fun e => own_ne_blk HE.out HM.out (by decide) e.symm)
        clear hf h2
        clear HB HE HX HM
        have HB := Lib.hid hB
        have HE := Lib.hid hE
        have HX := Lib.hid hX
        have HM := Lib.hid hM
        clear hB hE hX hM
        clear hHeld
        refine hK.out _ _ (cells3 (P13.out.below HB.out).x) (fun hHeld => ?_)
        clear hK K
        try simp only [pS, s0, sS]
        refine one_ (i := 7) (by kernel_rfl) rfl (fun K hK => ?_)
        refine step_append_rd rfl (.tmp 55) (.tmp 57) 22 rfl EF (.slice (Ar253) (3 + m) cr254) (3 + m) (fcellsL (top T ++ F)) rfl HE.out (some ⟨wr212.heap.size, 0, none⟩) 1 1 (fcellsL ([⟨N2, V2, nv⟩])) rfl (rd_one (f := ⟨N2, V2, nv⟩) HX.out) (fcells_one _) (by omega) (by unfold maxLen; omega) HB.out.size ?_
        intro Ar256 cr257 wr255 hE hf h2
        rw [← fcellsL_append] at hE
        have hB := app_below HB.out HE.out hf
        clear HX HD
        have hM := HM.out.fr hf (fun e => own_ne_blk HE.out HM.out (by decide) e.symm)
        clear hf h2
        clear HB HE HM
        have HB := Lib.hid hB
        have HE := Lib.hid hE
        have HM := Lib.hid hM
        clear hB hE hM
        clear hHeld
        refine hK.out _ _ (cells3 (P13.out.below HB.out).x) (fun hHeld => ?_)
        clear hK K
        try simp only [pS, s0, sS]
        refine one_ (i := 8) (by kernel_rfl) rfl (fun K hK => ?_)
        go_simp
        go_wp2_with (first
          | (go_at_call 14; (with_reducible refine (HQC.out _ _ _ cr257 (Rd.of_own HE.out) (by omega)).mono ?_); rintro e wr258 ⟨rfl, hb⟩
             have hB := HB.out.trans (hb.mono HB.out.size)
             have hM := HM.out.below hb HM.out.lt
             clear hb
             clear HB HM HE
             have HB := Lib.hid hB
             have HM := Lib.hid hM
             clear hB hM))
        clear hHeld
        refine hK.out _ _ (cells3 (P13.out.below HB.out).x) (fun hHeld => ?_)
        clear hK K
        try simp only [pS, s0, sS]
        refine wpAnyH_take (i := 9) (oi := b9) (v := ?_) rfl (by kernel_rfl) (by kernel_rfl) (by kernel_rfl) (fun _ _ _ h => h) (Or.inl ⟨by kernel_rfl, ?_⟩) hHeld ?_
        rotate_left
        · intro w hS; clear hS; unfold b9; go_simp; try with_reducible rfl
        simp only [pS, s0, sS, b9]
        refine wpAnyH_take (i := 10) (oi := b10) (v := ?_) rfl (by kernel_rfl) (by kernel_rfl) (by kernel_rfl) (fun _ _ _ h => h) (Or.inl ⟨by kernel_rfl, ?_⟩) hHeld ?_
        rotate_left
        · intro w hS; clear hS; unfold b10; go_simp; try with_reducible rfl
        simp only [pS, s0, sS, b10]
        refine wpAnyH_take (i := 11) (oi := b11) (v := ?_) rfl (by kernel_rfl) (by kernel_rfl) (by kernel_rfl) (fun _ _ _ h => h) (Or.inl ⟨by kernel_rfl, ?_⟩) hHeld ?_
        rotate_left
        · intro w hS; clear hS; unfold b11; go_simp; try with_reducible rfl
        simp only [pS, s0, sS, b11]
        refine one_ (i := 13) (by kernel_rfl) rfl (fun K hK => ?_)
        obtain ⟨x0, x1, x2, x3, x4, x5⟩ := cells6 HM.out
        have fx := HM.out.frozen
        go_simp
        go_wp2_with (fail)
        clear x0 x1 x2 x3 x4 x5 fx HM
        clear hHeld
        refine hK.out _ _ (cells3 (P13.out.below (put6 HB.out HP.out)).x) (fun hHeld => ?_)
        clear hK K
        refine wpAnyH_take (i := 14) (oi := b14) (v := ?_) rfl (by kernel_rfl) (by kernel_rfl) (by kernel_rfl) (fun _ _ _ h => h) (Or.inl ⟨by kernel_rfl, ?_⟩) hHeld ?_
        rotate_left
        · intro w hS; clear hS; unfold b14; go_simp; try with_reducible rfl
        simp only [pS, s0, sS, b14]
        refine wpAnyH_done (by kernel_rfl) ?_ _
        go_wp2
        go_meet
        exact ⟨rfl, put6 HB.out HP.out⟩
    case rest =>
      obtain ⟨rfl, hb⟩ := hcut
      rename World => w14
      have P15 := Lib.hid (P13.out.below hb)
      clear hb P13 HQC
      obtain ⟨y0, y1, y2⟩ := cells3 P15.out.x
      obtain ⟨bcl, hbcl⟩ : ∃ b, decide (N2 = nCL) = b := ⟨_, rfl⟩
      have eN : (N2.toList == [99, 111, 110, 116, 101, 110, 116, 45, 108, 101, 110, 103, 116, 104]) = bcl := (eqL N2 _).trans hbcl
      have h0 := emp N2
      obtain ⟨z0, hz0⟩ : ∃ b, decide (N2.size = 0) = b := ⟨_, rfl⟩
      rw [hz0] at h0
      cases z0
      · have hpos : 0 < N2.size := by have := of_decide_eq_false hz0; omega
        have hs0 := sAt N2 0 hpos
        have hps := psd_at (f := ⟨N2, V2, nv⟩) hpos
        simp only at hps
        obtain ⟨x, hx⟩ : ∃ x, x = N2.data.toList.getD 0 0 := ⟨_, rfl⟩
        rw [← hx] at hs0 hps
        obtain ⟨q, hq⟩ : ∃ q, x.toNat = q := ⟨_, rfl⟩
        rw [hq] at hps
        clear hx
        obtain ⟨b58, hb58⟩ : ∃ b, decide (q = 58) = b := ⟨_, rfl⟩
        have f58 : ((q : Int) == 58) = b58 := by rw [← hb58, Bool.eq_iff_iff]; simp <;> omega
        rw [hb58] at hps
        clear hb58
        cases bcl
        · have hne := of_decide_eq_false hbcl
          clear hbcl
          cases b58
          · have HE := Lib.hid (HPL.out hps hne)
            clear hne hps
            go_wp2
            all_goals
              go_ret
              refine ⟨ret_bool ?_, P15.out.b⟩
              have he := HE.out
              clear HE HPL HAN
              cases qa <;> cases qb <;> cases qc <;> first | rfl | contradiction | exact absurd he (by decide)
          · have HE := HAN
            clear hne hps
            go_wp2
            all_goals
              go_ret
              refine ⟨ret_bool ?_, P15.out.b⟩
              have he := HE.out
              clear HE HPL HAN
              cases qa <;> cases qb <;> cases qc <;> first | rfl | contradiction | exact absurd he (by decide)
        · have HE := HAN
          clear hbcl hps
          go_wp2
          all_goals
            go_ret
            refine ⟨ret_bool ?_, P15.out.b⟩
            have he := HE.out
            clear HE HPL HAN
            cases qa <;> cases qb <;> cases qc <;> first | rfl | contradiction | exact absurd he (by decide)
      · have hps := psd_zero (f := ⟨N2, V2, nv⟩) (of_decide_eq_true hz0)
        cases bcl
        · have hne := of_decide_eq_false hbcl
          have HE := Lib.hid (HPL.out hps hne)
          clear hne hps hbcl
          go_wp2
          all_goals
            go_ret
            refine ⟨ret_bool ?_, P15.out.b⟩
            have he := HE.out
            clear HE HPL HAN
            cases qa <;> cases qb <;> cases qc <;> first | rfl | contradiction | exact absurd he (by decide)
        · have HE := HAN
          clear hbcl hps
          go_wp2
          all_goals
            go_ret
            refine ⟨ret_bool ?_, P15.out.b⟩
            have he := HE.out
            clear HE HPL HAN
            cases qa <;> cases qb <;> cases qc <;> first | rfl | contradiction | exact absurd he (by decide)
end Go.Proofs.YtilabahcngjflaaDoor
