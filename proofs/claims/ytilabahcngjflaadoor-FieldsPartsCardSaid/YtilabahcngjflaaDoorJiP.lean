/- Stage 10: the first case holds (shown). -/
import Derived.Test.YtilabahcngjflaaDoorJiO
import Derived.Deep.Cut
import Derived.Deep.DeepCutAuto
namespace Go.Proofs.YtilabahcngjflaaDoor
open Go.RowKit Go.Own Go.Tbl Go.Fie
set_option linter.unusedVariables false
set_option linter.unusedSimpArgs false
set_option maxRecDepth 100000
abbrev sixV (M S A P : ByteArray) (st len : Int) : List Value := [.string M, .string S, .string A, .string P, .int .i64 st, .int .i64 len]
set_option maxHeartbeats 8000000 in
theorem shown_c (w : World) : Calls Tryd.prog 10 #[] w fun e w' => e = .returned (.bool true) ∧ Below w.heap.size w w' := by
  have G1 := Lib.hid (of_b (w := w) _ rfl [.string nMethod, .string nGet, .string nScheme, .string nHttp, .string nPath, .string nSlash] 6 6 3 getP rfl rfl rfl (by omega))
  go_enter Tryd.func10, Tryd.ntmps10
  go_wp2_with (first
    | (go_at_call 18; (with_reducible refine G1.out.mono ?_); rintro e w1 ⟨Ag, cg, rfl, ho1, hb1⟩
       have O1 := Lib.hid ho1
       have B1 := Lib.hid hb1
       have R1 := Lib.hid (req_get (c := cg) (Rd.of_own ho1))
       clear ho1 hb1 G1)
    | (go_at_call 14; (with_reducible refine R1.out.mono ?_); rintro e w2 ⟨rfl, hb2⟩
       have O2 := Lib.hid (own_below O1.out (below_al hb2 (.cells #[.string nGet, .string nHttp, .string nNone, .string nSlash, .int .i64 0, .int .i64 (-1)] 28)))
       have P2 := Lib.hid (Blk.new w2 28 [.string nGet, .string nHttp, .string nNone, .string nSlash, .int .i64 0, .int .i64 (-1)])
       have B2 := Lib.hid (below_al (B1.out.trans (hb2.mono B1.out.size)) (.cells #[.string nGet, .string nHttp, .string nNone, .string nSlash, .int .i64 0, .int .i64 (-1)] 28))
       have G2 := Lib.hid (of_b (w := w2.alloc (.cells #[.string nGet, .string nHttp, .string nNone, .string nSlash, .int .i64 0, .int .i64 (-1)] 28)) (w2.heap.size + 1) (by simp) [.string nHost, .string nX] 2 2 1 hostP rfl rfl rfl (by omega))
       clear hb2 R1 O1 B1)
    | (go_at_call 18; (with_reducible refine G2.out.mono ?_); rintro e w3 ⟨Ah, ch, rfl, ho3, hb3⟩
       have O3 := Lib.hid (own_below O2.out hb3)
       have H3 := Lib.hid (Rd.of_own ho3)
       have P3 := Lib.hid (P2.out.below hb3 P2.out.lt)
       have B3 := Lib.hid (B2.out.trans (hb3.mono B2.out.size))
       clear ho3 hb3 O2 P2 B2 G2)
    | (at_builtin
       refine wpList_append_keep rfl (.tmp 20) (.tmp 22) 22 rfl EF Ag 3 cg (fcellsL (getP.map mkF)) rfl O3.out Ah 1 ch (fcellsL (hostP.map mkF)) rfl H3.out (fcells_one _) (by omega) (by unfold maxLen; omega) B3.out.size ?_
       intro A4 c4 w4 ho4 hf4 ho24 hr4
       rw [← fcellsL_append] at ho4
       have T4 := Lib.hid hr4
       have R4 := Lib.hid (req_none (c := c4) (Rd.of_own ho4) (ok_of (by decide +kernel)) (by omega) q_host)
       have P4 := Lib.hid (P3.out.fr hf4 (fun h => own_ne_blk O3.out P3.out (by decide) h.symm))
       have B4 := Lib.hid (B3.out.trans (hf4.below B3.out.size (fun i hi h => (O3.out.lt i h.symm).1)))
       clear ho4 hf4 ho24 hr4 O3 H3 P3 B3)
    | (go_at_call 14; (with_reducible refine R4.out.mono ?_); rintro e w5 ⟨rfl, hb5⟩
       have T5 := Lib.hid (T4.out.below (below_al hb5 (.cells #[.string ⟨#[]⟩, .string ⟨#[]⟩, .string ⟨#[]⟩, .string ⟨#[]⟩, .int .i64 0, .int .i64 0] 28)))
       have P5 := Lib.hid (P4.out.below (below_al hb5 (.cells #[.string ⟨#[]⟩, .string ⟨#[]⟩, .string ⟨#[]⟩, .string ⟨#[]⟩, .int .i64 0, .int .i64 0] 28)) P4.out.lt)
       have B5 := Lib.hid (below_al (B4.out.trans (hb5.mono B4.out.size)) (.cells #[.string ⟨#[]⟩, .string ⟨#[]⟩, .string ⟨#[]⟩, .string ⟨#[]⟩, .int .i64 0, .int .i64 0] 28))
       have G5 := Lib.hid (of_b (w := w5.alloc (.cells #[.string ⟨#[]⟩, .string ⟨#[]⟩, .string ⟨#[]⟩, .string ⟨#[]⟩, .int .i64 0, .int .i64 0] 28)) (w5.heap.size + 1) (by simp) [.string nPath, .string nSlash, .string nA, .string nB, .string nMethod, .string nGet] 6 6 3 pathP rfl rfl rfl (by omega))
       clear hb5 R4 T4 P4 B4)
    | (go_at_call 18; (with_reducible refine G5.out.mono ?_); rintro e w6 ⟨A6, c6, rfl, ho6, hb6⟩
       have R6 := Lib.hid (req_none (c := c6) (Rd.of_own ho6) (ok_of (by decide +kernel)) (by omega) q_path)
       have T6 := Lib.hid (T5.out.below hb6)
       have P6 := Lib.hid (P5.out.below hb6 P5.out.lt)
       have B6 := Lib.hid (B5.out.trans (hb6.mono B5.out.size))
       clear ho6 hb6 T5 P5 B5 G5)
    | (go_at_call 14; (with_reducible refine R6.out.mono ?_); rintro e w7 ⟨rfl, hb7⟩
       have T7 := Lib.hid (T6.out.below (below_al hb7 (.cells #[.string ⟨#[]⟩, .string ⟨#[]⟩, .string ⟨#[]⟩, .string ⟨#[]⟩, .int .i64 0, .int .i64 0] 28)))
       have P7 := Lib.hid (P6.out.below (below_al hb7 (.cells #[.string ⟨#[]⟩, .string ⟨#[]⟩, .string ⟨#[]⟩, .string ⟨#[]⟩, .int .i64 0, .int .i64 0] 28)) P6.out.lt)
       have B7 := Lib.hid (below_al (B6.out.trans (hb7.mono B6.out.size)) (.cells #[.string ⟨#[]⟩, .string ⟨#[]⟩, .string ⟨#[]⟩, .string ⟨#[]⟩, .int .i64 0, .int .i64 0] 28))
       have G7 := Lib.hid (of_b (w := w7.alloc (.cells #[.string ⟨#[]⟩, .string ⟨#[]⟩, .string ⟨#[]⟩, .string ⟨#[]⟩, .int .i64 0, .int .i64 0] 28)) (w7.heap.size + 1) (by simp) [.string nStatus, .string n200, .string nCL, .string n5, .string nCL, .string n5] 6 6 3 fiveP rfl rfl rfl (by omega))
       clear hb7 R6 T6 P6 B6)
    | (go_at_call 18; (with_reducible refine G7.out.mono ?_); rintro e w8 ⟨A8, c8, rfl, ho8, hb8⟩
       have R8 := Lib.hid (resp_five (c := c8) (Rd.of_own ho8))
       have T8 := Lib.hid (T7.out.below hb8)
       have P8 := Lib.hid (P7.out.below hb8 P7.out.lt)
       have B8 := Lib.hid (B7.out.trans (hb8.mono B7.out.size))
       clear ho8 hb8 T7 P7 B7 G7)
    | (go_at_call 15; (with_reducible refine R8.out.mono ?_); rintro e w9 ⟨rfl, hb9⟩
       have T9 := Lib.hid (T8.out.below (below_al hb9 (.cells #[.string nNone, .string nNone, .string nNone, .string nNone, .int .i64 200, .int .i64 5] 28)))
       have P9 := Lib.hid (P8.out.below (below_al hb9 (.cells #[.string nNone, .string nNone, .string nNone, .string nNone, .int .i64 200, .int .i64 5] 28)) P8.out.lt)
       have N9 := Lib.hid (Blk.new w9 28 [.string nNone, .string nNone, .string nNone, .string nNone, .int .i64 200, .int .i64 5])
       have B9 := Lib.hid (below_al (B8.out.trans (hb9.mono B8.out.size)) (.cells #[.string nNone, .string nNone, .string nNone, .string nNone, .int .i64 200, .int .i64 5] 28))
       have G9 := Lib.hid (of_b (w := w9.alloc (.cells #[.string nNone, .string nNone, .string nNone, .string nNone, .int .i64 200, .int .i64 5] 28)) (w9.heap.size + 1) (by simp) [.string nStatus, .string n200, .string nCL, .string n5, .string nCL, .string n6] 6 6 3 sixP rfl rfl rfl (by omega))
       clear hb9 R8 T8 P8 B8)
    | (go_at_call 18; (with_reducible refine G9.out.mono ?_); rintro e w10 ⟨A10, c10, rfl, ho10, hb10⟩
       have R10 := Lib.hid (resp_none (c := c10) (Rd.of_own ho10) (ok_of (by decide +kernel)) (by omega) s_six)
       have T10 := Lib.hid (T9.out.below hb10)
       have P10 := Lib.hid (P9.out.below hb10 P9.out.lt)
       have N10 := Lib.hid (N9.out.below hb10 N9.out.lt)
       have B10 := Lib.hid (B9.out.trans (hb10.mono B9.out.size))
       clear ho10 hb10 T9 P9 N9 B9 G9)
    | (go_at_call 15; (with_reducible refine R10.out.mono ?_); rintro e w11 ⟨rfl, hb11⟩
       have T11 := Lib.hid (T10.out.below (below_al hb11 (.cells #[.string ⟨#[]⟩, .string ⟨#[]⟩, .string ⟨#[]⟩, .string ⟨#[]⟩, .int .i64 0, .int .i64 0] 28)))
       have p11 := P10.out.below (below_al hb11 (.cells #[.string ⟨#[]⟩, .string ⟨#[]⟩, .string ⟨#[]⟩, .string ⟨#[]⟩, .int .i64 0, .int .i64 0] 28)) P10.out.lt
       have n11 := N10.out.below (below_al hb11 (.cells #[.string ⟨#[]⟩, .string ⟨#[]⟩, .string ⟨#[]⟩, .string ⟨#[]⟩, .int .i64 0, .int .i64 0] 28)) N10.out.lt
       obtain ⟨x0, x1, x2, x3, x4, x5⟩ := cells6 p11
       obtain ⟨y0, y1, y2, y3, y4, y5⟩ := cells6 n11
       have B11 := Lib.hid (below_al (B10.out.trans (hb11.mono B10.out.size)) (.cells #[.string ⟨#[]⟩, .string ⟨#[]⟩, .string ⟨#[]⟩, .string ⟨#[]⟩, .int .i64 0, .int .i64 0] 28))
       have R11 := Lib.hid (trailers_c (w := w11.alloc (.cells #[.string ⟨#[]⟩, .string ⟨#[]⟩, .string ⟨#[]⟩, .string ⟨#[]⟩, .int .i64 0, .int .i64 0] 28)) (A := none) (n := 0) (c := 0) (l := []) (Rd.nil _ _ _) (fun f h => by cases h) (by omega))
       clear hb11 R10 T10 P10 N10 B10 p11 n11 x1 x2 x3 x4 y0 y1 y2 y3)
    | (go_at_call 16; (with_reducible refine R11.out.mono ?_); rintro e w12 ⟨rfl, hb12⟩
       have R12 := Lib.hid (size_c (c := cg) (T11.out.below hb12) (by omega) 123 (by decide +kernel) (by omega))
       have B12 := Lib.hid (B11.out.trans (hb12.mono B11.out.size))
       clear hb12 R11 T11 B11 x0 x5 y4 y5)
    | (go_at_call 17; (with_reducible refine R12.out.mono ?_); rintro e w13 ⟨rfl, hb13⟩
       have B13 := Lib.hid (B12.out.trans (hb13.mono B12.out.size))
       clear hb13 B12))
  go_ret
  exact ⟨rfl, B13.out⟩
end Go.Proofs.YtilabahcngjflaaDoor
