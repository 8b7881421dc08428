/- HpackJoins, the walk: whatever the two lists, true. -/
import Derived.Test.YtinieljgcenemaaDoorG8
namespace Go.Proofs.YtinieljgcenemaaDoor
open Go.RowKit Go.Own Go.Tbl Go.Huf Go.Hin
set_option linter.unusedVariables false
set_option maxRecDepth 100000
attribute [local go_sem ↓] Go.wp_at_zero Go.wp_at_succ

set_option maxHeartbeats 8000000 in
theorem lawJoins {w : World} (m : Int) (hm : i64 m) {A1 A2 : Option Addr} {n1 c1 n2 c2 : Nat} {la lb : List Fld} (ha : FldsIn w A1 n1 c1 la) (hb : FldsIn w A2 n2 c2 lb) (hC : Cnt w) :
    Calls Tryd.prog 6 #[.int .i64 m, .slice A1 n1 c1, .slice A2 n2 c2] w fun e w' => e = .returned (.bool true) ∧ Below w.heap.size w w' := by
  obtain ⟨h, hh⟩ : ∃ h, clampI m = h := ⟨_, rfl⟩
  have hh2 : h ≤ 65536 := hh ▸ clampI_le m
  have hOk := ok_new h hh2
  obtain ⟨X, hX⟩ : ∃ X, (manyE statL h [] (smallL la)).1 = X := ⟨_, rfl⟩
  obtain ⟨l1, hl1⟩ : ∃ l1, (manyE statL h [] (smallL la)).2 = l1 := ⟨_, rfl⟩
  obtain ⟨Y, hY⟩ : ∃ Y, (manyE statL h l1 (smallL lb)).1 = Y := ⟨_, rfl⟩
  obtain ⟨l2, hl2⟩ : ∃ l2, (manyE statL h l1 (smallL lb)).2 = l2 := ⟨_, rfl⟩
  have e1 : blockE statL h [] none (smallL la) = (X, h, l1) := by rw [blockE, updsE]; dsimp only; rw [hX, hl1, List.nil_append]
  have e2 : blockE statL h l1 none (smallL lb) = (Y, h, l2) := by rw [blockE, updsE]; dsimp only; rw [hY, hl2, List.nil_append]
  have e3 : blockE statL h [] none (smallL la ++ smallL lb) = (X ++ Y, h, l2) := by rw [blockE, updsE, manyE_append]; dsimp only; rw [hX, hl1, hY, hl2, List.nil_append]
  have hOk1 : Ok statL h l1 := hl1 ▸ Ok.many _ _ hOk
  have b1 : X.length ≤ 1048576 := by
    have := manyE_len (M := 400) (by omega) (smallL la) [] hOk (smallL_sz la)
    rw [hX] at this
    have := smallL_len la
    omega
  have b2 : Y.length ≤ 1048576 := by
    have := manyE_len (M := 400) (by omega) (smallL lb) l1 hOk1 (smallL_sz lb)
    rw [hY] at this
    have := smallL_len lb
    omega
  obtain ⟨N1, hN1⟩ : ∃ N1, X.length = N1 := ⟨_, rfl⟩
  obtain ⟨N2, hN2⟩ : ∃ N2, Y.length = N2 := ⟨_, rfl⟩
  obtain ⟨N3, hN3⟩ : ∃ N3, (X ++ Y).length = N3 := ⟨_, rfl⟩
  have b3 : N3 ≤ 2097152 := by rw [← hN3, List.length_append]; omega
  rw [hN1] at b1
  rw [hN2] at b2
  obtain ⟨TX, hTX⟩ : ∃ T, ofB X = T := ⟨_, rfl⟩
  obtain ⟨TY, hTY⟩ : ∃ T, ofB Y = T := ⟨_, rfl⟩
  obtain ⟨TZ, hTZ⟩ : ∃ T, ofB (X ++ Y) = T := ⟨_, rfl⟩
  have hcat : TX ++ TY = TZ := ofB_cat hTX hTY hTZ
  have hsx : TX.size ≤ 1048576 := by rw [← hTX, ofB_size]; omega
  have hsy : TY.size ≤ 1048576 := by rw [← hTY, ofB_size]; omega
  obtain ⟨z2, hz2⟩ : ∃ z, szs l2 = z := ⟨_, rfl⟩
  have Ha := Lib.hid ha
  have Hb := Lib.hid hb
  have HC := Lib.hid hC
  have Hm := Lib.hid hm
  have Hh := Lib.hid hh
  have E1 := Lib.hid e1
  have E2 := Lib.hid e2
  have E3 := Lib.hid e3
  have HN1 := Lib.hid hN1
  have HN2 := Lib.hid hN2
  have HN3 := Lib.hid hN3
  have HTX := Lib.hid hTX
  have HTY := Lib.hid hTY
  have HTZ := Lib.hid hTZ
  have HZ2 := Lib.hid hz2
  clear ha hb hC hm hh e1 e2 e3 hN1 hN2 hN3 hTX hTY hTZ hX hY hl1 hl2 hOk hOk1 hz2
  go_enter Tryd.func6, Tryd.ntmps6
  go_wp2_with (first
    | (go_at_call 12; (with_reducible refine (shown5 _ HC.out).mono ?_); rintro e w1 ⟨rfl, hb1⟩
       have S1 : Hid (St NoS w w1 []) := (St.nil NoS w).next hb1
       clear hb1)
    | (go_at_call 13; (with_reducible refine (lNewE S2.out m Hm.out h Hh.out).mono ?_); rintro e w3 ⟨q, rfl, s3⟩
       have S3 : Hid (St NoS w w3 [PEo p h [] none, PEo q h [] none]) := s3
       clear s3)
    | (go_at_call 13; (with_reducible refine (lNewE S1.out m Hm.out h Hh.out).mono ?_); rintro e w2 ⟨p, rfl, s2⟩
       have S2 : Hid (St NoS w w2 [PEo p h [] none]) := s2
       clear s2)
    | (go_at_call 17; (with_reducible refine (lSmall S4.out Hb.out.rd Hb.out.len (Nat.le_trans Hb.out.nc Hb.out.cm) Hb.out.ok).mono ?_); rintro e w5 ⟨A5, m5, c5, rfl, hm5, s5⟩
       have hm5l := small_len hm5
       have M5 := Lib.hid hm5
       have S5 : Hid (St NoS w w5 [PEo p h [] none, PEo q h [] none, FSo w.heap.size A4 c4 m4 (smallL la), FSo w.heap.size A5 c5 m5 (smallL lb)]) := s5
       clear s5 hm5)
    | (go_at_call 17; (with_reducible refine (lSmall S3.out Ha.out.rd Ha.out.len (Nat.le_trans Ha.out.nc Ha.out.cm) Ha.out.ok).mono ?_); rintro e w4 ⟨A4, m4, c4, rfl, hm4, s4⟩
       have hm4l := small_len hm4
       have M4 := Lib.hid hm4
       have S4 : Hid (St NoS w w4 [PEo p h [] none, PEo q h [] none, FSo w.heap.size A4 c4 m4 (smallL la)]) := s4
       clear s4 hm4)
    | (go_at_call 18; (with_reducible refine (lEncode1 S9.out HC.out (List.Mem.tail _ (List.Mem.tail _ (List.Mem.tail _ (List.Mem.head _)))) M9.out (by omega) HBG.out (X ++ Y) h l2 E3.out N3 HN3.out (by omega)).mono ?_); rintro e wa ⟨Aa, ca, rfl, sa⟩
       have qa := cv5 (w0 := w) (sa.own5) TZ HTZ.out
       have Sa : Hid (St NoS w wa [PEo p h l2 none, PEo q h l2 none, FSo w.heap.size A4 c4 m4 (smallL la), FSo w.heap.size A5 c5 m5 (smallL lb), FSo w.heap.size A9 c9 (m4 + m5) (smallL la ++ smallL lb), BSo w.heap.size Aa ca N3 (X ++ Y)]) := sa
       clear sa)
    | (go_at_call 18; (with_reducible refine (lEncode0 S6.out HC.out (List.Mem.tail _ (List.Mem.tail _ (List.Mem.head _))) M5.out (by omega) (small_big lb) Y h l2 E2.out N2 HN2.out (by omega)).mono ?_); rintro e w7 ⟨A7, c7, rfl, s7⟩
       have q7 := cv5 (w0 := w) (s7.own4) TY HTY.out
       have S7 : Hid (St NoS w w7 [PEo p h l2 none, PEo q h [] none, FSo w.heap.size A4 c4 m4 (smallL la), FSo w.heap.size A5 c5 m5 (smallL lb)]) := s7.drop4
       have S7e : Hid (St NoS w (w7.alloc (.cells #[] 38)) [PEo p h l2 none, PEo q h [] none, FSo w.heap.size A4 c4 m4 (smallL la), FSo w.heap.size A5 c5 m5 (smallL lb), FSo w.heap.size (some ⟨w7.heap.size, 0, none⟩) 0 0 []]) := st_empty S7.out
       clear s7)
    | (go_at_call 18; (with_reducible refine (lEncode0 S5.out HC.out (List.Mem.tail _ (List.Mem.head _)) M4.out (by omega) (small_big la) X h l1 E1.out N1 HN1.out (by omega)).mono ?_); rintro e w6 ⟨A6, c6, rfl, s6⟩
       have q6 := cv5 (w0 := w) (s6.own4) TX HTX.out
       have S6 : Hid (St NoS w w6 [PEo p h l1 none, PEo q h [] none, FSo w.heap.size A4 c4 m4 (smallL la), FSo w.heap.size A5 c5 m5 (smallL lb)]) := s6.drop4
       clear s6)
    | (at_builtin
       refine wpList_append_rd rfl (.tmp 41) (.tmp 42) 28 rfl EF (.slice A8 m4 c8) m4 (fcellsL (smallL la)) rfl S8.out.own4 A5 m5 c5 (fcellsL (smallL lb)) rfl (Rd.of_own S8.out.own3) (fcells_one _) (by omega) (by unfold maxLen; omega) S8.out.size ?_
       intro A9 c9 w9 ho9 hf9 h29
       rw [← fcellsL_append] at ho9
       have s9 := S8.out.appended4 ho9 hf9 h29
       have S9 : Hid (St NoS w w9 [PEo p h l2 none, PEo q h [] none, FSo w.heap.size A4 c4 m4 (smallL la), FSo w.heap.size A5 c5 m5 (smallL lb), FSo w.heap.size A9 c9 (m4 + m5) (smallL la ++ smallL lb)]) := s9
       have M9 : Hid ((smallL la ++ smallL lb).length = m4 + m5) := by rw [List.length_append, M4.out, M5.out]; exact rfl
       have HBG : Hid (∀ f ∈ smallL la ++ smallL lb, f.n.size ≤ 16777216 ∧ f.v.size ≤ 16777216) := fun f hf => (List.mem_append.1 hf).elim (small_big la f) (small_big lb f)
       clear ho9 hf9 h29 s9)
    | (at_builtin
       refine wpList_append_rd rfl (.tmp 37) (.tmp 38) 28 rfl EF (.slice (some ⟨w7.heap.size, 0, none⟩) 0 0) 0 (fcellsL []) rfl S7e.out.own4 A4 m4 c4 (fcellsL (smallL la)) rfl (Rd.of_own S7e.out.own2) (fcells_one _) (by omega) (by unfold maxLen; omega) S7e.out.size ?_
       intro A8 c8 w8 ho8 hf8 h28
       have s8 := S7e.out.appended4 ho8 hf8 h28
       rw [Nat.zero_add] at s8
       have S8 : Hid (St NoS w w8 [PEo p h l2 none, PEo q h [] none, FSo w.heap.size A4 c4 m4 (smallL la), FSo w.heap.size A5 c5 m5 (smallL lb), FSo w.heap.size A8 c8 m4 (smallL la)]) := s8
       clear ho8 hf8 h28 s8))
  have Hbl := Lib.hid Sa.out.below
  clear S1 S2 S3 S4 S5 S6 S7 S7e S8 S9 q6 q7 qa
  go_quiet (first
    | (go_at_call 21; exact Calls.quiet_of_same (lSizeE0 (Sa.out.drewN _) z2 HZ2.out))
    | (go_at_call 21; exact Calls.quiet_of_same (lSizeE1 (Sa.out.drewN _) z2 HZ2.out)))
  go_wp2
  go_ret
  exact ⟨rfl, below_drewN Hbl.out nq⟩
end Go.Proofs.YtinieljgcenemaaDoor
