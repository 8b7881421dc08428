/- Stage 11: a stream is served: the program's serve. -/
import Derived.Test.YtbjjphpkpmikjaaKiL
namespace Go.Proofs.Ytbjjphpkpmikjaa
open Go.RowKit Go.Own Go.Sch
set_option linter.unusedVariables false
set_option linter.unusedSimpArgs false
set_option maxRecDepth 100000
abbrev pieceV (cv : Value) (id n : Int) (e : Bool) : Value := .agg #[cv, .int .i64 id, .int .i64 n, .bool e]
def ServeP (S : Nat → Prop) (w0 : World) (p : Nat) (cv : Value) (C : List (Value × List UInt8)) (L : List Ob) (F : Nat) (a b : List Fl) (fi an : Nat) (fe : Bool) (wx Wx : Int) (n : Nat) (e : Ending) (w' : World) : Prop :=
  ∃ z q', e = .returned (pieceV (.slice none 0 0) (fi : Int) (n : Int) z) ∧
      ((fe = true ∧ an = 0 ∧ z = true ∧ q' = a ++ b) ∨ (¬ (fe = true ∧ an = 0) ∧ z = false ∧ q' = a ++ b ++ [⟨fi, wx, an, fe⟩])) ∧ ∃ qv', St S w0 w' (SdL p cv qv' C q' Wx F L)
section
variable {S : Nat → Prop} {w0 w : World} {L : List Ob} {p : Nat} {fs : List (List UInt8)} {q : List Fl} {W : Int} {F : Nat} {cv qv cv0 qv0 : Value} {C : List (Value × List UInt8)} {r : Nat} {t : TypeId} {cs : List Value}
theorem pSet1 (s : St S w0 w (SdM p cv0 qv0 cv qv C q W F L)) (u : Value) : St S w0 (w.setCell ⟨p, 1, none⟩ u) (SdM p cv0 u cv qv C q W F L) := St.set0 s 1 u
theorem pSetW (s : St S w0 w (SdM p cv0 qv0 cv qv C q W F L)) (x : Int) : St S w0 (w.setCell ⟨p, 2, none⟩ (.int .i64 x)) (SdM p cv0 qv0 cv qv C q x F L) := St.set0 s 2 (.int .i64 x)
theorem see_m (s : St S w0 w (SdM p cv0 qv0 cv qv C q W F L)) : p < w.heap.size ∧ w.cell? ⟨p, 0, none⟩ = some cv0 ∧ w.cell? ⟨p, 1, none⟩ = some qv0 ∧ w.cell? ⟨p, 2, none⟩ = some (.int .i64 W) ∧ w.cell? ⟨p, 3, none⟩ = some (.int .i64 (F : Int)) ∧ ∀ i, w.frozen? ⟨p, i, none⟩ = false := by
  have hb : Blk w p _ _ := St.blk0 s
  exact ⟨hb.lt, hb.cell 0, hb.cell 1, hb.cell 2, hb.cell 3, hb.frozen⟩
/-- the box behind, ahead of another one -/
theorem boxSee1 {O : Ob} (s : St S w0 w (SdM p cv0 qv0 cv qv C q W F (L ++ [BLo r t cs] ++ [O]))) : Blk w r t cs := boxSee (boxDrop s)
theorem box4 {O : Ob} {a b c d : Value} (s : St S w0 w (SdM p cv0 qv0 cv qv C q W F (L ++ [BLo r t [a, b, c, d]] ++ [O]))) (a' b' c' d' : Value) :
    St S w0 ((((w.setCell ⟨r, 0, none⟩ a').setCell ⟨r, 1, none⟩ b').setCell ⟨r, 2, none⟩ c').setCell ⟨r, 3, none⟩ d') (SdM p cv0 qv0 cv qv C q W F L) := by
  have h : St S w0 w (SdM p cv0 qv0 cv qv C q W F L ++ BLo r t [a, b, c, d] :: [O]) := by
    have e : (L ++ [BLo r t [a, b, c, d]] ++ [O]) = L ++ BLo r t [a, b, c, d] :: [O] := by simp
    rw [e] at s
    exact s
  have h1 := St.set_ _ _ (St.set_ _ _ (St.set_ _ _ (St.set_ _ _ h 0 a') 1 b') 2 c') 3 d'
  have h2 := St.drop _ _ _ h1
  exact boxDrop (O := O) h2
set_option maxHeartbeats 16000000 in
/-- to the end's test -/
theorem serve_c {a b : List Fl} {f : Fl} (s : St S w0 w (SdL p cv qv C q W F L)) (hb : q.length ≤ 1000) (hq : q = a ++ f :: b) (k : Nat) (hk : a.length = k) (fi fa : Nat) (fw : Int) (fe : Bool) (hf : f = ⟨fi, fw, fa, fe⟩) (n : Nat) (hn : n ≤ fa) (h1 : fa ≤ 2147483647) (h2 : -2147483647 ≤ fw) (h3 : fw ≤ 2147483647) (h4 : -2147483647 ≤ W) (h5 : W ≤ 2147483647) (an : Nat) (wx Wx : Int) (han : fa - n = an) (hwx : fw - (n : Int) = wx) (hWx : W - (n : Int) = Wx) :
    Calls Try.prog 31 #[.pointer (some ⟨p, 0, none⟩), .int .i64 (k : Int), .int .i64 (n : Int)] w (ServeP S w0 p cv C L F a b fi an fe wx Wx n) := by
  obtain ⟨m, hm⟩ : ∃ m, (a ++ b).length = m := ⟨_, rfl⟩
  have hlq : q.length = m + 1 := by rw [hq, ← hm]; simp; omega
  obtain ⟨g, o, c, rfl, hc1, hc2⟩ := see_v s (by omega)
  rw [hlq] at hc1 s
  have s' : St S w0 w (SdM p cv (.slice (some ⟨g, o, none⟩) (m + 1) c) cv (.slice (some ⟨g, o, none⟩) (m + 1) c) C (a ++ f :: b) W F L) := by
    rw [← hq]; exact s
  obtain ⟨hl, z0, z1, z2, z3, _⟩ := see_m s'
  obtain ⟨r, hr⟩ : ∃ r, w.heap.size = r := ⟨_, rfl⟩
  have s2 : St S w0 ((w.alloc (.cells #[.slice none 0 0, .int .i64 0, .int .i64 0, .bool false] 35)).alloc (.cells #[.int .i64 0, .int .i64 0, .int .i64 0, .bool false] 63)) (SdM p cv (.slice (some ⟨g, o, none⟩) (m + 1) c) cv (.slice (some ⟨g, o, none⟩) (m + 1) c) C (a ++ f :: b) W F (L ++ [BLo r 35 [.slice none 0 0, .int .i64 0, .int .i64 0, .bool false]] ++ [BLo (r + 1) 63 [.int .i64 0, .int .i64 0, .int .i64 0, .bool false]])) := by
    have h1 := boxNew s' 35 [.slice none 0 0, .int .i64 0, .int .i64 0, .bool false]
    have h2 := boxNew h1 63 [.int .i64 0, .int .i64 0, .int .i64 0, .bool false]
    simp only [World.size_alloc, hr] at h2
    exact h2
  have HT := Lib.hid (takeS_c s2 hm hk hc1 hc2 fi fa fw fe hf)
  have HR := Lib.hid hr
  have HM := Lib.hid hm
  have HL : Hid (m ≤ 1000) := by unfold Hid; omega
  have hpr : p ≠ r := by omega
  have hpr1 : p ≠ r + 1 := by omega
  have HH := Lib.hid (show n ≤ fa ∧ fa ≤ 2147483647 ∧ -2147483647 ≤ fw ∧ fw ≤ 2147483647 ∧ -2147483647 ≤ W ∧ W ≤ 2147483647 ∧ fa - n = an ∧ fw - (n : Int) = wx ∧ W - (n : Int) = Wx from ⟨hn, h1, h2, h3, h4, h5, han, hwx, hWx⟩)
  clear s s' s2 hq hf hk hm hr hc1 hc2 hlq hn h1 h2 h3 h4 h5 han hwx hWx
  go_enter Try.func31, Try.ntmps31
  go_upto_region 2 with (fail)
  rw [HR.out]
  go_upto_region 3 with (first
    | (go_at_call 32; (with_reducible refine HT.out.mono ?_); rintro e w3 ⟨o', rfl, s3⟩
       have b6 := boxSee1 s3
       have b7 := boxSee s3
       obtain ⟨hl3, x0, x1, x2, x3, xf⟩ := see_m s3
       have xf1 := xf 1
       have d0 := b7.cell 0
       have d1 := b7.cell 1
       have d2 := b7.cell 2
       have d3 := b7.cell 3
       simp only [List.getElem?_cons_zero, List.getElem?_cons_succ] at d0 d1 d2 d3
       have dl := b7.lt
       have df := b7.frozen
       have H4 := Lib.hid (pSet1 (boxSet (boxSet (boxSet (boxSet s3 0 (.int .i64 (fi : Int))) 1 (.int .i64 fw)) 2 (.int .i64 (fa : Int))) 3 (.bool fe)) (.slice (some ⟨g, o', none⟩) m (c - 1)))
       clear s3 b6 b7 xf z0 z1 z2 z3 hl))
  obtain ⟨W4, hW4⟩ : ∃ W4, (((((w3.setCell ⟨r + 1, 0, none⟩ (.int .i64 (fi : Int))).setCell ⟨r + 1, 1, none⟩ (.int .i64 fw)).setCell ⟨r + 1, 2, none⟩ (.int .i64 (fa : Int))).setCell ⟨r + 1, 3, none⟩ (.bool fe)).setCell ⟨p, 1, none⟩ (.slice (some ⟨g, o', none⟩) m (c - 1))) = W4 := ⟨_, rfl⟩
  rw [hW4] at H4 ⊢
  clear d0 d1 d2 d3 dl df x0 x1 x2 x3 hl3 xf1 hW4
  obtain ⟨hn, h1, h2, h3, h4, h5, han, hwx, hWx⟩ := HH.out
  have e1 : IntKind.i64.wrap ((fa : Int) - (n : Int)) = (an : Int) := by rw [w64 (by omega) (by omega)]; omega
  have e2 : IntKind.i64.wrap (fw - (n : Int)) = wx := by rw [w64 (by omega) (by omega)]; omega
  have e3 : IntKind.i64.wrap (W - (n : Int)) = Wx := by rw [w64 (by omega) (by omega)]; omega
  have b7 := boxSee H4.out
  obtain ⟨hl3, x0, x1, x2, x3, xf⟩ := see_m H4.out
  have xf2 := xf 2
  have d0 := b7.cell 0
  have d1 := b7.cell 1
  have d2 := b7.cell 2
  have d3 := b7.cell 3
  simp only [List.set_cons_zero, List.set_cons_succ, List.getElem?_cons_zero, List.getElem?_cons_succ] at d0 d1 d2 d3
  have dl := b7.lt
  have df := b7.frozen
  have H5 := Lib.hid (pSetW (boxSet (boxSet H4.out 2 (.int .i64 (an : Int))) 1 (.int .i64 wx)) Wx)
  have hrp1 : ¬ r + 1 = p := fun h => hpr1 h.symm
  clear b7 xf H4 hn h1 h2 h3 h4 h5 HH han hwx hWx
  go_upto_region 6 with (fail)
  obtain ⟨W5, hW5⟩ : ∃ W5, (((W4.setCell ⟨r + 1, 2, none⟩ (.int .i64 (an : Int))).setCell ⟨r + 1, 1, none⟩ (.int .i64 wx)).setCell ⟨p, 2, none⟩ (.int .i64 Wx)) = W5 := ⟨_, rfl⟩
  rw [hW5] at H5 ⊢
  clear d0 d1 d2 d3 dl df x0 x1 x2 x3 hl3 xf2 hW5 e1 e2 e3
  have b7 := boxSee H5.out
  have b6 := boxSee1 H5.out
  obtain ⟨hl3, x0, x1, x2, x3, xf⟩ := see_m H5.out
  have xf1 := xf 1
  have d0 := b7.cell 0
  have d1 := b7.cell 1
  have d2 := b7.cell 2
  have d3 := b7.cell 3
  simp only [List.set_cons_zero, List.set_cons_succ, List.getElem?_cons_zero, List.getElem?_cons_succ] at d0 d1 d2 d3
  have dl := b7.lt
  have df := b7.frozen
  have y0 := b6.cell 0
  have y1 := b6.cell 1
  have y2 := b6.cell 2
  have y3 := b6.cell 3
  simp only [List.getElem?_cons_zero, List.getElem?_cons_succ] at y0 y1 y2 y3
  have yl := b6.lt
  have yf := b6.frozen
  have ways : (fe = true ∧ an = 0) ∨ (fe = false ∧ ¬ (fe = true ∧ an = 0)) ∨ (fe = true ∧ ((an : Int) == 0) = false ∧ ¬ (fe = true ∧ an = 0)) := by
    cases fe
    · exact .inr (.inl ⟨rfl, fun h => by cases h.1⟩)
    · rcases Nat.eq_zero_or_pos an with h | h
      · exact .inl ⟨rfl, h⟩
      · exact .inr (.inr ⟨rfl, by simp; omega, fun h2 => by omega⟩)
  clear b7 b6 xf
  rcases ways with ⟨rfl, rfl⟩ | ways
  · have H6 := Lib.hid (box4 H5.out (.slice none 0 0) (.int .i64 (fi : Int)) (.int .i64 (n : Int)) (.bool true))
    go_wp2
    refine bodyPost_ret (v := pieceV (.slice none 0 0) (fi : Int) (n : Int) true) (by simp [results, Try.results31, go_sem, y0, y1, y2, y3, yl, yf]) rfl ⟨true, a ++ b, rfl, .inl ⟨rfl, rfl, rfl, rfl⟩, (.slice (some ⟨g, o', none⟩) m (c - 1)), H6.out⟩
  · obtain ⟨A', c', w6, hrun, s6⟩ := append_q (s := (H5.out.alloc (.cells #[.int .i64 (fi : Int), .int .i64 wx, .int .i64 (an : Int), .bool fe] 63)).drew) ⟨fi, wx, an, fe⟩ (c := 1) (rd_new_f (W := W5) (f := ⟨fi, wx, an, fe⟩)) (by have := HM.out; have := HL.out; omega)
    rw [HM.out] at hrun s6
    have HRun := Lib.hid hrun
    have s7 := pSet1 s6 (.slice A' (m + 1) c')
    obtain ⟨W7, hW7⟩ : ∃ W7, w6.setCell ⟨p, 1, none⟩ (.slice A' (m + 1) c') = W7 := ⟨_, rfl⟩
    rw [hW7] at s7
    have H7 := Lib.hid s7
    have HW7 := Lib.hid hW7
    obtain ⟨hl6, v0, v1, v2, v3, vf⟩ := see_m s6
    have vf1 := vf 1
    have hfe : ¬ (fe = true ∧ an = 0) := by rcases ways with ⟨_, h⟩ | ⟨_, _, h⟩ <;> exact h
    have HFE := Lib.hid hfe
    have H8 := Lib.hid (box4 H7.out (.slice none 0 0) (.int .i64 (fi : Int)) (.int .i64 (n : Int)) (.bool false))
    clear s6 s7 hW7 hrun vf hfe
    have key : (fe = false ∧ ¬ (fe = true ∧ an = 0)) ∨ (fe = true ∧ ((an : Int) == 0) = false ∧ ¬ (fe = true ∧ an = 0)) := ways
    clear ways
    rcases key with ⟨rfl, hne⟩ | ⟨rfl, hz, hne⟩
    all_goals
      go_wp2
      go_region_law (refine step_app_run rfl (.tmp 52) (.tmp 54) 58 58 rfl _ _ (by simp [Act.eval, Act.put]) (by simp [Act.eval, Act.put]) HRun.out ?_)
      all_goals
        rw [HW7.out]
        clear d0 d1 d2 d3 dl df y0 y1 y2 y3 yl yf x0 x1 x2 x3 hl3 xf1 hl6 v0 v1 v2 v3 vf1 hne
        have b7 := boxSee H7.out
        have b6 := boxSee1 H7.out
        have d0 := b7.cell 0
        have y0 := b6.cell 0
        have y1 := b6.cell 1
        have y2 := b6.cell 2
        have y3 := b6.cell 3
        simp only [List.set_cons_zero, List.set_cons_succ, List.getElem?_cons_zero, List.getElem?_cons_succ] at d0 y0 y1 y2 y3
        have dl := b7.lt
        have yl := b6.lt
        have yf := b6.frozen
        clear b7 b6
        go_wp2
        refine bodyPost_ret (v := pieceV (.slice none 0 0) (fi : Int) (n : Int) false) (by simp [results, Try.results31, go_sem, y0, y1, y2, y3, yl, yf]) rfl ⟨false, _, rfl, .inr ⟨(by first | exact HFE.out | (have h := HFE.out; simpa using h) | simp), rfl, rfl⟩, (.slice A' (m + 1) c'), H8.out⟩
end
end Go.Proofs.Ytbjjphpkpmikjaa
