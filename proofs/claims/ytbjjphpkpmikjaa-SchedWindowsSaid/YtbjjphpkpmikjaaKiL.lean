/- Stage 11: a stream is taken out of the queue, and served: the program's takeOut and serve. -/
import Derived.Test.YtbjjphpkpmikjaaKiK
namespace Go.Proofs.Ytbjjphpkpmikjaa
open Go.RowKit Go.Own Go.Sch
set_option linter.unusedVariables false
set_option linter.unusedSimpArgs false
set_option maxRecDepth 100000
theorem sizeS : (Try.prog.info? 63).map (·.size) = some 4 := by kernel_rfl
theorem zeroS (w : World) : (zeroValue 63).run Try.prog w = .ok (.agg #[.int .i64 0, .int .i64 0, .int .i64 0, .bool false]) w := by kernel_rfl
section
variable {S : Nat → Prop} {w0 w : World} {L : List Ob} {p : Nat} {fs : List (List UInt8)} {q : List Fl} {W : Int} {F : Nat} {cv qv cv0 qv0 : Value} {C : List (Value × List UInt8)} {r : Nat} {t : TypeId} {cs : List Value}
theorem boxSee (s : St S w0 w (SdM p cv0 qv0 cv qv C q W F (L ++ [BLo r t cs]))) : Blk w r t cs := St.blk (SdM p cv0 qv0 cv qv C q W F L) [] s
theorem boxDrop {O : Ob} (s : St S w0 w (SdM p cv0 qv0 cv qv C q W F (L ++ [O]))) : St S w0 w (SdM p cv0 qv0 cv qv C q W F L) := by
  have h := St.drop (SdM p cv0 qv0 cv qv C q W F L) O [] s
  simpa using h
theorem boxSet (s : St S w0 w (SdM p cv0 qv0 cv qv C q W F (L ++ [BLo r t cs]))) (i : Nat) (u : Value) : St S w0 (w.setCell ⟨r, i, none⟩ u) (SdM p cv0 qv0 cv qv C q W F (L ++ [BLo r t (cs.set i u)])) := St.set_ (SdM p cv0 qv0 cv qv C q W F L) [] s i u
theorem boxNew (s : St S w0 w (SdM p cv0 qv0 cv qv C q W F L)) (t : TypeId) (cs : List Value) : St S w0 (w.alloc (.cells cs.toArray t)) (SdM p cv0 qv0 cv qv C q W F (L ++ [BLo w.heap.size t cs])) := St.block s t cs
/-- the program's queue without one, all that is wanted of it -/
theorem take_st {g o c n : Nat} {a b : List Fl} {f : Fl} (s : St S w0 w (SdM p cv0 qv0 cv (.slice (some ⟨g, o, none⟩) (n + 1) c) C (a ++ f :: b) W F L)) (hn : (a ++ b).length = n) (hc : n + 1 ≤ c) :
    ∃ W1 W2, (∀ ty dC sC, (Builtin.copy_ #[58, 58] ty #[.slice (some ⟨g, if c = 1 then o else o + 4, none⟩) a.length dC, .slice (some ⟨g, o, none⟩) a.length sC]).run Try.prog w = .ok (goInt (a.length : Nat)) W1) ∧
      (∀ ty cC, (Builtin.clear_ #[58] ty #[.slice (some ⟨g, o, none⟩) 1 cC]).run Try.prog W1 = .ok (.tuple #[]) W2) ∧ W2.heap.size = w.heap.size ∧
      St S w0 W2 (SdM p cv0 qv0 cv (.slice (some ⟨g, if c = 1 then o else o + 4, none⟩) n (c - 1)) C (a ++ b) W F L) := by
  have hl : (a ++ f :: b).length = n + 1 := by rw [← hn]; simp; omega
  obtain ⟨X, h, _, _, go⟩ := St.focus2 s
  rw [hl] at h
  obtain ⟨_, _, _, _, _, _, _, _, rfl⟩ := h.blk
  obtain ⟨W1, W2, h1, h2, h3, h4, h5, h6, h7⟩ := Qu.out (P := Try.prog) h Try.underlying58 sizeS zeroS rfl (by intro v hv; simp [Value.cells] at hv; rcases hv with rfl | rfl | rfl | rfl <;> rfl) a.length (by rw [← hn]; simp) w (fun _ h => h)
  refine ⟨W1, W2, h1, h2, h7, ?_⟩
  rw [fcellsQ_split] at h5
  have := go W2 (QO 63 4 (.slice (some ⟨g, if c = 1 then o else o + 4, none⟩) n (c - 1)) (a ++ b).length (fcellsQ (a ++ b))) [] (St.changed (framed_QO ..) (by rw [hn]; exact h5) (fun i hi => .inl hi) (h3.trans h4 (fun _ _ h => h)))
  rwa [List.append_nil] at this
set_option maxHeartbeats 8000000 in
theorem takeS_c {g o c n k : Nat} {a b : List Fl} {f : Fl} (s : St S w0 w (SdM p cv0 qv0 cv (.slice (some ⟨g, o, none⟩) (n + 1) c) C (a ++ f :: b) W F L)) (hn : (a ++ b).length = n) (hk : a.length = k) (hc : n + 1 ≤ c) (hc2 : c ≤ maxLen) (fi fa : Nat) (fw : Int) (fe : Bool) (hf : f = ⟨fi, fw, fa, fe⟩) :
    Calls Try.prog 32 #[.slice (some ⟨g, o, none⟩) (n + 1) c, .int .i64 (k : Int)] w fun e w' => ∃ o', e = .returned (.tuple #[.agg #[.int .i64 (fi : Int), .int .i64 fw, .int .i64 (fa : Int), .bool fe], .slice (some ⟨g, o', none⟩) n (c - 1)]) ∧
      St S w0 w' (SdM p cv0 qv0 cv (.slice (some ⟨g, o', none⟩) n (c - 1)) C (a ++ b) W F L) := by
  have hl : (a ++ f :: b).length = n + 1 := by rw [← hn]; simp; omega
  have sf : St S w0 w (SdM p cv0 qv0 cv (.slice (some ⟨g, o, none⟩) (a ++ f :: b).length c) C (a ++ f :: b) W F L) := by rw [hl]; exact s
  have cell4 : g < w.heap.size ∧ w.cell? ⟨g, o + k * 4, none⟩ = some (.int .i64 (fi : Int)) ∧ w.cell? ⟨g, o + k * 4 + 1, none⟩ = some (.int .i64 fw) ∧ w.cell? ⟨g, o + k * 4 + 2, none⟩ = some (.int .i64 (fa : Int)) ∧ w.cell? ⟨g, o + k * 4 + 3, none⟩ = some (.bool fe) := by
    obtain ⟨X, h, _⟩ := St.focus2 sf
    have at_ : ∀ j u, j < 4 → (fcell f)[j]? = some u → w.cell? ⟨g, o + k * 4 + j, none⟩ = some u ∧ g < w.heap.size := by
      intro j u hj hu
      have := h.at_ (j := a.length * 4 + j) (u := u) (by rw [fcellsQ_at _ _ _ _ hj]; exact hu)
      rw [Nat.add_assoc, ← hk]
      exact this
    subst hf
    exact ⟨(at_ 0 _ (by omega) rfl).2, (at_ 0 _ (by omega) rfl).1, (at_ 1 _ (by omega) rfl).1, (at_ 2 _ (by omega) rfl).1, (at_ 3 _ (by omega) rfl).1⟩
  obtain ⟨gl, c0, c1, c2, c3⟩ := cell4
  clear sf
  -- the two boxes
  obtain ⟨r, hr⟩ : ∃ r, w.heap.size = r := ⟨_, rfl⟩
  have s2 : St S w0 ((w.alloc (.cells #[.int .i64 0, .int .i64 0, .int .i64 0, .bool false] 63)).alloc (.cells #[.int .i64 (fi : Int), .int .i64 fw, .int .i64 (fa : Int), .bool fe] 63)) (SdM p cv0 qv0 cv (.slice (some ⟨g, o, none⟩) (n + 1) c) C (a ++ f :: b) W F (L ++ [BLo r 63 [.int .i64 0, .int .i64 0, .int .i64 0, .bool false]] ++ [BLo (r + 1) 63 [.int .i64 (fi : Int), .int .i64 fw, .int .i64 (fa : Int), .bool fe]])) := by
    have h1 := boxNew s 63 [.int .i64 0, .int .i64 0, .int .i64 0, .bool false]
    have h2 := boxNew h1 63 [.int .i64 (fi : Int), .int .i64 fw, .int .i64 (fa : Int), .bool fe]
    simp only [World.size_alloc, hr] at h2
    exact h2
  obtain ⟨W1, W2, hcp, hcl, hsz, s4⟩ := take_st s2.drew hn hc
  rw [hk] at hcp
  have b6 := boxSee s4
  have s5 := boxDrop s4
  have b4 := boxSee s5
  obtain ⟨o', ho'⟩ : ∃ o', (if c = 1 then o else o + 4) = o' := ⟨_, rfl⟩
  rw [ho'] at hcp s4 s5
  have d0 := b6.cell 0
  have d1 := b6.cell 1
  have d2 := b6.cell 2
  have d3 := b6.cell 3
  have y0 := b4.cell 0
  have y1 := b4.cell 1
  have y2 := b4.cell 2
  have y3 := b4.cell 3
  simp only [List.getElem?_cons_zero, List.getElem?_cons_succ] at d0 d1 d2 d3 y0 y1 y2 y3
  have df := b4.frozen
  have dl := b4.lt
  have dl6 := b6.lt
  have sfin : St S w0 ((((W2.drew.setCell ⟨r, 0, none⟩ (.int .i64 (fi : Int))).setCell ⟨r, 1, none⟩ (.int .i64 fw)).setCell ⟨r, 2, none⟩ (.int .i64 (fa : Int))).setCell ⟨r, 3, none⟩ (.bool fe)) (SdM p cv0 qv0 cv (.slice (some ⟨g, o', none⟩) n (c - 1)) C (a ++ b) W F (L ++ [BLo r 63 [.int .i64 (fi : Int), .int .i64 fw, .int .i64 (fa : Int), .bool fe]])) := boxSet (boxSet (boxSet (boxSet s5.drew 0 (.int .i64 (fi : Int))) 1 (.int .i64 fw)) 2 (.int .i64 (fa : Int))) 3 (.bool fe)
  have HF := Lib.hid sfin
  have Hcp := Lib.hid hcp
  have Hcl := Lib.hid hcl
  have HR := Lib.hid hr
  have hkn : k < n + 1 := by rw [← hk, ← hn]; simp; omega
  have hkc : (k : Int) + 1 ≤ (c : Int) := by omega
  have hkc2 : k ≤ c := by omega
  have hkw : IntKind.i64.wrap ((k : Int) + 1) = (k : Int) + 1 := w64 (by omega) (by unfold maxLen at hc2; omega)
  have hc63 : c ≤ 9223372036854775807 := by unfold maxLen at hc2; omega
  have hw1 : (0 : Int) ≤ (k : Int) + 1 := by omega
  have hlu : (1 : Int) ≤ (n : Int) + 1 := by omega
  have hw2 : (1 : Int) ≤ (k : Int) + 1 := by omega
  have hcc : (c = 1 ∧ o' = o) ∨ (¬ c = 1 ∧ o' = o + 4) := by
    rw [← ho']
    by_cases h : c = 1
    · exact .inl ⟨h, if_pos h⟩
    · exact .inr ⟨h, if_neg h⟩
  clear s s2 s4 s5 b6 b4 hcp hcl sfin hr hn hk hl hf hc2 ho'
  rcases hcc with ⟨rfl, rfl⟩ | ⟨hc1, rfl⟩
  · obtain rfl : n = 0 := by omega
    obtain rfl : k = 0 := by omega
    simp only [Nat.zero_mul, Nat.add_zero] at c0 c1 c2 c3
    have hwr : IntKind.i64.wrap 1 = 1 := by decide
    go_enter Try.func32, Try.ntmps32
    go_wp2
    go_region_law (refine step_copy_run rfl (.tmp 14) (.tmp 17) 58 58 rfl _ _ (by simp [Act.eval, Act.put]) (by simp [Act.eval, Act.put]) (Hcp.out _ 0 1) ?_)
    clear c0 c1 c2 c3 gl
    rw [HR.out]
    go_wp2_with (first
      | (refine wpList_clear_run rfl (.tmp 20) 58 rfl _ rfl (Hcl.out _ 1) ?_))
    go_region_with (fail)
    all_goals (try go_wp2)
    all_goals refine bodyPost_ret (v := .tuple #[.agg #[.int .i64 (fi : Int), .int .i64 fw, .int .i64 (fa : Int), .bool fe], .slice (some ⟨g, o', none⟩) 0 0]) (by simp [results, Try.results32, go_sem, df, dl, y0, y1, y2, y3]) rfl ⟨_, rfl, boxDrop HF.out⟩
  · skip
    go_enter Try.func32, Try.ntmps32
    go_wp2
    go_region_law (refine step_copy_run rfl (.tmp 14) (.tmp 17) 58 58 rfl _ _ (by simp [Act.eval, Act.put]) (by simp [Act.eval, Act.put]) (Hcp.out _ (c - 1) c) ?_)
    clear c0 c1 c2 c3 gl
    rw [HR.out]
    go_wp2_with (first
      | (refine wpList_clear_run rfl (.tmp 20) 58 rfl _ rfl (Hcl.out _ c) ?_))
    go_region_with (fail)
    all_goals (try go_wp2)
    all_goals refine bodyPost_ret (v := .tuple #[.agg #[.int .i64 (fi : Int), .int .i64 fw, .int .i64 (fa : Int), .bool fe], .slice (some ⟨g, o + 4, none⟩) n (c - 1)]) (by simp [results, Try.results32, go_sem, df, dl, y0, y1, y2, y3]) rfl ⟨_, rfl, boxDrop HF.out⟩
end
end Go.Proofs.Ytbjjphpkpmikjaa
