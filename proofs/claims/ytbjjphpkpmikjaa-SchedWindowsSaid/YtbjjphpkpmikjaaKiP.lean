/- Stage 11: the first control frame goes: the program's takeOut of frames, nextControl, Next. -/
import Derived.Test.YtbjjphpkpmikjaaKiO
namespace Go.Proofs.Ytbjjphpkpmikjaa
open Go.RowKit Go.Own Go.Sch
set_option linter.unusedVariables false
set_option linter.unusedSimpArgs false
set_option maxRecDepth 100000
theorem sizeBs : (Try.prog.info? 33).map (·.size) = some 1 := by kernel_rfl
theorem zeroBs (w : World) : (zeroValue 33).run Try.prog w = .ok (.slice none 0 0) w := by kernel_rfl
section
variable {S : Nat → Prop} {w0 w : World} {L : List Ob} {p : Nat} {fs : List (List UInt8)} {q : List Fl} {W : Int} {F : Nat} {cv qv cv0 qv0 : Value} {C : List (Value × List UInt8)} {r : Nat} {t : TypeId} {cs : List Value}
theorem behind {O : Ob} {P : List Ob} (X : Ob) : SdM p cv0 qv0 cv qv C q W F (L ++ [X] ++ [O]) = SdM p cv0 qv0 cv qv C q W F L ++ X :: [O] := by
  have e : (L ++ [X] ++ [O]) = L ++ X :: [O] := by simp
  rw [e]
  rfl
theorem boxSetO {O : Ob} (s : St S w0 w (SdM p cv0 qv0 cv qv C q W F (L ++ [BLo r t cs] ++ [O]))) (i : Nat) (u : Value) : St S w0 (w.setCell ⟨r, i, none⟩ u) (SdM p cv0 qv0 cv qv C q W F (L ++ [BLo r t (cs.set i u)] ++ [O])) := by
  rw [behind (P := [])] at s ⊢
  exact St.set_ _ _ s i u
theorem boxSeeO {O : Ob} (s : St S w0 w (SdM p cv0 qv0 cv qv C q W F (L ++ [BLo r t cs] ++ [O]))) : Blk w r t cs := by
  rw [behind (P := [])] at s
  exact St.blk _ _ s
theorem boxDropO {X O : Ob} (s : St S w0 w (SdM p cv0 qv0 cv qv C q W F (L ++ [X] ++ [O]))) : St S w0 w (SdM p cv0 qv0 cv qv C q W F (L ++ [O])) := by
  rw [behind (P := [])] at s
  exact St.drop _ _ _ s
theorem take_k {g o c n : Nat} {v : Value} {xs : List UInt8} (s : St S w0 w (SdM p cv0 qv0 (.slice (some ⟨g, o, none⟩) (n + 1) c) qv ((v, xs) :: C) q W F L)) (hn : C.length = n) (hc : n + 1 ≤ c) :
    ∃ W1 W2, (∀ ty dC sC, (Builtin.copy_ #[46, 46] ty #[.slice (some ⟨g, if c = 1 then o else o + 1, none⟩) 0 dC, .slice (some ⟨g, o, none⟩) 0 sC]).run Try.prog w = .ok (goInt ((0 : Nat) : Nat)) W1) ∧
      (∀ ty cC, (Builtin.clear_ #[46] ty #[.slice (some ⟨g, o, none⟩) 1 cC]).run Try.prog W1 = .ok (.tuple #[]) W2) ∧ W2.heap.size = w.heap.size ∧ w.cell? ⟨g, o, none⟩ = some v ∧ g < w.heap.size ∧
      St S w0 W2 (SdM p cv0 qv0 (.slice (some ⟨g, if c = 1 then o else o + 1, none⟩) n (c - 1)) qv C q W F (L ++ [frO (v, xs)])) := by
  have hl : ((v, xs) :: C).length = n + 1 := by rw [List.length_cons, hn]
  obtain ⟨X, h, _, _, go⟩ := St.focus1 s
  rw [hl] at h
  obtain ⟨_, _, _, _, _, _, _, _, rfl⟩ := h.blk
  have hc0 := h.at_ (j := 0) (u := v) rfl
  obtain ⟨W1, W2, h1, h2, h3, h4, h5, h6, h7⟩ := Qu.out (P := Try.prog) h Try.underlying46 sizeBs zeroBs rfl (by intro v hv; simp [Value.cells] at hv; rcases hv with rfl; rfl) 0 (Nat.zero_le _) w (fun _ h => h)
  refine ⟨W1, W2, h1, h2, h7, hc0.1, hc0.2, ?_⟩
  have h8 := go W2 (QO 33 1 (.slice (some ⟨g, if c = 1 then o else o + 1, none⟩) n (c - 1)) C.length (C.map Prod.fst)) [] (St.changed (framed_QO ..) (by rw [hn]; have h6 := h5; simp only [Nat.zero_mul, List.take_zero, List.nil_append, List.map_cons, Nat.zero_add, Nat.mul_one, List.drop_succ_cons, List.drop_zero] at h6; exact h6) (fun i hi => .inl hi) (h3.trans h4 (fun _ _ h => h)))
  rw [List.append_nil] at h8
  have h9 : St S w0 W2 ([BLo p 60 [cv0, qv0, .int .i64 W, .int .i64 (F : Int)], QO 33 1 (.slice (some ⟨g, if c = 1 then o else o + 1, none⟩) n (c - 1)) C.length (C.map Prod.fst), QO 63 4 qv q.length (fcellsQ q)] ++ (many (frO (v, xs) :: C.map frO) :: L)) := h8
  exact st_mid (sep_out (w := W2)) h9
set_option maxHeartbeats 8000000 in
theorem takeB_c {g o c n : Nat} {A : Option Addr} {m d : Nat} {xs : List UInt8} (s : St S w0 w (SdM p cv0 qv0 (.slice (some ⟨g, o, none⟩) (n + 1) c) qv ((.slice A m d, xs) :: C) q W F L)) (hn : C.length = n) (hc : n + 1 ≤ c) (hc2 : c ≤ maxLen) :
    Calls Try.prog 28 #[.slice (some ⟨g, o, none⟩) (n + 1) c, .int .i64 0] w fun e w' => ∃ o', e = .returned (.tuple #[.slice A m d, .slice (some ⟨g, o', none⟩) n (c - 1)]) ∧
      St S w0 w' (SdM p cv0 qv0 (.slice (some ⟨g, o', none⟩) n (c - 1)) qv C q W F (L ++ [frO (.slice A m d, xs)])) := by
  obtain ⟨W1, W2, hcp, hcl, hsz, c0, gl, s4⟩ := take_k s.drew hn hc
  have c0' : w.cell? ⟨g, o, none⟩ = some (.slice A m d) := c0
  have gl' : g < w.heap.size := gl
  obtain ⟨o', ho'⟩ : ∃ o', (if c = 1 then o else o + 1) = o' := ⟨_, rfl⟩
  rw [ho'] at hcp s4
  have HF := Lib.hid s4
  have Hcp := Lib.hid hcp
  have Hcl := Lib.hid hcl
  have hwr : IntKind.i64.wrap 1 = 1 := by decide
  have hlu : (1 : Int) ≤ (n : Int) + 1 := by omega
  have hc1 : (1 : Int) ≤ (c : Int) := by omega
  have hc3 : 1 ≤ c := by omega
  have hc63 : c ≤ 9223372036854775807 := by unfold maxLen at hc2; omega
  have hcc : (c = 1 ∧ o' = o) ∨ (¬ c = 1 ∧ o' = o + 1) := by
    rw [← ho']
    by_cases h : c = 1
    · exact .inl ⟨h, if_pos h⟩
    · exact .inr ⟨h, if_neg h⟩
  clear s s4 hcp hcl hn hc2 ho' c0 gl
  rcases hcc with ⟨rfl, rfl⟩ | ⟨hcn, rfl⟩
  · obtain rfl : n = 0 := by omega
    go_enter Try.func28, Try.ntmps28
    go_wp2
    go_region_law (refine step_copy_run rfl (.tmp 14) (.tmp 17) 46 46 rfl _ _ (by simp [Act.eval, Act.put]) (by simp [Act.eval, Act.put]) (Hcp.out _ 0 1) ?_)
    clear c0' gl'
    go_wp2_with (first
      | (refine wpList_clear_run rfl (.tmp 20) 46 rfl _ rfl (Hcl.out _ 1) ?_))
    refine wp_region_still_lit (by kernel_rfl) (by kernel_rfl) ?_
    iterate 5 still_step
    refine wpStill_nil ?_
    go_wp2
    refine bodyPost_ret (v := .tuple #[.slice A m d, .slice (some ⟨g, o', none⟩) 0 0]) (by simp [results, Try.results28, go_sem]) rfl ⟨_, rfl, HF.out.drew⟩
  · go_enter Try.func28, Try.ntmps28
    go_wp2
    go_region_law (refine step_copy_run rfl (.tmp 14) (.tmp 17) 46 46 rfl _ _ (by simp [Act.eval, Act.put]) (by simp [Act.eval, Act.put]) (Hcp.out _ (c - 1) c) ?_)
    clear c0' gl'
    go_wp2_with (first
      | (refine wpList_clear_run rfl (.tmp 20) 46 rfl _ rfl (Hcl.out _ c) ?_))
    refine wp_region_still_lit (by kernel_rfl) (by kernel_rfl) ?_
    iterate 5 still_step
    refine wpStill_nil ?_
    go_wp2
    refine bodyPost_ret (v := .tuple #[.slice A m d, .slice (some ⟨g, o + 1, none⟩) n (c - 1)]) (by simp [results, Try.results28, go_sem]) rfl ⟨_, rfl, HF.out.drew⟩
def NextC (S : Nat → Prop) (w0 : World) (p : Nat) (xs : List UInt8) (fs : List (List UInt8)) (L : List Ob) (q : List Fl) (W : Int) (F : Nat) (cap : Int) (e : Ending) (w' : World) : Prop :=
  (cap < (xs.length : Int) ∧ e = .returned (.tuple #[pieceV (.slice none 0 0) 0 0 false, .bool false]) ∧ St S w0 w' (SO p (xs :: fs) q W F :: L)) ∨
  ((xs.length : Int) ≤ cap ∧ ∃ A d, e = .returned (.tuple #[pieceV (.slice A xs.length d) 0 0 false, .bool true]) ∧ St S w0 w' (SO p fs q W F :: (L ++ [SLo 0 5 1 (.slice A xs.length d) xs.length (xs.map BV)])))
/-- what stands first among the frames -/
theorem see_first {xs : List UInt8} (hC : C.map Prod.snd = xs :: fs) (s : St S w0 w (SdM p cv0 qv0 cv qv C q W F L)) : ∃ A d C', C = (.slice A xs.length d, xs) :: C' ∧ C'.map Prod.snd = fs ∧ ∃ g o c, cv = .slice (some ⟨g, o, none⟩) (C'.length + 1) c ∧ C'.length + 1 ≤ c ∧ c ≤ maxLen ∧ w.cell? ⟨g, o, none⟩ = some (.slice A xs.length d) ∧ g < w.heap.size := by
  cases C with
  | nil => cases hC
  | cons x C' =>
    obtain ⟨v, b⟩ := x
    rw [List.map_cons] at hC
    injection hC with h1 h2
    simp only at h1
    subst h1
    have hfr : ∃ A d, v = .slice A b.length d := by
      have s' : St S w0 w ([BLo p 60 [cv0, qv0, .int .i64 W, .int .i64 (F : Int)], QO 33 1 cv ((v, b) :: C').length (((v, b) :: C').map Prod.fst), QO 63 4 qv q.length (fcellsQ q)] ++ (many (frO (v, b) :: C'.map frO) :: L)) := s
      have s2 := st_mid (sep_out (w := w)) s'
      have s3 : St S w0 w (([BLo p 60 [cv0, qv0, .int .i64 W, .int .i64 (F : Int)], QO 33 1 cv ((v, b) :: C').length (((v, b) :: C').map Prod.fst), QO 63 4 qv q.length (fcellsQ q), many (C'.map frO)] ++ L) ++ SLo 0 5 1 v b.length (b.map BV) :: []) := by simpa [frO] using s2
      obtain ⟨A, d, h, _⟩ := own_shape (St.own _ _ s3)
      exact ⟨A, d, h⟩
    obtain ⟨A, d, rfl⟩ := hfr
    refine ⟨A, d, C', rfl, h2, ?_⟩
    obtain ⟨X, h, _⟩ := St.focus1 s
    obtain ⟨g, o, c, h3, h4, h5, _⟩ := Qu.nonempty (n := C'.length) h
    subst h3
    have h6 := h.at_ (j := 0) (u := .slice A b.length d) rfl
    exact ⟨g, o, c, rfl, h4, h5, h6.1, h6.2⟩
set_option maxHeartbeats 16000000 in
theorem nextC_c {xs : List UInt8} (hC : C.map Prod.snd = xs :: fs) (s : St S w0 w (SdL p cv qv C q W F L)) (cap : Int) :
    Calls Try.prog 21 #[.pointer (some ⟨p, 0, none⟩), .int .i64 cap] w (NextC S w0 p xs fs L q W F cap) := by
  obtain ⟨r, hr⟩ : ∃ r, w.heap.size = r := ⟨_, rfl⟩
  obtain ⟨A, d, C', rfl, hC', g, o, c, rfl, hc1, hc2, c0, gl⟩ := see_first hC s
  obtain ⟨hl, z0, z1, z2, z3, zf0⟩ := see_s s
  have s1 : St S w0 (w.alloc (.cells #[.slice none 0 0, .int .i64 0, .int .i64 0, .bool false] 35)) (SdL p (.slice (some ⟨g, o, none⟩) (C'.length + 1) c) qv ((.slice A xs.length d, xs) :: C') q W F (L ++ [BLo r 35 [.slice none 0 0, .int .i64 0, .int .i64 0, .bool false]])) := by
    have h1 := boxNew s 35 [.slice none 0 0, .int .i64 0, .int .i64 0, .bool false]
    rw [hr] at h1
    exact h1
  have s2 : St S w0 ((w.alloc (.cells #[.slice none 0 0, .int .i64 0, .int .i64 0, .bool false] 35)).alloc (.cells #[.slice none 0 0, .int .i64 0, .int .i64 0, .bool false] 35)) (SdL p (.slice (some ⟨g, o, none⟩) (C'.length + 1) c) qv ((.slice A xs.length d, xs) :: C') q W F (L ++ [BLo r 35 [.slice none 0 0, .int .i64 0, .int .i64 0, .bool false]] ++ [BLo (r + 1) 35 [.slice none 0 0, .int .i64 0, .int .i64 0, .bool false]])) := by
    have h2 := boxNew s1 35 [.slice none 0 0, .int .i64 0, .int .i64 0, .bool false]
    simp only [World.size_alloc, hr] at h2
    exact h2
  obtain ⟨n, hn⟩ : ∃ n, C'.length = n := ⟨_, rfl⟩
  obtain ⟨m, hm⟩ : ∃ m, xs.length = m := ⟨_, rfl⟩
  have hn2 : (0 : Int) < (n : Int) + 1 := by omega
  rw [hn] at s2 s1 hc1 z0
  rw [hm] at s1 s2 c0
  have HC := Lib.hid hC'
  have HM := Lib.hid hm
  have HR := Lib.hid hr
  have H1 := Lib.hid s1
  have HT := Lib.hid (takeB_c s2 hn hc1 hc2)
  have HN := Lib.hid hn
  have hpr : p ≠ r := by omega
  have hpr1 : p ≠ r + 1 := by omega
  have hrp1 : ¬ r + 1 = p := fun h => hpr1 h.symm
  have hways : cap < (m : Int) ∨ ¬ cap < (m : Int) := by omega
  clear s s1 s2 hr hn hm hC hC' hc1 hc2 zf0
  rcases hways with hw | hw
  · have h9 := boxSee H1.out
    have H9 := Lib.hid (box40 H1.out (.slice none 0 0) (.int .i64 0) (.int .i64 0) (.bool false))
    obtain ⟨dl, d0, d1, d2, d3, df⟩ := boxCells H1.out
    clear h9
    have HW := Lib.hid hw
    go_enter Try.func21, Try.ntmps21
    go_upto_region 1 with (fail)
    rw [HR.out]
    go_wp2
    refine bodyPost_ret (v := .tuple #[pieceV (.slice none 0 0) 0 0 false, .bool false]) (by simp [results, Try.results21, go_sem, d0, d1, d2, d3, dl, df]) rfl (.inl ⟨by rw [HM.out]; exact HW.out, rfl, so_close (C := (.slice A xs.length d, xs) :: C') (by rw [List.map_cons, HC.out]) (by rw [HM.out]; exact H9.out)⟩)
  · have HW := Lib.hid hw
    go_enter Try.func21, Try.ntmps21
    go_upto_region 4 with (fail)
    rw [HR.out]
    clear c0 gl hw hn2
    go_upto_region 5 with (first
      | (go_at_call 28; (with_reducible refine HT.out.mono ?_); rintro e w3 ⟨o', rfl, s3⟩
         clear z0 z1 z2 z3 hl
         have b2 := boxSeeO s3
         have s4 := pSet0 (boxSetO s3 0 (.slice A m d)) (.slice (some ⟨g, o', none⟩) n (c - 1))
         obtain ⟨hl, z0, z1, z2, z3, zf⟩ := see_m s3
         have zf0 := zf 0
         have dl := b2.lt
         have df := b2.frozen
         have d0 := b2.cell 0
         simp only [List.getElem?_cons_zero] at d0
         have H4 := Lib.hid s4
         clear s3 s4 zf b2))
    obtain ⟨W4, hW4⟩ : ∃ W4, ((w3.setCell ⟨r + 1, 0, none⟩ (.slice A m d)).setCell ⟨p, 0, none⟩ (.slice (some ⟨g, o', none⟩) n (c - 1))) = W4 := ⟨_, rfl⟩
    rw [hW4] at H4 ⊢
    clear z0 z1 z2 z3 hl zf0 dl df d0 hW4
    have b2 := boxSeeO H4.out
    have s5 := boxDropO H4.out
    have b1 := boxSeeO s5
    have d0 := b2.cell 0
    have d1 := b2.cell 1
    have d2 := b2.cell 2
    have d3 := b2.cell 3
    have y0 := b1.cell 0
    have y1 := b1.cell 1
    have y2 := b1.cell 2
    have y3 := b1.cell 3
    simp only [List.set_cons_zero, List.getElem?_cons_zero, List.getElem?_cons_succ] at d0 d1 d2 d3 y0 y1 y2 y3
    have yl := b1.lt
    have yf := b1.frozen
    have H9 := Lib.hid (boxDropO (boxSetO (boxSetO (boxSetO (boxSetO s5 0 (.slice A m d)) 1 (.int .i64 0)) 2 (.int .i64 0)) 3 (.bool false)))
    clear s5 b1 b2
    go_wp2
    refine bodyPost_ret (v := .tuple #[pieceV (.slice A m d) 0 0 false, .bool true]) (by simp [results, Try.results21, go_sem, y0, y1, y2, y3, yl, yf]) rfl (.inr ⟨by rw [HM.out]; have := HW.out; omega, A, d, by rw [HM.out], ?_⟩)
    have h := so_close HC.out H9.out
    unfold frO at h
    simp only at h
    rw [HM.out] at h ⊢
    exact h
end
end Go.Proofs.Ytbjjphpkpmikjaa
