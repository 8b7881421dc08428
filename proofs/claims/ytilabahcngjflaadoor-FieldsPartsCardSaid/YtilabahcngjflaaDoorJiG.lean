/- Stage 10: what must be there, and what it says. -/
import Derived.Test.YtilabahcngjflaaDoorJiF
import Derived.Defers
import Derived.Recover
namespace Go.Proofs.YtilabahcngjflaaDoor
open Go.RowKit Go.Own Go.Tbl Go.Fie
set_option linter.unusedVariables false
set_option linter.unusedSimpArgs false
set_option maxRecDepth 100000
/-- how a call ends that gives up unless q -/
def upE (q : Bool) : Ending := bif q then .returned (.tuple #[]) else .panicked [{ v := .iface 59 (.agg #[]), recovered := false }]
theorem must_c (q : Bool) (w : World) : Calls Tryd.prog 30 #[.bool q] w fun e w' => e = upE q ∧ w' = w := by
  cases q
  · exact must_no w
  · exact must_ok w
section
variable {w : World} {b n : Nat} {g : Sn}
/-- what the methods answer, in whatever world lies above -/
structure Meth (w : World) (b : Nat) (g : Sn) : Prop where
  has : ∀ w2, Below w.heap.size w w2 → ∀ k : ByteArray, k.size ≤ 140737488355328 → Calls Tryd.prog 36 #[.map (some b), .string k] w2 fun e w' => e = .returned (.bool (has g k)) ∧ Below w.heap.size w w'
  says : ∀ w2, Below w.heap.size w w2 → ∀ k : ByteArray, k.size ≤ 140737488355328 → Calls Tryd.prog 35 #[.map (some b), .string k] w2 fun e w' => e = .returned (.bool (says g k)) ∧ w' = w2
  look : ∀ w2, Below w.heap.size w w2 → ∀ k : ByteArray, k.size ≤ 140737488355328 → (Instr.lookup 49 (.map (some b)) (.string k) false).run Tryd.prog w2 = .ok (.agg #[.string (fOf g k).n, .string (fOf g k).v, .bool (fOf g k).nv]) w2
theorem MSn.meth (h : MSn w b g n) : Meth w b g :=
  ⟨fun w2 hb k hk => (has_c (h.below hb) k hk).mono fun e w' ⟨he, hb2⟩ => ⟨he, hb.trans (hb2.mono hb.size)⟩, fun w2 hb k hk => says_c (h.below hb) k hk, fun w2 hb k hk => (h.below hb).look k hk _ _ _ rfl⟩
theorem path_c (h : MSn w b g n) : Calls Tryd.prog 37 #[.map (some b)] w fun e w' => e = .returned (.bool (pathR g)) ∧ w' = w := by
  obtain ⟨N1, V1, B1, e1⟩ := fld3 (fOf g nPath)
  obtain ⟨N2, V2, B2, e2⟩ := fld3 (fOf g nMethod)
  have l1 := h.look nPath (by decide) N1 V1 B1 e1
  have l2 := h.look nMethod (by decide) N2 V2 B2 e2
  have hp : pathR g = (Lib.hasPrefix V1.data.toList nSlash.data.toList || (decide (V1 = nStar) && decide (V2 = nOptions))) := by
    unfold pathR
    rw [← fOf_val, ← fOf_val, e1, e2]
  have hP := hasP_c V1 nSlash w
  have q1 := eqL V1 [42]
  have q2 := eqL V2 [79, 80, 84, 73, 79, 78, 83]
  obtain ⟨b1, h1⟩ : ∃ x, Lib.hasPrefix V1.data.toList nSlash.data.toList = x := ⟨_, rfl⟩
  obtain ⟨b2, h2⟩ : ∃ x, decide (V1 = nStar) = x := ⟨_, rfl⟩
  obtain ⟨b3, h3⟩ : ∃ x, decide (V2 = nOptions) = x := ⟨_, rfl⟩
  rw [h1, h2, h3] at hp
  rw [h1] at hP
  replace q1 := q1.trans h2
  replace q2 := q2.trans h3
  have hf1 := field1
  have HP := Lib.hid hP
  clear h h1 h2 h3 e1 e2 hP
  cases b1 <;> cases b2 <;> cases b3
  all_goals
    have Hp := Lib.hid hp
    clear hp
    go_enter Tryd.func37, Tryd.ntmps37
    go_wp2_with (first
      | (go_at_call 29; (with_reducible refine HP.out.mono ?_); rintro e w4 ⟨rfl, hw⟩; subst hw))
    go_ret
    exact ⟨ret_bool (by rw [Hp.out]; simp), rfl⟩
theorem mustS_c (h : MSn w b g n) (hs : (val g nStatus).size ≤ 140737488355328) : Calls Tryd.prog 27 #[.map (some b)] w fun e w' => e = upE (mustS g) ∧ w' = w := by
  obtain ⟨N1, V1, B1, e1⟩ := fld3 (fOf g nStatus)
  have l1 := h.look nStatus (by decide) N1 V1 B1 e1
  have hv : val g nStatus = V1 := by rw [← fOf_val, e1]
  have hm : mustS g = okS V1 := by unfold mustS; rw [hv]
  rw [hv] at hs
  rw [hm]
  have hf1 := field1
  clear h e1 hm hv
  cases hq : okS V1
  · have H := Lib.hid (isS_c V1 hs w)
    rw [hq] at H
    clear hq
    go_enter Tryd.func27, Tryd.ntmps27
    go_wp2_with (first
      | (go_at_call 39; (with_reducible refine H.out.mono ?_); rintro e w4 ⟨rfl, hw⟩; subst hw)
      | (go_at_call 30; (with_reducible refine (must_no _).mono ?_); rintro e w4 ⟨rfl, hw⟩; subst hw))
    exact ⟨rfl, rfl, rfl⟩
  · have H := Lib.hid (isS_c V1 hs w)
    rw [hq] at H
    clear hq
    go_enter Tryd.func27, Tryd.ntmps27
    go_wp2_with (first
      | (go_at_call 39; (with_reducible refine H.out.mono ?_); rintro e w4 ⟨rfl, hw⟩; subst hw)
      | (go_at_call 30; (with_reducible refine (must_ok _).mono ?_); rintro e w4 ⟨rfl, hw⟩; subst hw))
    go_end0
    exact ⟨rfl, rfl⟩

theorem mustQ_c (h : MSn w b g n) : Calls Tryd.prog 24 #[.map (some b)] w fun e w' => e = upE (mustQ g) ∧ Below w.heap.size w w' := by
  obtain ⟨N1, V1, B1, e1⟩ := fld3 (fOf g nMethod)
  have l1 := h.look nMethod (by decide) N1 V1 B1 e1
  have hv : val g nMethod = V1 := by rw [← fOf_val, e1]
  have M := h.meth
  have q1 := eqL V1 [67, 79, 78, 78, 69, 67, 84]
  have hm : mustQ g = (says g nMethod && (bif decide (V1 = nConnect) then says g nAuth && !has g nScheme && !has g nPath else says g nScheme && pathR g)) := by unfold mustQ; rw [hv]
  have s1 := M.says w (Below.refl _ _) nMethod (by decide)
  have s2 := M.says w (Below.refl _ _) nAuth (by decide)
  have s3 := M.says w (Below.refl _ _) nScheme (by decide)
  have p1 := path_c h
  have a1 := fun w2 hb => M.has w2 hb nScheme (by decide)
  have a2 := fun w2 hb => M.has w2 hb nPath (by decide)
  obtain ⟨b1, h1⟩ : ∃ x, says g nMethod = x := ⟨_, rfl⟩
  obtain ⟨b2, h2⟩ : ∃ x, says g nAuth = x := ⟨_, rfl⟩
  obtain ⟨b3, h3⟩ : ∃ x, says g nScheme = x := ⟨_, rfl⟩
  obtain ⟨b4, h4⟩ : ∃ x, has g nScheme = x := ⟨_, rfl⟩
  obtain ⟨b5, h5⟩ : ∃ x, has g nPath = x := ⟨_, rfl⟩
  obtain ⟨b6, h6⟩ : ∃ x, pathR g = x := ⟨_, rfl⟩
  obtain ⟨b7, h7⟩ : ∃ x, decide (V1 = nConnect) = x := ⟨_, rfl⟩
  rw [h1] at s1
  rw [h2] at s2
  rw [h3] at s3
  rw [h4] at a1
  rw [h5] at a2
  rw [h6] at p1
  rw [h1, h2, h3, h4, h5, h6, h7] at hm
  rw [hm]
  replace q1 := q1.trans h7
  have hf1 := field1
  have S1 := Lib.hid s1
  have S2 := Lib.hid s2
  have S3 := Lib.hid s3
  have P1 := Lib.hid p1
  have A1 := Lib.hid a1
  have A2 := Lib.hid a2
  have HB := Lib.hid (Below.refl w.heap.size w)
  clear h e1 hv M hm h1 h2 h3 h4 h5 h6 h7 s1 s2 s3 p1 a1 a2
  cases b1
  · go_enter Tryd.func24, Tryd.ntmps24
    go_wp2_with (first
      | (go_at_call 35; (with_reducible refine S1.out.mono ?_); rintro e w4 ⟨rfl, hw⟩; subst hw)
      | (go_at_call 30; (with_reducible refine (must_no _).mono ?_); rintro e w4 ⟨rfl, hw⟩; subst hw))
    exact ⟨rfl, rfl, HB.out⟩
  cases b7
  · cases b3
    · go_enter Tryd.func24, Tryd.ntmps24
      go_wp2_with (first
        | (go_at_call 35; (with_reducible refine S1.out.mono ?_); rintro e w4 ⟨rfl, hw⟩; subst hw)
        | (go_at_call 35; (with_reducible refine S3.out.mono ?_); rintro e w4 ⟨rfl, hw⟩; subst hw)
        | (go_at_call 30; (with_reducible refine (must_ok _).mono ?_); rintro e w4 ⟨rfl, hw⟩; subst hw)
        | (go_at_call 30; (with_reducible refine (must_no _).mono ?_); rintro e w4 ⟨rfl, hw⟩; subst hw))
      exact ⟨rfl, rfl, HB.out⟩
    cases b6
    · go_enter Tryd.func24, Tryd.ntmps24
      go_wp2_with (first
        | (go_at_call 35; (with_reducible refine S1.out.mono ?_); rintro e w4 ⟨rfl, hw⟩; subst hw)
        | (go_at_call 35; (with_reducible refine S3.out.mono ?_); rintro e w4 ⟨rfl, hw⟩; subst hw)
        | (go_at_call 37; (with_reducible refine P1.out.mono ?_); rintro e w4 ⟨rfl, hw⟩; subst hw)
        | (go_at_call 30; (with_reducible refine (must_ok _).mono ?_); rintro e w4 ⟨rfl, hw⟩; subst hw)
        | (go_at_call 30; (with_reducible refine (must_no _).mono ?_); rintro e w4 ⟨rfl, hw⟩; subst hw))
      exact ⟨rfl, rfl, HB.out⟩
    · go_enter Tryd.func24, Tryd.ntmps24
      go_wp2_with (first
        | (go_at_call 35; (with_reducible refine S1.out.mono ?_); rintro e w4 ⟨rfl, hw⟩; subst hw)
        | (go_at_call 35; (with_reducible refine S3.out.mono ?_); rintro e w4 ⟨rfl, hw⟩; subst hw)
        | (go_at_call 37; (with_reducible refine P1.out.mono ?_); rintro e w4 ⟨rfl, hw⟩; subst hw)
        | (go_at_call 30; (with_reducible refine (must_ok _).mono ?_); rintro e w4 ⟨rfl, hw⟩; subst hw))
      go_end0
      exact ⟨rfl, HB.out⟩
  · cases b2
    · go_enter Tryd.func24, Tryd.ntmps24
      go_wp2_with (first
        | (go_at_call 35; (with_reducible refine S1.out.mono ?_); rintro e w4 ⟨rfl, hw⟩; subst hw)
        | (go_at_call 35; (with_reducible refine S2.out.mono ?_); rintro e w4 ⟨rfl, hw⟩; subst hw)
        | (go_at_call 30; (with_reducible refine (must_ok _).mono ?_); rintro e w4 ⟨rfl, hw⟩; subst hw)
        | (go_at_call 30; (with_reducible refine (must_no _).mono ?_); rintro e w4 ⟨rfl, hw⟩; subst hw))
      exact ⟨rfl, rfl, HB.out⟩
    cases b4
    · cases b5
      · go_enter Tryd.func24, Tryd.ntmps24
        go_wp2_with (first
          | (go_at_call 35; (with_reducible refine S1.out.mono ?_); rintro e w4 ⟨rfl, hw⟩; subst hw)
          | (go_at_call 35; (with_reducible refine S2.out.mono ?_); rintro e w4 ⟨rfl, hw⟩; subst hw)
          | (go_at_call 36; (with_reducible refine (A1.out _ HB.out).mono ?_); rintro e w5 ⟨rfl, hb⟩; clear HB; have HB := Lib.hid hb; clear hb)
          | (go_at_call 36; (with_reducible refine (A2.out _ HB.out).mono ?_); rintro e w5 ⟨rfl, hb⟩; clear HB; have HB := Lib.hid hb; clear hb)
          | (go_at_call 30; (with_reducible refine (must_ok _).mono ?_); rintro e w4 ⟨rfl, hw⟩; subst hw))
        refine bodyPost_ret (results_none rfl _ _ _) rfl ?_
        exact ⟨rfl, HB.out⟩
      · go_enter Tryd.func24, Tryd.ntmps24
        go_wp2_with (first
          | (go_at_call 35; (with_reducible refine S1.out.mono ?_); rintro e w4 ⟨rfl, hw⟩; subst hw)
          | (go_at_call 35; (with_reducible refine S2.out.mono ?_); rintro e w4 ⟨rfl, hw⟩; subst hw)
          | (go_at_call 36; (with_reducible refine (A1.out _ HB.out).mono ?_); rintro e w5 ⟨rfl, hb⟩; clear HB; have HB := Lib.hid hb; clear hb)
          | (go_at_call 36; (with_reducible refine (A2.out _ HB.out).mono ?_); rintro e w5 ⟨rfl, hb⟩; clear HB; have HB := Lib.hid hb; clear hb)
          | (go_at_call 30; (with_reducible refine (must_ok _).mono ?_); rintro e w4 ⟨rfl, hw⟩; subst hw)
          | (go_at_call 30; (with_reducible refine (must_no _).mono ?_); rintro e w4 ⟨rfl, hw⟩; subst hw))
        exact ⟨rfl, rfl, HB.out⟩
    · go_enter Tryd.func24, Tryd.ntmps24
      go_wp2_with (first
        | (go_at_call 35; (with_reducible refine S1.out.mono ?_); rintro e w4 ⟨rfl, hw⟩; subst hw)
        | (go_at_call 35; (with_reducible refine S2.out.mono ?_); rintro e w4 ⟨rfl, hw⟩; subst hw)
        | (go_at_call 36; (with_reducible refine (A1.out _ HB.out).mono ?_); rintro e w5 ⟨rfl, hb⟩; clear HB; have HB := Lib.hid hb; clear hb)
        | (go_at_call 36; (with_reducible refine (A2.out _ HB.out).mono ?_); rintro e w5 ⟨rfl, hb⟩; clear HB; have HB := Lib.hid hb; clear hb)
        | (go_at_call 30; (with_reducible refine (must_ok _).mono ?_); rintro e w4 ⟨rfl, hw⟩; subst hw)
        | (go_at_call 30; (with_reducible refine (must_no _).mono ?_); rintro e w4 ⟨rfl, hw⟩; subst hw))
      exact ⟨rfl, rfl, HB.out⟩
end
end Go.Proofs.YtilabahcngjflaaDoor
