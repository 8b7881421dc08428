/- Stage 10: Request, Response, Trailers. -/
import Derived.Test.YtilabahcngjflaaDoorJiI
namespace Go.Proofs.YtilabahcngjflaaDoor
open Go.RowKit Go.Own Go.Tbl Go.Fie
set_option linter.unusedVariables false
set_option linter.unusedSimpArgs false
set_option maxRecDepth 100000
/-! the closures that catch -/
theorem catchQ_up (p : Addr) (x : Bool) (w : World) (hc : w.cell? p = some (.bool x)) (hz : w.frozen? p = false) :
    CallsD Tryd.prog 21 #[.pointer (some p)] (.panicking [{ v := .iface 59 (.agg #[]), recovered := false }]) w fun e u' w' =>
      e = .returned (.tuple #[]) ∧ u' = .panicking [{ v := .iface 59 (.agg #[]), recovered := true }] ∧ w'.cell? p = some (.bool false) ∧ Fr (· = p.block) w w' := by
  refine callsD_of_wpS Tryd.func21 rfl fun c₀ cs hu => ?_
  apply wpS_region
  simp [wpOpsS, go_sem, recoverD, hu, Tryd.ntmps21]
  refine (nothing_up w).mono ?_
  rintro e w2 ⟨rfl, rfl⟩
  simp [go_sem, hc, hz, bodyPostS, results, Tryd.results21]
  exact (Fr.refl (fun i => i = p.block) _).setCell (p := p) (.inl rfl) _
theorem catchQ_idle (p : Addr) (x : Bool) (w : World) (hc : w.cell? p = some (.bool x)) (hz : w.frozen? p = false) :
    CallsD Tryd.prog 21 #[.pointer (some p)] .returning w fun e u' w' =>
      e = .returned (.tuple #[]) ∧ u' = .returning ∧ w'.cell? p = some (.bool true) ∧ Fr (· = p.block) w w' := by
  refine callsD_of_wpS Tryd.func21 rfl fun c₀ cs hu => ?_
  apply wpS_region
  simp [wpOpsS, go_sem, recoverD, hu, Tryd.ntmps21]
  refine (nothing_nil w).mono ?_
  rintro e w2 ⟨rfl, rfl⟩
  have h0 : c₀ = { c₀ with mode := .returning } := by cases c₀; simp_all
  simp [go_sem, hc, hz, bodyPostS, results, Tryd.results21]
  exact ⟨_, h0, rfl, (Fr.refl (fun i => i = p.block) _).setCell (p := p) (.inl rfl) _⟩
theorem catchS_up (p : Addr) (x : Bool) (w : World) (hc : w.cell? p = some (.bool x)) (hz : w.frozen? p = false) :
    CallsD Tryd.prog 26 #[.pointer (some p)] (.panicking [{ v := .iface 59 (.agg #[]), recovered := false }]) w fun e u' w' =>
      e = .returned (.tuple #[]) ∧ u' = .panicking [{ v := .iface 59 (.agg #[]), recovered := true }] ∧ w'.cell? p = some (.bool false) ∧ Fr (· = p.block) w w' := by
  refine callsD_of_wpS Tryd.func26 rfl fun c₀ cs hu => ?_
  apply wpS_region
  simp [wpOpsS, go_sem, recoverD, hu, Tryd.ntmps26]
  refine (nothing_up w).mono ?_
  rintro e w2 ⟨rfl, rfl⟩
  simp [go_sem, hc, hz, bodyPostS, results, Tryd.results26]
  exact (Fr.refl (fun i => i = p.block) _).setCell (p := p) (.inl rfl) _
theorem catchS_idle (p : Addr) (x : Bool) (w : World) (hc : w.cell? p = some (.bool x)) (hz : w.frozen? p = false) :
    CallsD Tryd.prog 26 #[.pointer (some p)] .returning w fun e u' w' =>
      e = .returned (.tuple #[]) ∧ u' = .returning ∧ w'.cell? p = some (.bool true) ∧ Fr (· = p.block) w w' := by
  refine callsD_of_wpS Tryd.func26 rfl fun c₀ cs hu => ?_
  apply wpS_region
  simp [wpOpsS, go_sem, recoverD, hu, Tryd.ntmps26]
  refine (nothing_nil w).mono ?_
  rintro e w2 ⟨rfl, rfl⟩
  have h0 : c₀ = { c₀ with mode := .returning } := by cases c₀; simp_all
  simp [go_sem, hc, hz, bodyPostS, results, Tryd.results26]
  exact ⟨_, h0, rfl, (Fr.refl (fun i => i = p.block) _).setCell (p := p) (.inl rfl) _⟩
theorem catchT_up (p : Addr) (x : Bool) (w : World) (hc : w.cell? p = some (.bool x)) (hz : w.frozen? p = false) :
    CallsD Tryd.prog 28 #[.pointer (some p)] (.panicking [{ v := .iface 59 (.agg #[]), recovered := false }]) w fun e u' w' =>
      e = .returned (.tuple #[]) ∧ u' = .panicking [{ v := .iface 59 (.agg #[]), recovered := true }] ∧ w'.cell? p = some (.bool false) ∧ Fr (· = p.block) w w' := by
  refine callsD_of_wpS Tryd.func28 rfl fun c₀ cs hu => ?_
  apply wpS_region
  simp [wpOpsS, go_sem, recoverD, hu, Tryd.ntmps28]
  refine (nothing_up w).mono ?_
  rintro e w2 ⟨rfl, rfl⟩
  simp [go_sem, hc, hz, bodyPostS, results, Tryd.results28]
  exact (Fr.refl (fun i => i = p.block) _).setCell (p := p) (.inl rfl) _
theorem catchT_idle (p : Addr) (x : Bool) (w : World) (hc : w.cell? p = some (.bool x)) (hz : w.frozen? p = false) :
    CallsD Tryd.prog 28 #[.pointer (some p)] .returning w fun e u' w' =>
      e = .returned (.tuple #[]) ∧ u' = .returning ∧ w'.cell? p = some (.bool true) ∧ Fr (· = p.block) w w' := by
  refine callsD_of_wpS Tryd.func28 rfl fun c₀ cs hu => ?_
  apply wpS_region
  simp [wpOpsS, go_sem, recoverD, hu, Tryd.ntmps28]
  refine (nothing_nil w).mono ?_
  rintro e w2 ⟨rfl, rfl⟩
  have h0 : c₀ = { c₀ with mode := .returning } := by cases c₀; simp_all
  simp [go_sem, hc, hz, bodyPostS, results, Tryd.results28]
  exact ⟨_, h0, rfl, (Fr.refl (fun i => i = p.block) _).setCell (p := p) (.inl rfl) _⟩
end Go.Proofs.YtilabahcngjflaaDoor
