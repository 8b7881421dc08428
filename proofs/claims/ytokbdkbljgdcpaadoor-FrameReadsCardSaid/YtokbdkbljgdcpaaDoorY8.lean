/- Several texts in one: Fe. -/
import Derived.Test.YtokbdkbljgdcpaaDoorY2
import Derived.Test.YtokbdkbljgdcpaaDoorY7
/- The contract of filled. -/
namespace Go.Proofs.YtokbdkbljgdcpaaDoor
open Go.RowKit Go.Own Go.Frm
set_option linter.unusedVariables false
set_option maxRecDepth 100000

theorem partIf_i (z : Int) (b : Bool) (w : World) : Calls Tryd.prog 69 #[.int .i64 z, .bool b] w fun e w' => e = .returned (.int .i64 (pifI b z)) ∧ w = w' := by
  cases b <;>
  · go_enter Tryd.func69, Tryd.ntmps69
    go_wp2
    go_ret
    exact ⟨rfl, rfl⟩
theorem flipW {P : Program} {f : FuncId} {vs : Array Value} {w : World} {v : Value} (h : Calls P f vs w fun e w' => e = .returned v ∧ w = w') : Calls P f vs w fun e w' => e = .returned v ∧ w' = w := h.mono fun _ _ ⟨a, b⟩ => ⟨a, b.symm⟩
theorem partIf_q (z : Int) (b : Bool) (w : World) : Calls Tryd.prog 69 #[.int .i64 z, .bool b] w fun e w' => e = .returned (.int .i64 (pifI b z)) ∧ w' = w := flipW (partIf_i z b w)
set_option maxHeartbeats 40000000 in
theorem filled_any (f : Fm) (A B : Option Addr) (n c m d : Nat) (hn : f.pay.length = n) (hm : f.list.length = m) (w : World) :
    Calls Tryd.prog 53 #[frV f (.slice A n c) (.slice B m d)] w fun e w' => e = .returned (.int .i64 ((fillN f : Nat) : Int)) ∧ Below w.heap.size w w' := by
  obtain ⟨kind, stream, fin, eh, ack, prio, pay, flags, pad, depend, excl, weight, code, list, last, inc⟩ := f
  simp only at hn hm
  have en : (!pay.isEmpty) = decide (0 < n) := by subst hn; cases pay <;> simp <;> omega
  have em : (!list.isEmpty) = decide (0 < m) := by subst hm; cases list <;> simp <;> omega
  have hc : (code != 0) = ((code : Int) != 0) := by rw [Bool.eq_iff_iff]; simp
  have E : ∀ x : Bool, x = (depend != 0 || excl || weight != 0) → Hid (fillN ⟨kind, stream, fin, eh, ack, prio, pay, flags, pad, depend, excl, weight, code, list, last, inc⟩ = bsum [fin, eh, ack, pad != 0, prio, x, decide (0 < n), flags != 0, decide (0 < m), last != 0, (code : Int) != 0, inc != 0]) := by
    intro x hx
    show _ = _
    subst hx
    unfold fillN fillL
    simp only [en, em, hc]
  clear hn hm en em hc
  have E1 : true = (depend != 0 || excl || weight != 0) → Hid (_ = _) := fun hx => (fill_bits fin eh ack (pad != 0) prio true (decide (0 < n)) (flags != 0) (decide (0 < m)) (last != 0) ((code : Int) != 0) (inc != 0)).trans (congrArg Nat.cast (E true hx).out.symm)
  have E2 : (weight != 0) = (depend != 0 || excl || weight != 0) → Hid (_ = _) := fun hx => (fill_bits fin eh ack (pad != 0) prio (weight != 0) (decide (0 < n)) (flags != 0) (decide (0 < m)) (last != 0) ((code : Int) != 0) (inc != 0)).trans (congrArg Nat.cast (E (weight != 0) hx).out.symm)
  clear E
  have key : ((depend != 0) = true) ∨ ((depend != 0) = false ∧ excl = true) ∨ ((depend != 0) = false ∧ excl = false) := by
    cases (depend != 0) <;> cases excl <;> simp
  go_enter Tryd.func53, Tryd.ntmps53
  go_wp2
  simp only [List.append_eq, List.cons_append, List.nil_append]
  refine wp_region_quiet_lit (by kernel_rfl) (by kernel_rfl) ?_
  rcases key with h | ⟨h, rfl⟩ | ⟨h, rfl⟩
  all_goals
    iterate 67 (go_big_quiet_step ((go_at_call 69; (with_reducible exact Calls.quiet_of_same (partIf_q _ _ _)))))
    refine wpQuiet_nil ?_
    intro _ hw'
    obtain ⟨nq, hw''⟩ := hw'
    subst hw''
    go_wp2
    go_ret
    refine ⟨?_, below_drewN ((Below.refl _ _).alloc (Nat.le_refl _) _) _⟩
  · exact congrArg (fun z => Ending.returned (Value.int IntKind.i64 z)) (E1 (by rw [h]; rfl)).out
  · exact congrArg (fun z => Ending.returned (Value.int IntKind.i64 z)) (E1 (by rw [h]; rfl)).out
  · exact congrArg (fun z => Ending.returned (Value.int IntKind.i64 z)) (E2 (by rw [h]; rfl)).out
end Go.Proofs.YtokbdkbljgdcpaaDoor
