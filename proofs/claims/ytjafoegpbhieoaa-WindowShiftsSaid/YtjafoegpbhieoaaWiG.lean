/- Stage 7: what each law looks at first. -/
import Derived.Test.YtjafoegpbhieoaaWiD
import Derived.Test.YtjafoegpbhieoaaWiF
namespace Go.Proofs.Ytjafoegpbhieoaa
open Go.RowKit Go.Own Go.Win
set_option linter.unusedVariables false
set_option maxRecDepth 100000
section
variable {S : Nat → Prop} {w0 w : World} {L : List Ob}
/-- a credit that is new -/
theorem new_c (z : Int) (c : Cr) (hc : newC z = c) : Calls Try.prog 18 #[.int .i64 z] w fun e w' => ∃ p, e = .returned (.pointer (some ⟨p, 0, none⟩)) ∧ St (fun _ => False) w w' [CrO p c] := by
  subst hc
  refine (new_s z).mono ?_
  rintro e w' ⟨p, rfl, rfl, rfl⟩
  exact ⟨w.heap.size, rfl, (St.nil (fun _ => False) w).block _ _⟩
theorem rnew_c (s : St (fun _ => False) w0 w L) (z : Int) (c : Cr) (hc : newC z = c) : Calls Try.prog 19 #[.int .i64 z] w fun e w' => ∃ p, e = .returned (.pointer (some ⟨p, 0, none⟩)) ∧ St (fun _ => False) w0 w' (L ++ [RCr p c]) := by
  subst hc
  refine (rnew_s z).mono ?_
  rintro e w' ⟨p, rfl, rfl, rfl⟩
  have h := s.block 39 [.int .i64 (newC z).left, .int .i64 (newC z).left, .int .i64 0, .int .i64 0]
  have e : (newC z).left + (newC z).held + (newC z).freed = (newC z).left := by show (newC z).left + 0 + 0 = _; omega
  refine ⟨w.heap.size, rfl, ?_⟩
  unfold RCr
  rw [e]
  exact h
theorem le_s {p : Nat} {c : Cr} (s : St S w0 w (CrO p c :: L)) (x : Int) (h : c.left = x) : Calls Try.prog 28 #[.pointer (some ⟨p, 0, none⟩)] w fun e w' => e = .returned (.int .i64 x) ∧ w' = w := by
  subst h
  exact left_s s
theorem he_s {p : Nat} {c : Cr} (s : St S w0 w (CrO p c :: L)) (x : Int) (h : c.held = x) : Calls Try.prog 29 #[.pointer (some ⟨p, 0, none⟩)] w fun e w' => e = .returned (.int .i64 x) ∧ w' = w := by
  subst h
  exact held_s s
end
set_option maxHeartbeats 4000000 in
theorem shown_c (w : World) : Calls Try.prog 9 #[] w fun e w' => e = .returned (.bool true) ∧ Below w.heap.size w w' := by
  have K0 : Hid (Cr.ok ⟨10, 0, 0⟩) := by unfold Hid Cr.ok; decide
  have K1 : Hid (Cr.ok ⟨4, 6, 0⟩) := by unfold Hid Cr.ok; decide
  have K2 : Hid (Cr.ok ⟨4, 2, 4⟩) := by unfold Hid Cr.ok; decide
  have K3 : Hid (Cr.ok ⟨4, 1, 5⟩) := by unfold Hid Cr.ok; decide
  have K4 : Hid (Cr.ok ⟨9, 1, 0⟩) := by unfold Hid Cr.ok; decide
  have a5 : Hid (i64i 5) := by unfold Hid i64i; decide
  have aM : Hid (i64i 2147483647) := by unfold Hid i64i; decide
  have a6 : Hid (i64i 6) := by unfold Hid i64i; decide
  have a4 : Hid (i64i 4) := by unfold Hid i64i; decide
  have a1 : Hid (i64i 1) := by unfold Hid i64i; decide
  have g1 : Hid (giveV 5 2147483647 = (0, 8)) := by unfold Hid; decide
  have g2 : Hid (shiftV 10 100 20 = (-70, 0)) := by unfold Hid; decide
  have g3 : Hid (mostV 9 (-70) 16384 100 = 0) := by unfold Hid; decide
  have s1 : Hid (gotE ⟨10, 0, 0⟩ 6 = 0) := by unfold Hid; decide
  have s2 : Hid (freeE ⟨4, 6, 0⟩ 4 = 0) := by unfold Hid; decide
  have s3 : Hid (dueV ⟨4, 2, 4⟩ = 0) := by unfold Hid; decide
  have s4 : Hid (freeE ⟨4, 2, 4⟩ 1 = 0) := by unfold Hid; decide
  have s5 : Hid (dueV ⟨4, 1, 5⟩ = 5) := by unfold Hid; decide
  go_enter Try.func9, Try.ntmps9
  go_wp2_with (first
    | (go_at_call 10; (with_reducible refine (give_c 5 2147483647 a5.out aM.out 0 8 g1.out).mono ?_); rintro e w1 ⟨rfl, rfl⟩)
    | (go_at_call 14; (with_reducible refine (shift_c 10 100 20 (-70) 0 g2.out).mono ?_); rintro e w1 ⟨rfl, rfl⟩)
    | (go_at_call 18; (with_reducible refine (new_c 10 ⟨10, 0, 0⟩ rfl).mono ?_); rintro e w1 ⟨p, rfl, t1⟩
       have T1 := Lib.hid t1
       clear t1)
    | (go_at_call 20; (with_reducible refine (got_s T1.out K0.out 6 a6.out 0 ⟨4, 6, 0⟩ s1.out rfl).mono ?_); rintro e w2 ⟨rfl, t2⟩; have T2 := Lib.hid t2; clear t2)
    | (go_at_call 22; (with_reducible refine (free_s T2.out K1.out 4 a4.out 0 ⟨4, 2, 4⟩ s2.out rfl).mono ?_); rintro e w3 ⟨rfl, t3⟩; have T3 := Lib.hid t3; clear t3)
    | (go_at_call 24; (with_reducible refine (due_s T3.out K2.out 0 s3.out).mono ?_); rintro e w4 ⟨rfl, k4, e4⟩; have T4 := Lib.hid (St.drewN T3.out k4); rw [← e4] at T4; clear e4)
    | (go_at_call 22; (with_reducible refine (free_s T4.out K2.out 1 a1.out 0 ⟨4, 1, 5⟩ s4.out rfl).mono ?_); rintro e w5 ⟨rfl, t5⟩; have T5 := Lib.hid t5; clear t5)
    | (go_at_call 26; (with_reducible refine (give_s T5.out K3.out 5 ⟨9, 1, 0⟩ s5.out rfl).mono ?_); rintro e w6 ⟨rfl, t6⟩; have T6 := Lib.hid t6; clear t6)
    | (go_at_call 16; (with_reducible refine (most_c 9 (-70) 16384 100 0 g3.out).mono ?_); rintro e w7 ⟨rfl, rfl⟩)
    | (go_at_call 28; (with_reducible refine (le_s T6.out 9 rfl).mono ?_); rintro e w7 ⟨rfl, rfl⟩)
    | (go_at_call 29; (with_reducible refine (he_s T6.out 1 rfl).mono ?_); rintro e w7 ⟨rfl, rfl⟩))
  trace_state
  go_ret
  exact ⟨rfl, T6.out.below⟩
end Go.Proofs.Ytjafoegpbhieoaa
