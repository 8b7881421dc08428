/- Stage 11: the scheduler's small calls: isWindow, grant, New, SetFrame, Len, Window, Wait. -/
import Derived.Test.YtbjjphpkpmikjaaKiH
namespace Go.Proofs.Ytbjjphpkpmikjaa
open Go.RowKit Go.Own Go.Sch
set_option linter.unusedVariables false
set_option linter.unusedSimpArgs false
set_option maxRecDepth 100000
structure SdOk (q : List Fl) (W : Int) (F : Nat) : Prop where
  fl : ∀ f ∈ q, 1 ≤ f.id ∧ f.id ≤ 2147483647 ∧ -2147483647 ≤ f.win ∧ f.win ≤ 2147483647 ∧ f.wait ≤ 2147483647
  len : q.length ≤ 1000
  w1 : -2147483647 ≤ W
  w2 : W ≤ 2147483647
  f1 : 1 ≤ F
  f2 : F ≤ 16777215
theorem w64 {x : Int} (h1 : -9223372036854775808 ≤ x) (h2 : x ≤ 9223372036854775807) : IntKind.i64.wrap x = x := by rw [IntKind.wrap_i64]; omega
theorem isWin_c {w : World} (m : Int) (z : Bool) (hz : (decide (-2147483647 ≤ m) && decide (m ≤ 2147483647)) = z) : Calls Try.prog 24 #[.int .i64 m] w fun e w' => e = .returned (.bool z) ∧ w' = w := by
  have ways : (m < -2147483647 ∧ z = false) ∨ (-2147483647 ≤ m ∧ 2147483647 < m ∧ z = false) ∨ (-2147483647 ≤ m ∧ m ≤ 2147483647 ∧ z = true) := by
    subst hz
    rcases Int.lt_or_le m (-2147483647) with h | h
    · exact .inl ⟨h, by rw [decide_eq_false (by omega)]; rfl⟩
    · rcases Int.lt_or_le 2147483647 m with h2 | h2
      · exact .inr (.inl ⟨h, h2, by rw [decide_eq_false (show ¬ m ≤ 2147483647 by omega), Bool.and_false]⟩)
      · exact .inr (.inr ⟨h, h2, by rw [decide_eq_true h, decide_eq_true h2]; rfl⟩)
  clear hz
  rcases ways with ⟨h1, rfl⟩ | ⟨h1, h2, rfl⟩ | ⟨h1, h2, rfl⟩
  all_goals
    go_enter Try.func24, Try.ntmps24
    go_wp2
    go_ret
    exact ⟨by simp <;> omega, rfl⟩
theorem grant_yes {w : World} {g o : Nat} {W : Int} (hc : w.cell? ⟨g, o, none⟩ = some (.int .i64 W)) (hf : w.frozen? ⟨g, o, none⟩ = false) (n : Int) (h1 : -2147483647 ≤ W) (h2 : W ≤ 2147483647) (h3 : -2147483647 - W ≤ n) (h4 : n ≤ 2147483647 - W) :
    Calls Try.prog 19 #[.pointer (some ⟨g, o, none⟩), .int .i64 n] w fun e w' => e = .returned (.int .i64 0) ∧ w' = w.setCell ⟨g, o, none⟩ (.int .i64 (W + n)) := by
  have e1 := w64 (x := -2147483647 - W) (by omega) (by omega)
  have e2 := w64 (x := 2147483647 - W) (by omega) (by omega)
  have e3 := w64 (x := W + n) (by omega) (by omega)
  clear h1 h2
  go_enter Try.func19, Try.ntmps19
  go_wp2
  go_ret
  exact ⟨rfl, rfl⟩
theorem grant_no {w : World} {g o : Nat} {W : Int} (hc : w.cell? ⟨g, o, none⟩ = some (.int .i64 W)) (n : Int) (h1 : -2147483647 ≤ W) (h2 : W ≤ 2147483647) (h3 : n < -2147483647 - W ∨ (¬ n < -2147483647 - W ∧ 2147483647 - W < n)) :
    Calls Try.prog 19 #[.pointer (some ⟨g, o, none⟩), .int .i64 n] w fun e w' => e = .returned (.int .i64 8) ∧ w' = w := by
  have e1 := w64 (x := -2147483647 - W) (by omega) (by omega)
  have e2 := w64 (x := 2147483647 - W) (by omega) (by omega)
  clear h1 h2
  rcases h3 with h3 | ⟨h3, h4⟩
  all_goals
    go_enter Try.func19, Try.ntmps19
    go_wp2
    go_ret
    exact ⟨rfl, rfl⟩
/-- a frame's bound as it is kept -/
def frV (n : Int) : Nat := if n < 1 then 1 else if 16777215 < n then 16777215 else n.toNat
theorem frV_ways (n : Int) (F : Nat) (h : frV n = F) : (n < 1 ∧ F = 1) ∨ (1 ≤ n ∧ 16777215 < n ∧ F = 16777215) ∨ (1 ≤ n ∧ n ≤ 16777215 ∧ n = (F : Int)) := by
  subst h
  unfold frV
  split
  · exact .inl ⟨by assumption, rfl⟩
  · split
    · exact .inr (.inl ⟨by omega, by assumption, rfl⟩)
    · exact .inr (.inr ⟨by omega, by omega, by omega⟩)
theorem frV_ok (n : Int) : 1 ≤ frV n ∧ frV n ≤ 16777215 := by
  have := frV_ways n _ rfl
  omega
section
variable {S : Nat → Prop} {w0 w : World} {L : List Ob} {p : Nat} {fs : List (List UInt8)} {q : List Fl} {W : Int} {F : Nat} {cv qv : Value} {C : List (Value × List UInt8)}
theorem setF_c (s : St S w0 w (SdL p cv qv C q W F L)) (n : Int) (F' : Nat) (h : frV n = F') :
    Calls Try.prog 23 #[.pointer (some ⟨p, 0, none⟩), .int .i64 n] w fun e w' => e = .returned (.tuple #[]) ∧ St S w0 w' (SdL p cv qv C q W F' L) := by
  obtain ⟨hl, z0, z1, z2, z3, zf0⟩ := see_s s
  have zf := zf0 3
  have HS := Lib.hid (St.set0 s 3 (.int .i64 (F' : Int)))
  have ways := frV_ways n F' h
  clear s zf0 h
  rcases ways with ⟨h1, rfl⟩ | ⟨h1, h2, rfl⟩ | ⟨h1, h2, rfl⟩
  · have e1 : (if (1 : Int) < n then n else 1) = 1 := if_neg (by omega)
    go_enter Try.func23, Try.ntmps23
    go_wp2
    go_end0
    exact ⟨rfl, HS.out⟩
  · have e1 : (if (1 : Int) < n then n else 1) = n := by split <;> omega
    go_enter Try.func23, Try.ntmps23
    go_wp2
    go_end0
    exact ⟨rfl, HS.out⟩
  · have e1 : (if (1 : Int) < (F' : Int) then (F' : Int) else 1) = (F' : Int) := by split <;> omega
    go_enter Try.func23, Try.ntmps23
    go_wp2
    go_end0
    exact ⟨rfl, HS.out⟩
theorem new_c {w : World} (n : Int) (F : Nat) (h : frV n = F) :
    Calls Try.prog 13 #[.int .i64 n] w fun e w' => ∃ p, e = .returned (.pointer (some ⟨p, 0, none⟩)) ∧ St (fun _ => False) w w' [SO p [] [] 65535 F] := by
  have s0 : St (fun _ => False) w (w.alloc (.cells #[.slice none 0 0, .slice none 0 0, .int .i64 65535, .int .i64 0] 60)) [BLo w.heap.size 60 [.slice none 0 0, .slice none 0 0, .int .i64 65535, .int .i64 0]] := by
    have := St.block (St.nil (fun _ => False) w) 60 [.slice none 0 0, .slice none 0 0, .int .i64 65535, .int .i64 0]
    simpa using this
  have s1 : St (fun _ => False) w (w.alloc (.cells #[.slice none 0 0, .slice none 0 0, .int .i64 65535, .int .i64 0] 60)) (SdL w.heap.size (.slice none 0 0) (.slice none 0 0) [] [] 65535 0 []) := by
    have e1 : St (fun _ => False) (w.alloc (.cells #[.slice none 0 0, .slice none 0 0, .int .i64 65535, .int .i64 0] 60)) (w.alloc (.cells #[.slice none 0 0, .slice none 0 0, .int .i64 65535, .int .i64 0] 60)) [QO 33 1 (.slice none 0 0) 0 []] := St.made (F := fun _ => False) (framed_QO ..) (.inl ⟨rfl, rfl, rfl, rfl⟩) (fun _ h => h.elim) (Below.refl _ _)
    have e2 : St (fun _ => False) (w.alloc (.cells #[.slice none 0 0, .slice none 0 0, .int .i64 65535, .int .i64 0] 60)) (w.alloc (.cells #[.slice none 0 0, .slice none 0 0, .int .i64 65535, .int .i64 0] 60)) [QO 63 4 (.slice none 0 0) 0 []] := St.made (F := fun _ => False) (framed_QO ..) (.inl ⟨rfl, rfl, rfl, rfl⟩) (fun _ h => h.elim) (Below.refl _ _)
    have e3 : St (fun _ => False) (w.alloc (.cells #[.slice none 0 0, .slice none 0 0, .int .i64 65535, .int .i64 0] 60)) (w.alloc (.cells #[.slice none 0 0, .slice none 0 0, .int .i64 65535, .int .i64 0] 60)) [many []] := St.made (F := fun _ => False) (framed_many _) rfl (fun _ h => h.elim) (Below.refl _ _)
    exact ((s0.add e1).add e2).add e3
  have hl : w.heap.size < w.heap.size + 1 := by omega
  have HS := Lib.hid s1
  have HF := Lib.hid h
  clear s0 s1 h
  go_enter Try.func13, Try.ntmps13
  go_wp2_with (first
    | (go_at_call 23; (with_reducible refine (setF_c HS.out n F HF.out).mono ?_); rintro e w3 ⟨rfl, s3⟩
       have H3 := Lib.hid (so_close (fs := []) rfl s3)
       clear s3))
  go_ret
  exact ⟨_, rfl, H3.out⟩
theorem window_c (s : St S w0 w (SO p fs q W F :: L)) : Calls Try.prog 12 #[.pointer (some ⟨p, 0, none⟩)] w fun e w' => e = .returned (.int .i64 W) ∧ w' = w := by
  obtain ⟨cv, qv, C, _, s⟩ := so_open s
  obtain ⟨hl, z0, z1, z2, z3, zf0⟩ := see_s s
  clear s zf0
  go_enter Try.func12, Try.ntmps12
  go_wp2
  go_ret
  exact ⟨rfl, rfl⟩
theorem len_c (s : St S w0 w (SO p fs q W F :: L)) : Calls Try.prog 16 #[.pointer (some ⟨p, 0, none⟩)] w fun e w' => e = .returned (.tuple #[.int .i64 (fs.length : Int), .int .i64 (q.length : Int)]) ∧ w' = w.drew := by
  obtain ⟨cv, qv, C, hC, s⟩ := so_open s
  obtain ⟨hl, z0, z1, z2, z3, zf0⟩ := see_s s
  obtain ⟨A, c, rfl, _⟩ := see_n s
  obtain ⟨A2, c2, rfl, _⟩ := see_c s
  have hlen : fs.length = C.length := by rw [← hC, List.length_map]
  rw [hlen]
  clear s zf0 hC hlen
  go_enter Try.func16, Try.ntmps16
  go_wp2
  refine wp_region_still_lit (by kernel_rfl) (by kernel_rfl) ?_
  iterate 12 still_step
  refine wpStill_nil ?_
  go_wp2
  go_ret2
  exact ⟨rfl, rfl⟩
end
end Go.Proofs.Ytbjjphpkpmikjaa
