/- Stage 8: Tell, the program's. -/
import Derived.Test.YthdikinpociiaaaSeL
import Derived.StillTailTactics
namespace Go.Proofs.Ythdikinpociiaaa
open Go.RowKit Go.Own Go.Set8
set_option linter.unusedVariables false
set_option maxRecDepth 100000
theorem num7 (v : Va) (k : Nat) (hk : k < 7) : [Value.int .i64 0, .int .i64 v.tab, .int .i64 (pushN v.push), .int .i64 v.str, .int .i64 v.win, .int .i64 v.frm, .int .i64 v.lst][k]? = some (.int .i64 (num v k)) := by
  match k, hk with
  | 0, _ => rfl
  | 1, _ => rfl
  | 2, _ => rfl
  | 3, _ => rfl
  | 4, _ => rfl
  | 5, _ => rfl
  | 6, _ => rfl
theorem idx7 (v : Va) (k : Nat) (hk : k < 7) (w : World) : (Instr.index 46 (.agg #[.int .i64 0, .int .i64 v.tab, .int .i64 (pushN v.push), .int .i64 v.str, .int .i64 v.win, .int .i64 v.frm, .int .i64 v.lst]) (.int .i64 (k : Int))).run Try.prog w = .ok (.int .i64 (num v k)) w := by
  have h2 : ∀ w, (sizeOf 3).run Try.prog w = .ok 1 w := fun w => by kernel_rfl
  have h3 : ∀ w, (isAgg 3).run Try.prog w = .ok false w := fun w => by kernel_rfl
  match k, hk with
  | 0, _ => simp [Instr.index, asIntOf, run_underlying Try.underlying46, h2, part, h3, num]
  | 1, _ => simp [Instr.index, asIntOf, run_underlying Try.underlying46, h2, part, h3, num]
  | 2, _ => simp [Instr.index, asIntOf, run_underlying Try.underlying46, h2, part, h3, num]
  | 3, _ => simp [Instr.index, asIntOf, run_underlying Try.underlying46, h2, part, h3, num]
  | 4, _ => simp [Instr.index, asIntOf, run_underlying Try.underlying46, h2, part, h3, num]
  | 5, _ => simp [Instr.index, asIntOf, run_underlying Try.underlying46, h2, part, h3, num]
  | 6, _ => simp [Instr.index, asIntOf, run_underlying Try.underlying46, h2, part, h3, num]
theorem res_a7 {fn : Func} {p : Tmp} (h : fn.results = #[.cell p 46]) {tmps : Array Value} {w : World} {g : Nat} {a b c d e f k : Value} (hp : tmps.getD p undef = .pointer (some ⟨g, 0, none⟩)) (hb : Blk w g 46 [a, b, c, d, e, f, k]) : (results fn tmps).run Try.prog w = .ok (.agg #[a, b, c, d, e, f, k]) w :=
  results_cell_row h tmps w g 46 #[a, b, c, d, e, f, k] (0, 0) _ hp hb Try.underlying46 rfl (by kernel_rfl)
theorem st_nilS {S : Nat → Prop} {w0 w : World} {L : List Ob} (s : St S w0 w L) : St S w0 w (L ++ [SLo w.heap.size 35 2 (.slice none 0 0) 0 []]) :=
  s.add (St.made_own (World.ownsRow_nil _ _ _ _) (Below.refl _ _))
section
variable {w : World}
theorem can_c (n : Int) (b : Bool) (h : can n = b) : Calls Try.prog 23 #[.int .i64 n] w fun e w' => e = .returned (.bool b) ∧ w' = w := by
  have key : (n < 0 ∧ b = false) ∨ (¬ n < 0 ∧ 0 ≤ n ∧ n ≤ 4294967295 ∧ b = true) ∨ (¬ n < 0 ∧ 0 ≤ n ∧ ¬ n ≤ 4294967295 ∧ b = false) := by
    unfold can at h
    subst h
    by_cases h1 : n < 0
    · exact .inl ⟨h1, by simp; omega⟩
    · by_cases h2 : n ≤ 4294967295
      · exact .inr (.inl ⟨h1, by omega, h2, by simp; omega⟩)
      · exact .inr (.inr ⟨h1, by omega, h2, by simp; omega⟩)
  clear h
  rcases key with ⟨h1, rfl⟩ | ⟨h1, h2, h3, rfl⟩ | ⟨h1, h2, h3, rfl⟩
  · have h2 : ¬ 0 ≤ n := by omega
    go_enter Try.func23, Try.ntmps23
    go_wp2
    go_ret
    exact ⟨rfl, rfl⟩
  all_goals
    go_enter Try.func23, Try.ntmps23
    go_wp2
    go_ret
    exact ⟨rfl, rfl⟩
set_option maxHeartbeats 4000000 in
theorem nums_c (v : Va) : Calls Try.prog 22 #[(.agg #[.int .i64 v.tab, .bool v.push, .int .i64 v.str, .int .i64 v.win, .int .i64 v.frm, .int .i64 v.lst])] w fun e w' => e = .returned (.agg #[.int .i64 0, .int .i64 v.tab, .int .i64 (pushN v.push), .int .i64 v.str, .int .i64 v.win, .int .i64 v.frm, .int .i64 v.lst]) ∧ Below w.heap.size w w' := by
  have S2 := Lib.hid (st2 w 23 46 [.int .i64 v.tab, .bool v.push, .int .i64 v.str, .int .i64 v.win, .int .i64 v.frm, .int .i64 v.lst] [.int .i64 0, .int .i64 0, .int .i64 0, .int .i64 0, .int .i64 0, .int .i64 0, .int .i64 0])
  go_enter Try.func22, Try.ntmps22
  go_wp2
  obtain ⟨w2, hw2⟩ : ∃ w2, w2 = ((w.alloc (.cells #[.int .i64 v.tab, .bool v.push, .int .i64 v.str, .int .i64 v.win, .int .i64 v.frm, .int .i64 v.lst] 23)).alloc (.cells #[.int .i64 0, .int .i64 0, .int .i64 0, .int .i64 0, .int .i64 0, .int .i64 0, .int .i64 0] 46)) := ⟨_, rfl⟩
  rw [← hw2] at S2 ⊢
  clear hw2
  obtain ⟨z0, z1, z2, z3, z4, z5⟩ := cells6 (St.blk0 S2.out)
  have X := St.blk1 S2.out
  have x0 := X.cell 0
  have x1 := X.cell 1
  have x2 := X.cell 2
  have x3 := X.cell 3
  have x4 := X.cell 4
  have x5 := X.cell 5
  have x6 := X.cell 6
  have fx := X.frozen
  simp only [List.getElem?_cons_zero, List.getElem?_cons_succ] at x0 x1 x2 x3 x4 x5 x6
  clear X
  refine wp_region_still_tail 14 (by kernel_rfl) (by kernel_rfl) ?_
  simp only [List.take_succ_cons, List.take_zero, List.drop_succ_cons, List.drop_zero]
  iterate 4 still_step
  still_call (pushN_c _)
  iterate 9 still_step
  refine wpStill_nil ?_
  change wpList _ _ _ _ _ w2.drew
  go_wp2
  have S3 := St.drew (St.set1 (St.set1 (St.set1 (St.set1 (St.set1 (St.set1 (St.set1 S2.out 0 (.int .i64 0)) 1 (.int .i64 v.tab)) 2 (.int .i64 (pushN v.push))) 3 (.int .i64 v.str)) 4 (.int .i64 v.win)) 5 (.int .i64 v.frm)) 6 (.int .i64 v.lst))
  exact bodyPost_ret (res_a7 (p := 2) rfl rfl (St.blk1 S3)) rfl ⟨rfl, St.below S3⟩
end
end Go.Proofs.Ythdikinpociiaaa
