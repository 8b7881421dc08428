/- Stage 9: what each law looks at first. -/
import Derived.Test.YtdpheliekdgnhaaNiH
import Derived.Laws.StructEq
namespace Go.Proofs.Ytdpheliekdgnhaa
open Go.RowKit Go.Own Go.Sm
set_option linter.unusedVariables false
set_option linter.unusedSimpArgs false
set_option maxRecDepth 100000
theorem flt_eql (b : Bool) (c s : Int) (W : World) : (binOp .eql 50 (.agg #[.bool b, .int .u32 c, .int .i64 s]) (.agg #[.bool b, .int .u32 c, .int .i64 s])).run Try.prog W = .ok (.bool true) W := by
  rw [run_eql_struct, run_equalIn_agg _ _ _ _ _ (by kernel_rfl) (by kernel_rfl)]
  simp [Program.fieldsOf, Try.underlying50, Op.eqFields, go_sem]
set_option maxHeartbeats 8000000 in
theorem shown_c (w : World) : Calls Try.prog 9 #[] w fun e w' => e = .returned (.bool true) ∧ Below w.heap.size w w' := by
  have a1 : Hid (stepV 3 false 0 false = (5, 2, 5)) := by unfold Hid; decide
  have a2 : Hid (stepV 4 true 0 false = (4, 4, 2)) := by unfold Hid; decide
  have n1 : Hid (newI true 1 = ⟨true, 0, 2, 1, 2147483647, [], []⟩) := rfl
  have o1 : Hid (openF ⟨true, 0, 2, 1, 2147483647, [], []⟩ 3 = (false, 0, 0)) := by unfold Hid; decide
  have o2 : Hid (openS ⟨true, 0, 2, 1, 2147483647, [], []⟩ 3 = ⟨true, 3, 2, 1, 2147483647, [3], []⟩) := rfl
  have p1 : Hid (openF ⟨true, 3, 2, 1, 2147483647, [3], []⟩ 1 = (true, 1, 0)) := by unfold Hid; decide
  have p2 : Hid (openS ⟨true, 3, 2, 1, 2147483647, [3], []⟩ 1 = ⟨true, 3, 2, 1, 2147483647, [3], []⟩) := rfl
  have q1 : Hid (openF ⟨true, 3, 2, 1, 2147483647, [3], []⟩ 5 = (true, 7, 5)) := by unfold Hid; decide
  have q2 : Hid (openS ⟨true, 3, 2, 1, 2147483647, [3], []⟩ 5 = ⟨true, 5, 2, 1, 2147483647, [3], []⟩) := rfl
  have m1 : Hid (nextV ⟨true, 5, 2, 1, 2147483647, [3], []⟩ = (2, 0)) := by unfold Hid; decide
  have m2 : Hid (nextS ⟨true, 5, 2, 1, 2147483647, [3], []⟩ = ⟨true, 5, 4, 1, 2147483647, [3], [2]⟩) := rfl
  have i3 : Hid (i64i 3) := by unfold Hid i64i; decide
  have i1 : Hid (i64i 1) := by unfold Hid i64i; decide
  have i5 : Hid (i64i 5) := by unfold Hid i64i; decide
  have b0 : Hid (([] : List Int).length < 1000000) := by unfold Hid; decide
  have b1' : Hid (([3] : List Int).length < 1000000) := by unfold Hid; decide
  have c0 : Hid (classV ⟨true, 0, 2, 1, 2147483647, [], []⟩ 3 = 1 → ¬ (3 : Int) ∈ ([] : List Int)) := by unfold Hid; decide
  have c1 : Hid (classV ⟨true, 3, 2, 1, 2147483647, [3], []⟩ 1 = 1 → ¬ (1 : Int) ∈ ([3] : List Int)) := by unfold Hid; decide
  have c5 : Hid (classV ⟨true, 3, 2, 1, 2147483647, [3], []⟩ 5 = 1 → ¬ (5 : Int) ∈ ([3] : List Int)) := by unfold Hid; decide
  have c2 : Hid (¬ (2 : Int) ∈ ([] : List Int)) := by unfold Hid; decide
  have c3 : Hid ((0 : Int) ≤ 2) := by unfold Hid; decide
  have E1 := fun W => flt_eql true 1 0 W
  have E2 := fun W => flt_eql true 7 5 W
  go_enter Try.func9, Try.ntmps9
  go_wp2_with (first
    | (go_at_call 10; (with_reducible refine (step_c 3 false 0 false _ a1.out).mono ?_); rintro e w1 ⟨rfl, rfl⟩)
    | (go_at_call 10; (with_reducible refine (step_c 4 true 0 false _ a2.out).mono ?_); rintro e w1 ⟨rfl, rfl⟩)
    | (go_at_call 13; (with_reducible refine (new_c _ true 1 _ n1.out).mono ?_); rintro e w1 ⟨p, s1, s2, rfl, t1⟩
       have T1 := Lib.hid t1
       clear t1)
    | (go_at_call 15; (with_reducible refine (open_l T1.out 3 i3.out _ _ _ _ o1.out o2.out b0.out c0.out).mono ?_); rintro e w2 ⟨rfl, t2⟩
       have t2' : St _ _ _ (IdL p s1 s2 ⟨true, 3, 2, 1, 2147483647, [3], []⟩ [BLo w2.heap.size 50 [.bool false, .int .u32 0, .int .i64 0]]) := St.block t2 50 [.bool false, .int .u32 0, .int .i64 0]
       have T2 := Lib.hid t2'
       clear t2 t2')
    | (go_at_call 15; (with_reducible refine (open_l T2.out 1 i1.out _ _ _ _ p1.out p2.out b1'.out c1.out).mono ?_); rintro e w3 ⟨rfl, t3⟩
       have t3' : St _ _ _ (IdL p s1 s2 ⟨true, 3, 2, 1, 2147483647, [3], []⟩ [BLo w2.heap.size 50 [.bool false, .int .u32 0, .int .i64 0], BLo w3.heap.size 50 [.bool true, .int .u32 1, .int .i64 0]]) := St.block t3 50 [.bool true, .int .u32 1, .int .i64 0]
       have T3 := Lib.hid t3'
       clear t3 t3')
    | (go_at_call 15; (with_reducible refine (open_l T3.out 5 i5.out _ _ _ _ q1.out q2.out b1'.out c5.out).mono ?_); rintro e w4 ⟨rfl, t4⟩
       have t4' : St _ _ _ (IdL p s1 s2 ⟨true, 5, 2, 1, 2147483647, [3], []⟩ [BLo w2.heap.size 50 [.bool false, .int .u32 0, .int .i64 0], BLo w3.heap.size 50 [.bool true, .int .u32 1, .int .i64 0], BLo w4.heap.size 50 [.bool true, .int .u32 7, .int .i64 5]]) := St.block t4 50 [.bool true, .int .u32 7, .int .i64 5]
       have T4 := Lib.hid t4'
       clear t4 t4')
    | (go_at_call 17; (with_reducible refine (next_c T4.out _ _ _ m1.out m2.out b0.out c2.out c3.out).mono ?_); rintro e w5 ⟨rfl, t5⟩
       have h3 := St.blk3 t5
       have h4 := St.blk4 t5
       have h5 := St.blk5 t5
       have u0 : w5.cell? ⟨w2.heap.size, 0, none⟩ = some (.bool false) := h3.cell 0
       have u10 : w5.cell? ⟨w3.heap.size, 0, none⟩ = some (.bool true) := h4.cell 0
       have u11 : w5.cell? ⟨w3.heap.size, 1, none⟩ = some (.int .u32 1) := h4.cell 1
       have u12 : w5.cell? ⟨w3.heap.size, 2, none⟩ = some (.int .i64 0) := h4.cell 2
       have u20 : w5.cell? ⟨w4.heap.size, 0, none⟩ = some (.bool true) := h5.cell 0
       have u21 : w5.cell? ⟨w4.heap.size, 1, none⟩ = some (.int .u32 7) := h5.cell 1
       have u22 : w5.cell? ⟨w4.heap.size, 2, none⟩ = some (.int .i64 5) := h5.cell 2
       have l3 := h3.lt
       have l4 := h4.lt
       have l5 := h5.lt
       have T5 := Lib.hid t5
       clear t5 h3 h4 h5)
    | (go_at_call 29; (with_reducible refine (last_c T5.out).mono ?_); rintro e w6 ⟨rfl, rfl⟩))
  go_ret
  exact ⟨rfl, T5.out.below⟩
end Go.Proofs.Ytdpheliekdgnhaa
