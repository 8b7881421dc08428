/- Stage 9: a stream with two ends in memory: an end gets a frame. -/
import Derived.Test.YtdpheliekdgnhaaNiW
import Derived.Test.YtdpheliekdgnhaaQu
import Derived.Test.YtdpheliekdgnhaaNiI
import Derived.StillTailTactics
namespace Go.Proofs.Ytdpheliekdgnhaa
open Go.RowKit Go.Own Go.Sm
set_option linter.unusedVariables false
set_option linter.unusedSimpArgs false
set_option maxRecDepth 100000
def qC (q : List (Int × Bool)) : List Value := q.flatMap fun f => [.int .i64 f.1, .bool f.2]
theorem qC_cons (f : Int × Bool) (q : List (Int × Bool)) : qC (f :: q) = .int .i64 f.1 :: .bool f.2 :: qC q := rfl
theorem qC_app (q r : List (Int × Bool)) : qC (q ++ r) = qC q ++ qC r := by simp [qC]
/-- the line at block p: its ends' states, and what is on its way to each -/
abbrev LnL (p : Nat) (a b : S7) (v0 v1 : Value) (q0 q1 : List (Int × Bool)) (L : List Ob) : List Ob :=
  BLo p 34 [.int .i64 a.num, .int .i64 b.num, v0, v1] :: QO 39 2 v0 q0.length (qC q0) :: QO 39 2 v1 q1.length (qC q1) :: L
section
variable {S : Nat → Prop} {w0 w : World} {L : List Ob} {p : Nat} {a b : S7} {v0 v1 : Value} {q0 q1 : List (Int × Bool)}
theorem see_l (s : St S w0 w (LnL p a b v0 v1 q0 q1 L)) : p < w.heap.size ∧ w.cell? ⟨p, 0, none⟩ = some (.int .i64 a.num) ∧ w.cell? ⟨p, 1, none⟩ = some (.int .i64 b.num) ∧ w.cell? ⟨p, 2, none⟩ = some v0 ∧ w.cell? ⟨p, 3, none⟩ = some v1 ∧ ∀ i, w.frozen? ⟨p, i, none⟩ = false := by
  have hb : Blk w p _ _ := St.blk0 s
  exact ⟨hb.lt, hb.cell 0, hb.cell 1, hb.cell 2, hb.cell 3, hb.frozen⟩
theorem qu0 (s : St S w0 w (LnL p a b v0 v1 q0 q1 L)) : ∃ F, Qu 39 2 w v0 F q0.length (qC q0) := by
  obtain ⟨F, h, _⟩ := St.focus1 s
  exact ⟨F, h⟩
theorem qu1 (s : St S w0 w (LnL p a b v0 v1 q0 q1 L)) : ∃ F, Qu 39 2 w v1 F q1.length (qC q1) := by
  obtain ⟨F, h, _⟩ := St.focus2 s
  exact ⟨F, h⟩




/-- the first one goes, end 0 -/
theorem tailA0 {f : Int × Bool} {g o : Nat} (h0 : q0 = []) (s : St S w0 w (LnL p a b (.slice (some ⟨g, o, none⟩) (q0.length + 1) 1) v1 (f :: q0) q1 L)) :
    St S w0 (w.setCell ⟨p, 2, none⟩ (.slice (some ⟨g, o, none⟩) 0 0)) (LnL p a b (.slice (some ⟨g, o, none⟩) 0 0) v1 q0 q1 L) := by
  subst h0
  exact St.as1 (St.set0 s 2 (.slice (some ⟨g, o, none⟩) 0 0)) (framed_QO ..) fun F h => Qu.tail (n := 0) h
theorem tailB0 {f : Int × Bool} {g o c : Nat} (h0 : ¬ c = 1) (s : St S w0 w (LnL p a b (.slice (some ⟨g, o, none⟩) (q0.length + 1) c) v1 (f :: q0) q1 L)) :
    St S w0 (w.setCell ⟨p, 2, none⟩ (.slice (some ⟨g, o + 2, none⟩) q0.length (c - 1))) (LnL p a b (.slice (some ⟨g, o + 2, none⟩) q0.length (c - 1)) v1 q0 q1 L) := by
  refine St.as1 (St.set0 s 2 (.slice (some ⟨g, o + 2, none⟩) q0.length (c - 1))) (framed_QO ..) fun F h => ?_
  have := Qu.tail h
  rw [if_neg h0] at this
  exact this

/-- the first one goes, end 1 -/
theorem tailA1 {f : Int × Bool} {g o : Nat} (h0 : q1 = []) (s : St S w0 w (LnL p a b v0 (.slice (some ⟨g, o, none⟩) (q1.length + 1) 1) q0 (f :: q1) L)) :
    St S w0 (w.setCell ⟨p, 3, none⟩ (.slice (some ⟨g, o, none⟩) 0 0)) (LnL p a b v0 (.slice (some ⟨g, o, none⟩) 0 0) q0 q1 L) := by
  subst h0
  exact St.as2 (St.set0 s 3 (.slice (some ⟨g, o, none⟩) 0 0)) (framed_QO ..) fun F h => Qu.tail (n := 0) h
theorem tailB1 {f : Int × Bool} {g o c : Nat} (h0 : ¬ c = 1) (s : St S w0 w (LnL p a b v0 (.slice (some ⟨g, o, none⟩) (q1.length + 1) c) q0 (f :: q1) L)) :
    St S w0 (w.setCell ⟨p, 3, none⟩ (.slice (some ⟨g, o + 2, none⟩) q1.length (c - 1))) (LnL p a b v0 (.slice (some ⟨g, o + 2, none⟩) q1.length (c - 1)) q0 q1 L) := by
  refine St.as2 (St.set0 s 3 (.slice (some ⟨g, o + 2, none⟩) q1.length (c - 1))) (framed_QO ..) fun F h => ?_
  have := Qu.tail h
  rw [if_neg h0] at this
  exact this

theorem step_l {W : World} (s : Int) (b : Bool) (k : Int) (fin : Bool) (n d c : Int) (h : stepV s b k fin = (n, d, c)) : Calls Try.prog 10 #[.int .i64 s, .bool b, .int .i64 k, .bool fin] W fun r w' => r = .returned (.tuple #[.int .i64 n, .int .i64 d, .int .u32 c]) ∧ w' = W := step_c s b k fin _ h

set_option maxHeartbeats 4000000 in
theorem get0_none (s : St S w0 w (LnL p a b v0 v1 [] q1 L)) : Calls Try.prog 12 #[.pointer (some ⟨p, 0, none⟩), .int .i64 0] w fun e w' => e = .returned (.bool true) ∧ w' = w := by
  obtain ⟨hl, z0, z1, z2, z3, _⟩ := see_l s
  obtain ⟨F, h⟩ := qu0 s
  obtain ⟨A, c, rfl, _⟩ := h.rd
  clear s h
  go_enter Try.func12, Try.ntmps12
  go_wp2
  go_ret
  exact ⟨rfl, rfl⟩
set_option maxHeartbeats 8000000 in
theorem get0_some {f : Int × Bool} (s : St S w0 w (LnL p a b v0 v1 (f :: q0) q1 L)) (hs : (stepA a false (cls f.1 f.2)).2 ≠ 2) :
    Calls Try.prog 12 #[.pointer (some ⟨p, 0, none⟩), .int .i64 0] w fun r w' => r = .returned (.bool true) ∧ ∃ v', St S w0 w' (LnL p (stepA a false (cls f.1 f.2)).1 b v' v1 q0 q1 L) := by
  obtain ⟨hl, z0, z1, z2, z3, zf0⟩ := see_l s
  obtain ⟨F, h⟩ := qu0 s
  obtain ⟨g, o, c, rfl, h1, h2, hr⟩ := Qu.nonempty (n := q0.length) h
  obtain ⟨d, cc, hd, hst⟩ := step_get a f.1 f.2 hs
  obtain ⟨a', ha⟩ : ∃ a', (stepA a false (cls f.1 f.2)).1 = a' := ⟨_, rfl⟩
  rw [ha] at hst ⊢
  have HX := Lib.hid hst
  obtain ⟨b5, o5, hA, hc⟩ := hr.2 (by omega)
  cases hA
  have d0 : w.cell? ⟨g, o, none⟩ = some (.int .i64 f.1) := hc 0 _ rfl
  have d1 : w.cell? ⟨g, o + 1, none⟩ = some (.bool f.2) := hc 1 _ rfl
  obtain ⟨fk, fe⟩ := f
  simp only at d0 d1
  have hc1 : c = 1 ∨ ¬ c = 1 := by omega
  have t1 : St S w0 (w.alloc (.cells #[.int .i64 fk, .bool fe] 39)) (LnL p a b (.slice (some ⟨g, o, none⟩) (q0.length + 1) c) v1 ((fk, fe) :: q0) q1 (L ++ [BLo w.heap.size 39 [.int .i64 fk, .bool fe]])) := St.block s 39 [.int .i64 fk, .bool fe]
  have H1 := Lib.hid t1
  obtain ⟨r, hr0⟩ : ∃ r, w.heap.size = r := ⟨_, rfl⟩
  rw [hr0] at H1
  clear h hr hst hs ha s hc zf0 t1
  go_enter Try.func12, Try.ntmps12
  go_wp2
  generalize w.alloc (.cells #[.int .i64 fk, .bool fe] 39) = W1 at H1 ⊢
  clear z0 z1 z2 z3 d0 d1 hl hr0
  obtain ⟨hl, z0, z1, z2, z3, zf0⟩ := see_l H1.out
  have zg := zf0 2
  have hlt : q0.length < c := by omega
  have hlu : (1 : Int) ≤ (q0.length : Int) + 1 := by omega
  rcases hc1 with rfl | hc1
  · have h0 : q0.length = 0 := by omega
    have T2 := Lib.hid (St.drew (tailA0 (List.eq_nil_of_length_eq_zero h0) H1.out))
    go_still_tail 12, (by kernel_rfl)
    change wpList _ _ _ _ _ W1.drew
    go_wp2
    generalize (W1.setCell ⟨p, 2, none⟩ (.slice (some ⟨g, o, none⟩) 0 0)).drew = W2 at T2 ⊢
    clear z0 z1 z2 z3 hl zf0 zg H1
    obtain ⟨hl, z0, z1, z2, z3, zf0⟩ := see_l T2.out
    have zg := zf0 0
    have hbx := St.blk (LnL p a b _ _ _ _ L) [] T2.out
    have x0 := hbx.cell 0
    have x1 := hbx.cell 1
    have xl := hbx.lt
    simp only [List.getElem?_cons_zero, List.getElem?_cons_succ] at x0 x1
    clear hbx
    refine wp_region_still_lit (by kernel_rfl) (by kernel_rfl) ?_
    iterate 10 still_step
    still_call (step_l _ _ _ _ _ _ _ HX.out)
    iterate 7 still_step
    refine wpStill_nil ?_
    have T3 := Lib.hid (St.set0 (St.drew T2.out) 0 (.int .i64 a'.num))
    rcases hd with rfl | rfl
    all_goals
      go_wp2
      go_ret
      refine ⟨rfl, (.slice (some ⟨g, o, none⟩) 0 0), ?_⟩
      have h := St.drop (LnL p a' b _ _ _ _ L) _ [] T3.out
      rw [List.append_nil] at h
      exact h
  · have T2 := Lib.hid (St.drew (tailB0 hc1 H1.out))
    go_still_tail 12, (by kernel_rfl)
    change wpList _ _ _ _ _ W1.drew
    go_wp2
    generalize (W1.setCell ⟨p, 2, none⟩ (.slice (some ⟨g, o + 2, none⟩) q0.length (c - 1))).drew = W2 at T2 ⊢
    clear z0 z1 z2 z3 hl zf0 zg H1
    obtain ⟨hl, z0, z1, z2, z3, zf0⟩ := see_l T2.out
    have zg := zf0 0
    have hbx := St.blk (LnL p a b _ _ _ _ L) [] T2.out
    have x0 := hbx.cell 0
    have x1 := hbx.cell 1
    have xl := hbx.lt
    simp only [List.getElem?_cons_zero, List.getElem?_cons_succ] at x0 x1
    clear hbx
    refine wp_region_still_lit (by kernel_rfl) (by kernel_rfl) ?_
    iterate 10 still_step
    still_call (step_l _ _ _ _ _ _ _ HX.out)
    iterate 7 still_step
    refine wpStill_nil ?_
    have T3 := Lib.hid (St.set0 (St.drew T2.out) 0 (.int .i64 a'.num))
    rcases hd with rfl | rfl
    all_goals
      go_wp2
      go_ret
      refine ⟨rfl, (.slice (some ⟨g, o + 2, none⟩) q0.length (c - 1)), ?_⟩
      have h := St.drop (LnL p a' b _ _ _ _ L) _ [] T3.out
      rw [List.append_nil] at h
      exact h
set_option maxHeartbeats 4000000 in
theorem get1_none (s : St S w0 w (LnL p a b v0 v1 q0 [] L)) : Calls Try.prog 12 #[.pointer (some ⟨p, 0, none⟩), .int .i64 1] w fun e w' => e = .returned (.bool true) ∧ w' = w := by
  obtain ⟨hl, z0, z1, z2, z3, _⟩ := see_l s
  obtain ⟨F, h⟩ := qu1 s
  obtain ⟨A, c, rfl, _⟩ := h.rd
  clear s h
  go_enter Try.func12, Try.ntmps12
  go_wp2
  go_ret
  exact ⟨rfl, rfl⟩
set_option maxHeartbeats 8000000 in
theorem get1_some {f : Int × Bool} (s : St S w0 w (LnL p a b v0 v1 q0 (f :: q1) L)) (hs : (stepA b false (cls f.1 f.2)).2 ≠ 2) :
    Calls Try.prog 12 #[.pointer (some ⟨p, 0, none⟩), .int .i64 1] w fun r w' => r = .returned (.bool true) ∧ ∃ v', St S w0 w' (LnL p a (stepA b false (cls f.1 f.2)).1 v0 v' q0 q1 L) := by
  obtain ⟨hl, z0, z1, z2, z3, zf0⟩ := see_l s
  obtain ⟨F, h⟩ := qu1 s
  obtain ⟨g, o, c, rfl, h1, h2, hr⟩ := Qu.nonempty (n := q1.length) h
  obtain ⟨d, cc, hd, hst⟩ := step_get b f.1 f.2 hs
  obtain ⟨a', ha⟩ : ∃ a', (stepA b false (cls f.1 f.2)).1 = a' := ⟨_, rfl⟩
  rw [ha] at hst ⊢
  have HX := Lib.hid hst
  obtain ⟨b5, o5, hA, hc⟩ := hr.2 (by omega)
  cases hA
  have d0 : w.cell? ⟨g, o, none⟩ = some (.int .i64 f.1) := hc 0 _ rfl
  have d1 : w.cell? ⟨g, o + 1, none⟩ = some (.bool f.2) := hc 1 _ rfl
  obtain ⟨fk, fe⟩ := f
  simp only at d0 d1
  have hc1 : c = 1 ∨ ¬ c = 1 := by omega
  have t1 : St S w0 (w.alloc (.cells #[.int .i64 fk, .bool fe] 39)) (LnL p a b v0 (.slice (some ⟨g, o, none⟩) (q1.length + 1) c) q0 ((fk, fe) :: q1) (L ++ [BLo w.heap.size 39 [.int .i64 fk, .bool fe]])) := St.block s 39 [.int .i64 fk, .bool fe]
  have H1 := Lib.hid t1
  obtain ⟨r, hr0⟩ : ∃ r, w.heap.size = r := ⟨_, rfl⟩
  rw [hr0] at H1
  clear h hr hst hs ha s hc zf0 t1
  go_enter Try.func12, Try.ntmps12
  go_wp2
  generalize w.alloc (.cells #[.int .i64 fk, .bool fe] 39) = W1 at H1 ⊢
  clear z0 z1 z2 z3 d0 d1 hl hr0
  obtain ⟨hl, z0, z1, z2, z3, zf0⟩ := see_l H1.out
  have zg := zf0 3
  have hlt : q1.length < c := by omega
  have hlu : (1 : Int) ≤ (q1.length : Int) + 1 := by omega
  rcases hc1 with rfl | hc1
  · have h0 : q1.length = 0 := by omega
    have T2 := Lib.hid (St.drew (tailA1 (List.eq_nil_of_length_eq_zero h0) H1.out))
    go_still_tail 12, (by kernel_rfl)
    change wpList _ _ _ _ _ W1.drew
    go_wp2
    generalize (W1.setCell ⟨p, 3, none⟩ (.slice (some ⟨g, o, none⟩) 0 0)).drew = W2 at T2 ⊢
    clear z0 z1 z2 z3 hl zf0 zg H1
    obtain ⟨hl, z0, z1, z2, z3, zf0⟩ := see_l T2.out
    have zg := zf0 1
    have hbx := St.blk (LnL p a b _ _ _ _ L) [] T2.out
    have x0 := hbx.cell 0
    have x1 := hbx.cell 1
    have xl := hbx.lt
    simp only [List.getElem?_cons_zero, List.getElem?_cons_succ] at x0 x1
    clear hbx
    refine wp_region_still_lit (by kernel_rfl) (by kernel_rfl) ?_
    iterate 10 still_step
    still_call (step_l _ _ _ _ _ _ _ HX.out)
    iterate 7 still_step
    refine wpStill_nil ?_
    have T3 := Lib.hid (St.set0 (St.drew T2.out) 1 (.int .i64 a'.num))
    rcases hd with rfl | rfl
    all_goals
      go_wp2
      go_ret
      refine ⟨rfl, (.slice (some ⟨g, o, none⟩) 0 0), ?_⟩
      have h := St.drop (LnL p a a' _ _ _ _ L) _ [] T3.out
      rw [List.append_nil] at h
      exact h
  · have T2 := Lib.hid (St.drew (tailB1 hc1 H1.out))
    go_still_tail 12, (by kernel_rfl)
    change wpList _ _ _ _ _ W1.drew
    go_wp2
    generalize (W1.setCell ⟨p, 3, none⟩ (.slice (some ⟨g, o + 2, none⟩) q1.length (c - 1))).drew = W2 at T2 ⊢
    clear z0 z1 z2 z3 hl zf0 zg H1
    obtain ⟨hl, z0, z1, z2, z3, zf0⟩ := see_l T2.out
    have zg := zf0 1
    have hbx := St.blk (LnL p a b _ _ _ _ L) [] T2.out
    have x0 := hbx.cell 0
    have x1 := hbx.cell 1
    have xl := hbx.lt
    simp only [List.getElem?_cons_zero, List.getElem?_cons_succ] at x0 x1
    clear hbx
    refine wp_region_still_lit (by kernel_rfl) (by kernel_rfl) ?_
    iterate 10 still_step
    still_call (step_l _ _ _ _ _ _ _ HX.out)
    iterate 7 still_step
    refine wpStill_nil ?_
    have T3 := Lib.hid (St.set0 (St.drew T2.out) 1 (.int .i64 a'.num))
    rcases hd with rfl | rfl
    all_goals
      go_wp2
      go_ret
      refine ⟨rfl, (.slice (some ⟨g, o + 2, none⟩) q1.length (c - 1)), ?_⟩
      have h := St.drop (LnL p a a' _ _ _ _ L) _ [] T3.out
      rw [List.append_nil] at h
      exact h
end
end Go.Proofs.Ytdpheliekdgnhaa
