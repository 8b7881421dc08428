/- Stage 10: Request. -/
import Derived.Test.YtilabahcngjflaaDoorJiJ
namespace Go.Proofs.YtilabahcngjflaaDoor
open Go.RowKit Go.Own Go.Tbl Go.Fie
set_option linter.unusedVariables false
set_option linter.unusedSimpArgs false
set_option maxRecDepth 100000
theorem okL_is {s : ByteArray} (h : okL s = true) : s.size ≤ 18 ∧ s.size ≠ 0 ∧ digs s = true := by
  unfold okL at h
  simp only [Bool.and_eq_true, decide_eq_true_eq] at h
  exact ⟨by omega, h.1.1, h.2⟩
theorem seen_q {l : List Fld} {g : Sn} (h : lookF four true none0 l = some g) : (∀ f, g nStatus = some f → f.v.size ≤ 18 ∧ f.v.size ≠ 0 ∧ digs f.v = true) ∧ (∀ f, g nCL = some f → f.v.size ≤ 18 ∧ f.v.size ≠ 0 ∧ digs f.v = true) := by
  refine ⟨fun f hf => ?_, fun f hf => okL_is (look_len four (fun hm => ?_) _ _ _ _ h (fun f hf => by cases hf) f hf)⟩
  · rcases look_from four nStatus (by decide +kernel) _ _ _ _ h f hf with h0 | ⟨_, _, h3⟩
    · cases h0
    · rw [← mem_iff, show mem four nStatus = false by decide +kernel] at h3
      cases h3
  · rw [← mem_iff, show mem four nCL = false by decide +kernel] at hm
    cases hm
set_option maxHeartbeats 4000000 in
theorem request_c {w : World} {A : Option Addr} {n c : Nat} {l : List Fld} (hr : Rd w 3 A n (fcellsL l)) (hok : ∀ f ∈ l, fok f) (hn : n ≤ 9223372036854775807) (M S A1 P : ByteArray) (st len : Int) (hN : (request l).getD msg0 = ⟨M, S, A1, P, st, len⟩) :
    Calls Tryd.prog 14 #[.slice A n c] w fun e w' => e = .returned (.tuple #[.agg #[.string M, .string S, .string A1, .string P, .int .i64 st, .int .i64 len], .bool (request l).isSome]) ∧ Below w.heap.size w w' := by
  have hmf : ∀ (fn : Fn) (first cap : Array Value) (w : World), (Instr.makeFunc fn first cap).run Tryd.prog w = .ok (.func fn first cap) w := fun _ _ _ _ => rfl
  have HN := Lib.hid hN
  have hb3 : Below w.heap.size w (((w.alloc (.cells #[.string ⟨#[]⟩, .string ⟨#[]⟩, .string ⟨#[]⟩, .string ⟨#[]⟩, .int .i64 0, .int .i64 0] 28)).alloc (.cells #[.bool false] 4)).alloc (.cells #[.string nMethod, .string nScheme, .string nAuth, .string nPath] 9)) := (((Below.refl _ _).alloc (Nat.le_refl _) _).alloc (by simp) _).alloc (by simp; omega) _
  have hx0 : Blk (((w.alloc (.cells #[.string ⟨#[]⟩, .string ⟨#[]⟩, .string ⟨#[]⟩, .string ⟨#[]⟩, .int .i64 0, .int .i64 0] 28)).alloc (.cells #[.bool false] 4)).alloc (.cells #[.string nMethod, .string nScheme, .string nAuth, .string nPath] 9)) w.heap.size 28 [.string ⟨#[]⟩, .string ⟨#[]⟩, .string ⟨#[]⟩, .string ⟨#[]⟩, .int .i64 0, .int .i64 0] := ((Blk.new w 28 [.string ⟨#[]⟩, .string ⟨#[]⟩, .string ⟨#[]⟩, .string ⟨#[]⟩, .int .i64 0, .int .i64 0]).alloc _).alloc _
  have hy0 : Blk (((w.alloc (.cells #[.string ⟨#[]⟩, .string ⟨#[]⟩, .string ⟨#[]⟩, .string ⟨#[]⟩, .int .i64 0, .int .i64 0] 28)).alloc (.cells #[.bool false] 4)).alloc (.cells #[.string nMethod, .string nScheme, .string nAuth, .string nPath] 9)) (w.heap.size + 1) 4 [.bool false] := by
    have := (Blk.new (w.alloc (.cells #[.string ⟨#[]⟩, .string ⟨#[]⟩, .string ⟨#[]⟩, .string ⟨#[]⟩, .int .i64 0, .int .i64 0] 28)) 4 [.bool false]).alloc (.cells #[.string nMethod, .string nScheme, .string nAuth, .string nPath] 9)
    rwa [show (w.alloc (.cells #[.string ⟨#[]⟩, .string ⟨#[]⟩, .string ⟨#[]⟩, .string ⟨#[]⟩, .int .i64 0, .int .i64 0] 28)).heap.size = w.heap.size + 1 by simp] at this
  have hrn : Rd (((w.alloc (.cells #[.string ⟨#[]⟩, .string ⟨#[]⟩, .string ⟨#[]⟩, .string ⟨#[]⟩, .int .i64 0, .int .i64 0] 28)).alloc (.cells #[.bool false] 4)).alloc (.cells #[.string nMethod, .string nScheme, .string nAuth, .string nPath] 9)) 1 (some ⟨w.heap.size + 1 + 1, 0, none⟩) 4 ((four : List ByteArray).map Value.string) := by
    have := Rd.of_blk (n := 4) (size := 1) (Blk.new ((w.alloc (.cells #[.string ⟨#[]⟩, .string ⟨#[]⟩, .string ⟨#[]⟩, .string ⟨#[]⟩, .int .i64 0, .int .i64 0] 28)).alloc (.cells #[.bool false] 4)) 9 [.string nMethod, .string nScheme, .string nAuth, .string nPath]) (by simp)
    simpa [four] using this
  have hl := fun (cn : Nat) => look_c (c := c) (cn := cn) (hr.below hb3) hok hn hrn (by omega)
  have hok2 := hok
  have HL := Lib.hid (hl 4)
  have HX0 := Lib.hid hx0
  have HY0 := Lib.hid hy0
  have HB0 := Lib.hid hb3
  have Hok := Lib.hid hok
  clear hN hb3 hx0 hy0 hrn hl hok hr
  cases hR : lookF four true none0 l with
  | none =>
    have hnone : request l = none := by unfold request; rw [hR]
    rw [hR] at HL
    go_enter_defers Tryd.func14, Tryd.ntmps14
    go_wp2_with (first
      | (go_at_call 23; (with_reducible refine HL.out.mono ?_); rintro e w4 ⟨hb, rfl⟩; have HB := Lib.hid (HB0.out.trans (hb.mono HB0.out.size)); have HX := Lib.hid (HX0.out.below hb HX0.out.lt); have HY1 := Lib.hid (HY0.out.below hb HY0.out.lt); clear hb))
    have HY := Lib.hid (And.intro (HY1.out.cell 0) (HY1.out.frozen 0))
    simp only [List.getElem?_cons_zero] at HY
    refine leaves_cons (f := 21) (args := #[.pointer (some ⟨w.heap.size + 1, 0, none⟩)]) (by simp) (by simp [go_sem]) ?_
    refine (catchQ_up ⟨w.heap.size + 1, 0, none⟩ false _ HY.out.1 HY.out.2).mono ?_
    rintro e u' w'' ⟨rfl, rfl, hc6, hf⟩
    have hx6 := HX.out.fr hf (by simp)
    obtain ⟨z0, z1, z2, z3, z4, z5⟩ := cells6 hx6
    have hM : M = ⟨#[]⟩ ∧ S = ⟨#[]⟩ ∧ A1 = ⟨#[]⟩ ∧ P = ⟨#[]⟩ ∧ st = 0 ∧ len = 0 := by
      have := HN.out
      simp only [hnone, Option.getD_none, msg0, Msg.mk.injEq] at this
      obtain ⟨h1, h2, h3, h4, h5, h6⟩ := this
      exact ⟨h1.symm, h2.symm, h3.symm, h4.symm, h5.symm, h6.symm⟩
    obtain ⟨rfl, rfl, rfl, rfl, rfl, rfl⟩ := hM
    have hend : Below w.heap.size w w'' := HB.out.trans (hf.below HB.out.size (fun i _ e => by simp at e; omega))
    simp [Leaves, settle, results, Tryd.results14, go_sem, hc6, z0, z1, z2, z3, z4, z5]
    exact ⟨by rw [hnone], hend⟩
  | some g =>
    rw [hR] at HL
    cases hq : mustQ g
    · have hnone : request l = none := by unfold request; rw [hR]; simp only [hq, cond_false]
      have HMQ : Hid (∀ (w2 : World) (b k : Nat), MSn w2 b g k → Calls Tryd.prog 24 #[.map (some b)] w2 fun e w' => e = .panicked [{ v := .iface 59 (.agg #[]), recovered := false }] ∧ Below w2.heap.size w2 w') := fun w2 b k h => by
        have := mustQ_c h
        rw [hq] at this
        exact this
      have HRR := Lib.hid hR
      clear hq hR
      go_enter_defers Tryd.func14, Tryd.ntmps14
      go_wp2_with (first
        | (go_at_call 23; (with_reducible refine HL.out.mono ?_); rintro e w4 ⟨hb, b, k, rfl, hms⟩; have HB := Lib.hid (HB0.out.trans (hb.mono HB0.out.size)); have HX := Lib.hid (HX0.out.below hb HX0.out.lt); have HY1 := Lib.hid (HY0.out.below hb HY0.out.lt); have HM := Lib.hid hms; clear hb hms)
        | (go_at_call 24; (with_reducible refine (HMQ.out _ _ _ HM.out).mono ?_); rintro e w5 ⟨rfl, hb⟩; have hb2 := HB.out.trans (hb.mono HB.out.size); have hx2 := HX.out.below hb HX.out.lt; have hy2 := HY1.out.below hb HY1.out.lt; clear HB HX HY1; have HB := Lib.hid hb2; have HX := Lib.hid hx2; have HY1 := Lib.hid hy2; clear hb hb2 hx2 hy2))
      have HY := Lib.hid (And.intro (HY1.out.cell 0) (HY1.out.frozen 0))
      simp only [List.getElem?_cons_zero] at HY
      refine leaves_cons (f := 21) (args := #[.pointer (some ⟨w.heap.size + 1, 0, none⟩)]) (by simp) (by simp [go_sem]) ?_
      refine (catchQ_up ⟨w.heap.size + 1, 0, none⟩ false _ HY.out.1 HY.out.2).mono ?_
      rintro e u' w'' ⟨rfl, rfl, hc6, hf⟩
      have hx6 := HX.out.fr hf (by simp)
      obtain ⟨z0, z1, z2, z3, z4, z5⟩ := cells6 hx6
      have hM : M = ⟨#[]⟩ ∧ S = ⟨#[]⟩ ∧ A1 = ⟨#[]⟩ ∧ P = ⟨#[]⟩ ∧ st = 0 ∧ len = 0 := by
        have := HN.out
        simp only [hnone, Option.getD_none, msg0, Msg.mk.injEq] at this
        obtain ⟨h1, h2, h3, h4, h5, h6⟩ := this
        exact ⟨h1.symm, h2.symm, h3.symm, h4.symm, h5.symm, h6.symm⟩
      obtain ⟨rfl, rfl, rfl, rfl, rfl, rfl⟩ := hM
      have hend : Below w.heap.size w w'' := HB.out.trans (hf.below HB.out.size (fun i _ e => by simp at e; omega))
      simp [Leaves, settle, results, Tryd.results14, go_sem, hc6, z0, z1, z2, z3, z4, z5]
      exact ⟨by rw [hnone], hend⟩
    · have hsome : request l = some (msg g) := by unfold request; rw [hR]; simp only [hq, cond_true]
      have HMQ : Hid (∀ (w2 : World) (b k : Nat), MSn w2 b g k → Calls Tryd.prog 24 #[.map (some b)] w2 fun e w' => e = .returned (.tuple #[]) ∧ Below w2.heap.size w2 w') := fun w2 b k h => by
        have := mustQ_c h
        rw [hq] at this
        exact this
      have HRR := Lib.hid hR
      have hmg : msg g = ⟨M, S, A1, P, st, len⟩ := by have := HN.out; rw [hsome] at this; exact this
      have Hmg := Lib.hid hmg
      have Hse := Lib.hid (seen_q hR)
      clear hq hR hmg
      go_enter_defers Tryd.func14, Tryd.ntmps14
      go_wp2_with (first
        | (go_at_call 23; (with_reducible refine HL.out.mono ?_); rintro e w4 ⟨hb, b, k, rfl, hms⟩; have HB := Lib.hid (HB0.out.trans (hb.mono HB0.out.size)); have HX := Lib.hid (HX0.out.below hb HX0.out.lt); have HY1 := Lib.hid (HY0.out.below hb HY0.out.lt); have HM := Lib.hid hms; clear hb hms)
        | (go_at_call 24; (with_reducible refine (HMQ.out _ _ _ HM.out).mono ?_); rintro e w5 ⟨rfl, hb⟩; have hb2 := HB.out.trans (hb.mono HB.out.size); have hx2 := HX.out.below hb HX.out.lt; have hy2 := HY1.out.below hb HY1.out.lt; have hm2 := HM.out.below hb; clear HB HX HY1 HM; have HB := Lib.hid hb2; have HX := Lib.hid hx2; have HY1 := Lib.hid hy2; have HM := Lib.hid hm2; clear hb hb2 hx2 hy2 hm2)
        | (go_at_call 25; (with_reducible refine (msg_c HM.out Hse.out.1 Hse.out.2 M S A1 P st len Hmg.out).mono ?_); rintro e w6 ⟨rfl, hb⟩
           have hb2 := HB.out.trans (hb.mono HB.out.size)
           have hx2 := HX.out.below hb HX.out.lt
           have hy2 := HY1.out.below hb HY1.out.lt
           obtain ⟨x0, x1, x2, x3, x4, x5⟩ := cells6 hx2
           have fx := hx2.frozen
           have y0 := hy2.cell 0
           have fy := hy2.frozen 0
           simp only [List.getElem?_cons_zero] at y0
           clear HB HX HY1
           have HB := Lib.hid hb2
           have HX := Lib.hid hx2
           have HY1 := Lib.hid hy2
           clear hb hb2 hx2 hy2))
      have hb6 := (setV (a' := .string M) (b' := .string S) (c' := .string A1) (d' := .string P) (e' := .int .i64 st) (f' := .int .i64 len) HX.out).far (p := ⟨w.heap.size + 1, 0, none⟩) (by simp) (.bool true)
      have hy6 : Blk (((((((w6.setCell ⟨w.heap.size, 0, none⟩ (.string M)).setCell ⟨w.heap.size, 1, none⟩ (.string S)).setCell ⟨w.heap.size, 2, none⟩ (.string A1)).setCell ⟨w.heap.size, 3, none⟩ (.string P)).setCell ⟨w.heap.size, 4, none⟩ (.int .i64 st)).setCell ⟨w.heap.size, 5, none⟩ (.int .i64 len)).setCell ⟨w.heap.size + 1, 0, none⟩ (.bool true)) (w.heap.size + 1) 4 [.bool true] :=
        ((((((HY1.out.far (p := ⟨w.heap.size, 0, none⟩) (by simp) _).far (p := ⟨w.heap.size, 1, none⟩) (by simp) _).far (p := ⟨w.heap.size, 2, none⟩) (by simp) _).far (p := ⟨w.heap.size, 3, none⟩) (by simp) _).far (p := ⟨w.heap.size, 4, none⟩) (by simp) _).far (p := ⟨w.heap.size, 5, none⟩) (by simp) _).set_ 0 (.bool true)
      have hB6 : Below w.heap.size w (((((((w6.setCell ⟨w.heap.size, 0, none⟩ (.string M)).setCell ⟨w.heap.size, 1, none⟩ (.string S)).setCell ⟨w.heap.size, 2, none⟩ (.string A1)).setCell ⟨w.heap.size, 3, none⟩ (.string P)).setCell ⟨w.heap.size, 4, none⟩ (.int .i64 st)).setCell ⟨w.heap.size, 5, none⟩ (.int .i64 len)).setCell ⟨w.heap.size + 1, 0, none⟩ (.bool true)) :=
        Below.setCell (Below.setCell (Below.setCell (Below.setCell (Below.setCell (Below.setCell (Below.setCell HB.out (Nat.le_refl _) _) (Nat.le_refl _) _) (Nat.le_refl _) _) (Nat.le_refl _) _) (Nat.le_refl _) _) (Nat.le_refl _) _) (Nat.le_succ _) _
      generalize (((((((w6.setCell ⟨w.heap.size, 0, none⟩ (.string M)).setCell ⟨w.heap.size, 1, none⟩ (.string S)).setCell ⟨w.heap.size, 2, none⟩ (.string A1)).setCell ⟨w.heap.size, 3, none⟩ (.string P)).setCell ⟨w.heap.size, 4, none⟩ (.int .i64 st)).setCell ⟨w.heap.size, 5, none⟩ (.int .i64 len)).setCell ⟨w.heap.size + 1, 0, none⟩ (.bool true)) = w7 at hb6 hy6 hB6 ⊢
      have HX7 := Lib.hid hb6
      have HB7 := Lib.hid hB6
      have HY := Lib.hid (And.intro (hy6.cell 0) (hy6.frozen 0))
      simp only [List.getElem?_cons_zero] at HY
      clear hb6 hy6 hB6 HX HB HY1 HM x0 x1 x2 x3 x4 x5 fx y0 fy
      refine leaves_cons (f := 21) (args := #[.pointer (some ⟨w.heap.size + 1, 0, none⟩)]) (by simp) (by simp [go_sem]) ?_
      refine (catchQ_idle ⟨w.heap.size + 1, 0, none⟩ true _ HY.out.1 HY.out.2).mono ?_
      rintro e u' w'' ⟨rfl, rfl, hc6, hf⟩
      have hx6 := HX7.out.fr hf (by simp)
      obtain ⟨z0, z1, z2, z3, z4, z5⟩ := cells6 hx6
      have hend : Below w.heap.size w w'' := HB7.out.trans (hf.below HB7.out.size (fun i _ e => by simp at e; omega))
      simp [Leaves, settle, results, Tryd.results14, go_sem, hc6, z0, z1, z2, z3, z4, z5]
      exact ⟨by rw [hsome]; rfl, hend⟩
end Go.Proofs.YtilabahcngjflaaDoor
