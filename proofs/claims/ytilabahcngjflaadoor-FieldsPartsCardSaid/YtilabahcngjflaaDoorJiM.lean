/- Stage 10: what was seen, as a message (the region by tools/gen_jim.py). -/
import Derived.Test.YtilabahcngjflaaDoorJiG
namespace Go.Proofs.YtilabahcngjflaaDoor
open Go.RowKit Go.Own Go.Tbl Go.Fie
set_option linter.unusedVariables false
set_option linter.unusedSimpArgs false
set_option maxRecDepth 100000
section
variable {w : World} {b n : Nat} {g : Sn}
theorem below_alloc_drew (w : World) (o : Obj) : Below w.heap.size w (w.alloc o).drew := below_drewN ((Below.refl _ _).alloc (Nat.le_refl _) o) 1
theorem cells6 {w : World} {g : Nat} {t : TypeId} {a b c d e f : Value} (h : Blk w g t [a, b, c, d, e, f]) : w.cell? ⟨g, 0, none⟩ = some a ∧ w.cell? ⟨g, 1, none⟩ = some b ∧ w.cell? ⟨g, 2, none⟩ = some c ∧ w.cell? ⟨g, 3, none⟩ = some d ∧ w.cell? ⟨g, 4, none⟩ = some e ∧ w.cell? ⟨g, 5, none⟩ = some f :=
  ⟨h.cell 0, h.cell 1, h.cell 2, h.cell 3, h.cell 4, h.cell 5⟩
theorem setV {w : World} {g : Nat} {t : TypeId} {a b c d e f a' b' c' d' e' f' : Value} (h : Blk w g t [a, b, c, d, e, f]) :
    Blk ((((((w.setCell ⟨g, 0, none⟩ a').setCell ⟨g, 1, none⟩ b').setCell ⟨g, 2, none⟩ c').setCell ⟨g, 3, none⟩ d').setCell ⟨g, 4, none⟩ e').setCell ⟨g, 5, none⟩ f') g t [a', b', c', d', e', f'] := (((((h.set_ 0 a').set_ 1 b').set_ 2 c').set_ 3 d').set_ 4 e').set_ 5 f'
set_option maxHeartbeats 4000000 in
theorem msg_c (h : MSn w b g n) (h1 : ∀ f, g nStatus = some f → f.v.size ≤ 18 ∧ f.v.size ≠ 0 ∧ digs f.v = true) (h2 : ∀ f, g nCL = some f → f.v.size ≤ 18 ∧ f.v.size ≠ 0 ∧ digs f.v = true) (M S A P : ByteArray) (st len : Int) (hm : msg g = ⟨M, S, A, P, st, len⟩) :
    Calls Tryd.prog 25 #[.map (some b)] w fun e w' => e = .returned (.agg #[.string M, .string S, .string A, .string P, .int .i64 st, .int .i64 len]) ∧ Below w.heap.size w w' := by
  obtain ⟨N1, V1, B1, e1⟩ := fld3 (fOf g nMethod)
  obtain ⟨N2, V2, B2, e2⟩ := fld3 (fOf g nScheme)
  obtain ⟨N3, V3, B3, e3⟩ := fld3 (fOf g nAuth)
  obtain ⟨N4, V4, B4, e4⟩ := fld3 (fOf g nPath)
  have hM : V1 = M := by have : val g nMethod = M := congrArg Msg.m hm; rw [← this, ← fOf_val, e1]
  have hS : V2 = S := by have : val g nScheme = S := congrArg Msg.s hm; rw [← this, ← fOf_val, e2]
  have hA : V3 = A := by have : val g nAuth = A := congrArg Msg.a hm; rw [← this, ← fOf_val, e3]
  have hP : V4 = P := by have : val g nPath = P := congrArg Msg.p hm; rw [← this, ← fOf_val, e4]
  have hst : numb g nStatus 0 = st := congrArg Msg.st hm
  have hlen : numb g nCL (-1) = len := congrArg Msg.len hm
  subst hM hS hA hP
  have HK : Hid (∀ w2, Below w.heap.size w w2 → (Instr.lookup 49 (.map (some b)) (.string nMethod) false).run Tryd.prog w2 = .ok (.agg #[.string N1, .string V1, .bool B1]) w2 ∧ (Instr.lookup 49 (.map (some b)) (.string nScheme) false).run Tryd.prog w2 = .ok (.agg #[.string N2, .string V2, .bool B2]) w2
      ∧ (Instr.lookup 49 (.map (some b)) (.string nAuth) false).run Tryd.prog w2 = .ok (.agg #[.string N3, .string V3, .bool B3]) w2 ∧ (Instr.lookup 49 (.map (some b)) (.string nPath) false).run Tryd.prog w2 = .ok (.agg #[.string N4, .string V4, .bool B4]) w2) := fun w2 hb =>
    ⟨(h.below hb).look _ (by decide) _ _ _ e1, (h.below hb).look _ (by decide) _ _ _ e2, (h.below hb).look _ (by decide) _ _ _ e3, (h.below hb).look _ (by decide) _ _ _ e4⟩
  have HN1 : Hid (∀ w2, Below w.heap.size w w2 → Calls Tryd.prog 38 #[.map (some b), .string nStatus, .int .i64 0] w2 fun e w' => e = .returned (.int .i64 st) ∧ Below w2.heap.size w2 w') := fun w2 hb => by
    have := num_c (h.below hb) nStatus (by decide) 0 h1
    rwa [hst] at this
  have HN2 : Hid (∀ w2, Below w.heap.size w w2 → Calls Tryd.prog 38 #[.map (some b), .string nCL, .int .i64 (-1)] w2 fun e w' => e = .returned (.int .i64 len) ∧ Below w2.heap.size w2 w') := fun w2 hb => by
    have := num_c (h.below hb) nCL (by decide) (-1) h2
    rwa [hlen] at this
  have hX : Blk (w.alloc (.cells #[.string ⟨#[]⟩, .string ⟨#[]⟩, .string ⟨#[]⟩, .string ⟨#[]⟩, .int .i64 0, .int .i64 0] 28)).drew w.heap.size 28 [.string ⟨#[]⟩, .string ⟨#[]⟩, .string ⟨#[]⟩, .string ⟨#[]⟩, .int .i64 0, .int .i64 0] := (Blk.new w 28 [.string ⟨#[]⟩, .string ⟨#[]⟩, .string ⟨#[]⟩, .string ⟨#[]⟩, .int .i64 0, .int .i64 0]).drew
  have HX := Lib.hid hX
  have HB : Hid (Below w.heap.size w (w.alloc (.cells #[.string ⟨#[]⟩, .string ⟨#[]⟩, .string ⟨#[]⟩, .string ⟨#[]⟩, .int .i64 0, .int .i64 0] 28)).drew) := below_alloc_drew w _
  have hf1 := field1
  clear h h1 h2 e1 e2 e3 e4 hm hst hlen hX
  go_enter Tryd.func25, Tryd.ntmps25
  go_wp2_with (fail)
  refine wp_region_held_drew (S := (fun w2 => (Instr.lookup 49 (.map (some b)) (.string nMethod) false).run Tryd.prog w2 = .ok (.agg #[.string N1, .string V1, .bool B1]) w2 ∧ (Instr.lookup 49 (.map (some b)) (.string nScheme) false).run Tryd.prog w2 = .ok (.agg #[.string N2, .string V2, .bool B2]) w2 ∧ (Instr.lookup 49 (.map (some b)) (.string nAuth) false).run Tryd.prog w2 = .ok (.agg #[.string N3, .string V3, .bool B3]) w2 ∧ (Instr.lookup 49 (.map (some b)) (.string nPath) false).run Tryd.prog w2 = .ok (.agg #[.string N4, .string V4, .bool B4]) w2)) (by kernel_rfl) ?_ (fun hHeld => ?_)
  · exact HK.out _ HB.out
  refine wpAnyH_take (i := 0) (oi := { dst := some 3, op := Op.move (Operand.tmp 0), type := 49, pos := "seen.go:121", after := #[], guard := none }) (v := ?_) rfl (by kernel_rfl) (by kernel_rfl) (by kernel_rfl) (fun _ _ _ h => h) (Or.inl ⟨by kernel_rfl, ?_⟩) hHeld ?_
  rotate_left
  · intro w hSw; (try dsimp only at hSw); go_simp; try with_reducible rfl
  simp only [Act.put, List.setIfInBounds_toArray, List.set_cons_zero, List.set_cons_succ]
  refine wpAnyH_take (i := 1) (oi := { dst := some 4, op := Op.lookup 49 (Operand.tmp 3) (Operand.const (Value.string { data := #[58, 109, 101, 116, 104, 111, 100] })) false, type := 34, pos := "seen.go:121", after := #[{ on := 0, ground := Ground.data }], guard := none }) (v := ?_) rfl (by kernel_rfl) (by kernel_rfl) (by kernel_rfl) (fun _ _ _ h => h) (Or.inl ⟨by kernel_rfl, ?_⟩) hHeld ?_
  rotate_left
  · intro w hSw; (try dsimp only at hSw); go_simp; try with_reducible rfl
  simp only [Act.put, List.setIfInBounds_toArray, List.set_cons_zero, List.set_cons_succ]
  refine wpAnyH_take (i := 2) (oi := { dst := some 5, op := Op.field 34 (Operand.tmp 4) 1, type := 9, pos := "seen.go:121", after := #[{ on := 1, ground := Ground.data }], guard := none }) (v := ?_) rfl (by kernel_rfl) (by kernel_rfl) (by kernel_rfl) (fun _ _ _ h => h) (Or.inl ⟨by kernel_rfl, ?_⟩) hHeld ?_
  rotate_left
  · intro w hSw; (try dsimp only at hSw); go_simp; try with_reducible rfl
  simp only [Act.put, List.setIfInBounds_toArray, List.set_cons_zero, List.set_cons_succ]
  refine wpAnyH_take (i := 3) (oi := { dst := some 6, op := Op.move (Operand.tmp 0), type := 49, pos := "seen.go:121", after := #[], guard := none }) (v := ?_) rfl (by kernel_rfl) (by kernel_rfl) (by kernel_rfl) (fun _ _ _ h => h) (Or.inl ⟨by kernel_rfl, ?_⟩) hHeld ?_
  rotate_left
  · intro w hSw; (try dsimp only at hSw); go_simp; try with_reducible rfl
  simp only [Act.put, List.setIfInBounds_toArray, List.set_cons_zero, List.set_cons_succ]
  refine wpAnyH_take (i := 4) (oi := { dst := some 7, op := Op.lookup 49 (Operand.tmp 6) (Operand.const (Value.string { data := #[58, 115, 99, 104, 101, 109, 101] })) false, type := 34, pos := "seen.go:121", after := #[{ on := 3, ground := Ground.data }], guard := none }) (v := ?_) rfl (by kernel_rfl) (by kernel_rfl) (by kernel_rfl) (fun _ _ _ h => h) (Or.inl ⟨by kernel_rfl, ?_⟩) hHeld ?_
  rotate_left
  · intro w hSw; (try dsimp only at hSw); go_simp; try with_reducible rfl
  simp only [Act.put, List.setIfInBounds_toArray, List.set_cons_zero, List.set_cons_succ]
  refine wpAnyH_take (i := 5) (oi := { dst := some 8, op := Op.field 34 (Operand.tmp 7) 1, type := 9, pos := "seen.go:121", after := #[{ on := 4, ground := Ground.data }], guard := none }) (v := ?_) rfl (by kernel_rfl) (by kernel_rfl) (by kernel_rfl) (fun _ _ _ h => h) (Or.inl ⟨by kernel_rfl, ?_⟩) hHeld ?_
  rotate_left
  · intro w hSw; (try dsimp only at hSw); go_simp; try with_reducible rfl
  simp only [Act.put, List.setIfInBounds_toArray, List.set_cons_zero, List.set_cons_succ]
  refine wpAnyH_take (i := 6) (oi := { dst := some 9, op := Op.move (Operand.tmp 0), type := 49, pos := "seen.go:121", after := #[], guard := none }) (v := ?_) rfl (by kernel_rfl) (by kernel_rfl) (by kernel_rfl) (fun _ _ _ h => h) (Or.inl ⟨by kernel_rfl, ?_⟩) hHeld ?_
  rotate_left
  · intro w hSw; (try dsimp only at hSw); go_simp; try with_reducible rfl
  simp only [Act.put, List.setIfInBounds_toArray, List.set_cons_zero, List.set_cons_succ]
  refine wpAnyH_take (i := 7) (oi := { dst := some 10, op := Op.lookup 49 (Operand.tmp 9) (Operand.const (Value.string { data := #[58, 97, 117, 116, 104, 111, 114, 105, 116, 121] })) false, type := 34, pos := "seen.go:121", after := #[{ on := 6, ground := Ground.data }], guard := none }) (v := ?_) rfl (by kernel_rfl) (by kernel_rfl) (by kernel_rfl) (fun _ _ _ h => h) (Or.inl ⟨by kernel_rfl, ?_⟩) hHeld ?_
  rotate_left
  · intro w hSw; (try dsimp only at hSw); go_simp; try with_reducible rfl
  simp only [Act.put, List.setIfInBounds_toArray, List.set_cons_zero, List.set_cons_succ]
  refine wpAnyH_take (i := 8) (oi := { dst := some 11, op := Op.field 34 (Operand.tmp 10) 1, type := 9, pos := "seen.go:121", after := #[{ on := 7, ground := Ground.data }], guard := none }) (v := ?_) rfl (by kernel_rfl) (by kernel_rfl) (by kernel_rfl) (fun _ _ _ h => h) (Or.inl ⟨by kernel_rfl, ?_⟩) hHeld ?_
  rotate_left
  · intro w hSw; (try dsimp only at hSw); go_simp; try with_reducible rfl
  simp only [Act.put, List.setIfInBounds_toArray, List.set_cons_zero, List.set_cons_succ]
  refine wpAnyH_take (i := 9) (oi := { dst := some 12, op := Op.move (Operand.tmp 0), type := 49, pos := "seen.go:121", after := #[], guard := none }) (v := ?_) rfl (by kernel_rfl) (by kernel_rfl) (by kernel_rfl) (fun _ _ _ h => h) (Or.inl ⟨by kernel_rfl, ?_⟩) hHeld ?_
  rotate_left
  · intro w hSw; (try dsimp only at hSw); go_simp; try with_reducible rfl
  simp only [Act.put, List.setIfInBounds_toArray, List.set_cons_zero, List.set_cons_succ]
  refine wpAnyH_take (i := 10) (oi := { dst := some 13, op := Op.lookup 49 (Operand.tmp 12) (Operand.const (Value.string { data := #[58, 112, 97, 116, 104] })) false, type := 34, pos := "seen.go:121", after := #[{ on := 9, ground := Ground.data }], guard := none }) (v := ?_) rfl (by kernel_rfl) (by kernel_rfl) (by kernel_rfl) (fun _ _ _ h => h) (Or.inl ⟨by kernel_rfl, ?_⟩) hHeld ?_
  rotate_left
  · intro w hSw; (try dsimp only at hSw); go_simp; try with_reducible rfl
  simp only [Act.put, List.setIfInBounds_toArray, List.set_cons_zero, List.set_cons_succ]
  refine wpAnyH_take (i := 11) (oi := { dst := some 14, op := Op.field 34 (Operand.tmp 13) 1, type := 9, pos := "seen.go:121", after := #[{ on := 10, ground := Ground.data }], guard := none }) (v := ?_) rfl (by kernel_rfl) (by kernel_rfl) (by kernel_rfl) (fun _ _ _ h => h) (Or.inl ⟨by kernel_rfl, ?_⟩) hHeld ?_
  rotate_left
  · intro w hSw; (try dsimp only at hSw); go_simp; try with_reducible rfl
  simp only [Act.put, List.setIfInBounds_toArray, List.set_cons_zero, List.set_cons_succ]
  refine wpAnyH_take (i := 12) (oi := { dst := some 15, op := Op.move (Operand.tmp 0), type := 49, pos := "seen.go:121", after := #[], guard := none }) (v := ?_) rfl (by kernel_rfl) (by kernel_rfl) (by kernel_rfl) (fun _ _ _ h => h) (Or.inl ⟨by kernel_rfl, ?_⟩) hHeld ?_
  rotate_left
  · intro w hSw; (try dsimp only at hSw); go_simp; try with_reducible rfl
  simp only [Act.put, List.setIfInBounds_toArray, List.set_cons_zero, List.set_cons_succ]
  refine wpAnyH_take (i := 14) (oi := { dst := some 17, op := Op.move (Operand.tmp 0), type := 49, pos := "seen.go:121", after := #[], guard := none }) (v := ?_) rfl (by kernel_rfl) (by kernel_rfl) (by kernel_rfl) (fun _ _ _ h => h) (Or.inl ⟨by kernel_rfl, ?_⟩) hHeld ?_
  rotate_left
  · intro w hSw; (try dsimp only at hSw); go_simp; try with_reducible rfl
  simp only [Act.put, List.setIfInBounds_toArray, List.set_cons_zero, List.set_cons_succ]
  refine wpAnyH_ready (rs := [13]) (by kernel_rfl) (by simp) ?_
  refine AllReadyH.cons rfl (fun K hK => ?_) AllReadyH.nil
  go_simp
  go_wp2_with (first
    | (go_at_call 38; (with_reducible refine (HN1.out _ HB.out).mono ?_); rintro e w4 ⟨rfl, hb⟩
       have hx := HX.out.below hb HX.out.lt
       have hb2 := HB.out.trans (hb.mono HB.out.size)
       clear HB HX
       have HB := Lib.hid hb2
       have HX := Lib.hid hx
       clear hb2 hx hb))
  refine hK.out _ _ ?_ (fun hHeld2 => ?_)
  · exact HK.out _ HB.out
  clear hK K hHeld
  rename _ => hHeld
  (try simp only [Act.put, List.setIfInBounds_toArray, List.set_cons_zero, List.set_cons_succ])
  refine wpAnyH_ready (rs := [15]) (by kernel_rfl) (by simp) ?_
  refine AllReadyH.cons rfl (fun K hK => ?_) AllReadyH.nil
  go_simp
  go_wp2_with (first
    | (go_at_call 38; (with_reducible refine (HN2.out _ HB.out).mono ?_); rintro e w5 ⟨rfl, hb⟩
       have hx := HX.out.below hb HX.out.lt
       have hb2 := HB.out.trans (hb.mono HB.out.size)
       clear HB HX
       have HB := Lib.hid hb2
       have HX := Lib.hid hx
       clear hb2 hx hb))
  refine hK.out _ _ ?_ (fun hHeld2 => ?_)
  · exact HK.out _ HB.out
  clear hK K hHeld
  rename _ => hHeld
  (try simp only [Act.put, List.setIfInBounds_toArray, List.set_cons_zero, List.set_cons_succ])
  refine wpAnyH_take (i := 16) (oi := { dst := some 19, op := Op.build 28 #[(0, Operand.tmp 5), (1, Operand.tmp 8), (2, Operand.tmp 11), (3, Operand.tmp 14), (4, Operand.tmp 16), (5, Operand.tmp 18)], type := 28, pos := "seen.go:121", after := #[{ on := 2, ground := Ground.data }, { on := 5, ground := Ground.data }, { on := 8, ground := Ground.data }, { on := 11, ground := Ground.data }, { on := 13, ground := Ground.data }, { on := 15, ground := Ground.data }], guard := none }) (v := ?_) rfl (by kernel_rfl) (by kernel_rfl) (by kernel_rfl) (fun _ _ _ h => h) (Or.inl ⟨by kernel_rfl, ?_⟩) hHeld ?_
  rotate_left
  · intro w hSw; (try dsimp only at hSw); go_simp; try with_reducible rfl
  simp only [Act.put, List.setIfInBounds_toArray, List.set_cons_zero, List.set_cons_succ]
  obtain ⟨x0, x1, x2, x3, x4, x5⟩ := cells6 HX.out
  have fx := HX.out.frozen
  refine wpAnyH_ready (rs := [17]) (by kernel_rfl) (by simp) ?_
  refine AllReadyH.cons rfl (fun K hK => ?_) AllReadyH.nil
  go_simp
  go_wp2_with (fail)
  have hb6 := setV (a' := .string V1) (b' := .string V2) (c' := .string V3) (d' := .string V4) (e' := .int .i64 st) (f' := .int .i64 len) HX.out
  have hB6 : Below w.heap.size w ((((((w5.setCell ⟨w.heap.size, 0, none⟩ (.string V1)).setCell ⟨w.heap.size, 1, none⟩ (.string V2)).setCell ⟨w.heap.size, 2, none⟩ (.string V3)).setCell ⟨w.heap.size, 3, none⟩ (.string V4)).setCell ⟨w.heap.size, 4, none⟩ (.int .i64 st)).setCell ⟨w.heap.size, 5, none⟩ (.int .i64 len)) :=
    Below.setCell (Below.setCell (Below.setCell (Below.setCell (Below.setCell (Below.setCell HB.out (Nat.le_refl _) _) (Nat.le_refl _) _) (Nat.le_refl _) _) (Nat.le_refl _) _) (Nat.le_refl _) _) (Nat.le_refl _) _
  generalize ((((((w5.setCell ⟨w.heap.size, 0, none⟩ (.string V1)).setCell ⟨w.heap.size, 1, none⟩ (.string V2)).setCell ⟨w.heap.size, 2, none⟩ (.string V3)).setCell ⟨w.heap.size, 3, none⟩ (.string V4)).setCell ⟨w.heap.size, 4, none⟩ (.int .i64 st)).setCell ⟨w.heap.size, 5, none⟩ (.int .i64 len)) = w6 at hb6 hB6 ⊢
  obtain ⟨z0, z1, z2, z3, z4, z5⟩ := cells6 hb6
  have HB6 := Lib.hid hB6
  clear x0 x1 x2 x3 x4 x5 fx hb6 hB6
  refine hK.out _ _ ?_ (fun hHeld2 => ?_)
  · exact HK.out _ HB6.out
  clear hK K hHeld hHeld2
  refine wpAnyH_done (by kernel_rfl) ?_ _
  go_wp2_with (fail)
  refine bodyPost_ret (v := .agg #[.string V1, .string V2, .string V3, .string V4, .int .i64 st, .int .i64 len]) (by simp [results, Tryd.results25, go_sem, z0, z1, z2, z3, z4, z5]) rfl ?_
  exact ⟨rfl, HB6.out⟩

end
end Go.Proofs.YtilabahcngjflaaDoor
