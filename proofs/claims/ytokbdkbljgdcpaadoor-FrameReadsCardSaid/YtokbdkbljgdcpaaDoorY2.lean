/- Several texts in one: Fb, Fc, Laid6, Fd, Fk, Fp, Fq, Fl, Wa, Wb. -/
import Derived.Test.YtokbdkbljgdcpaaDoorY1
import Derived.Deep.QuietTactic
import Derived.BigQuiet
import Derived.Test.YtokbdkbljgdcpaaDoorRows
import Derived.Lib.LaidTab
import Derived.Deep.LoopGhost
import Derived.Lib.AppendZerosOnto
import Derived.Maps.AppendAt
import Derived.Deep.RegionLaw
/- The contracts of package frame's small functions: sets of parts, shapes of kinds, faults. -/
namespace Go.Proofs.YtokbdkbljgdcpaaDoor
open Go.RowKit Go.Own Go.Frm
set_option linter.unusedVariables false
set_option maxRecDepth 100000

theorem isIn_any (n a b : Int) (w : World) : Calls Tryd.prog 50 #[.int .i64 n, .int .i64 a, .int .i64 b] w fun e w' => e = .returned (.bool (decide (a ≤ n) && decide (n ≤ b))) ∧ w = w' := by
  by_cases h : a ≤ n
  · go_enter Tryd.func50, Tryd.ntmps50
    go_wp2
    go_ret
    exact ⟨ret_bool (by simp [h]), rfl⟩
  · go_enter Tryd.func50, Tryd.ntmps50
    go_wp2
    go_ret
    exact ⟨ret_bool (by simp; omega), rfl⟩
theorem isIn_is (n a b : Int) (r : Bool) (h : (decide (a ≤ n) && decide (n ≤ b)) = r) (w : World) : Calls Tryd.prog 50 #[.int .i64 n, .int .i64 a, .int .i64 b] w fun e w' => e = .returned (.bool r) ∧ w = w' := by
  subst h; exact isIn_any n a b w
theorem has_any (p q : Int) (w : World) (r : Bool) (h : (bits .and .i64 p q != 0) = r) : Calls Tryd.prog 54 #[.int .i64 p, .int .i64 q] w fun e w' => e = .returned (.bool r) ∧ w = w' := by
  have H := Lib.hid h
  clear h
  go_enter Tryd.func54, Tryd.ntmps54
  go_wp2
  go_ret
  exact ⟨ret_bool H.out, rfl⟩
theorem partIf_any (p : Nat) (b : Bool) (w : World) : Calls Tryd.prog 69 #[.int .i64 (p : Int), .bool b] w fun e w' => e = .returned (.int .i64 ((pif b p : Nat) : Int)) ∧ w = w' := by
  cases b <;>
  · go_enter Tryd.func69, Tryd.ntmps69
    go_wp2
    go_ret
    exact ⟨rfl, rfl⟩
theorem known_any (k : Int) (w : World) (r : Bool) (h : decide (k < 10) = r) : Calls Tryd.prog 68 #[.int .i64 k] w fun e w' => e = .returned (.bool r) ∧ w = w' := by
  have H := Lib.hid h
  clear h
  go_enter Tryd.func68, Tryd.ntmps68
  go_wp2
  go_ret
  exact ⟨ret_bool H.out, rfl⟩
/-- where a kind may be, as the program's table has it -/
def plN (k : Nat) : Nat := bif onS k then 1 else bif onC k then 2 else 0
theorem allows_any (k : Nat) (s : Int) (w : World) (r : Bool) (h : stray k s = !r) : Calls Tryd.prog 52 #[.int .i64 (plN k : Int), .int .i64 s] w fun e w' => e = .returned (.bool r) ∧ w = w' := by
  have hr : r = !stray k s := by rw [h, Bool.not_not]
  have key : (onS k = true ∧ plN k = 1 ∧ r = (s != 0)) ∨ (onS k = false ∧ onC k = true ∧ plN k = 2 ∧ r = (s == 0)) ∨ (onS k = false ∧ onC k = false ∧ plN k = 0 ∧ r = true) := by
    rw [hr]
    unfold plN stray
    cases h1 : onS k
    · cases h2 : onC k
      · right; right; simp
      · right; left; simp [bne]
    · left
      have h2 : onC k = false := by
        unfold onS at h1; unfold onC
        simp only [Bool.or_eq_true, decide_eq_true_eq, beq_iff_eq] at h1
        simp
        omega
      simp [h2, bne]
  clear h hr
  rcases key with ⟨_, h2, h3⟩ | ⟨_, _, h2, h3⟩ | ⟨_, _, h2, h3⟩
  all_goals
    rw [h2]
    have H3 := Lib.hid h3
    clear h2 h3
    go_enter Tryd.func52, Tryd.ntmps52
    go_wp2
    go_ret
    exact ⟨ret_bool H3.out.symm, rfl⟩
abbrev fltV (c : Nat) (s : Int) : Value := .agg #[.bool true, .int .u32 (c : Int), .int .i64 s]
theorem faultOf_any (c : Int) (s : Int) (w : World) : Calls Tryd.prog 40 #[.int .u32 c, .int .i64 s] w fun e w' => e = .returned (.agg #[.bool true, .int .u32 c, .int .i64 s]) ∧ Below w.heap.size w w' := by
  go_enter Tryd.func40, Tryd.ntmps40
  go_wp2
  refine bodyPost_ret (v := .agg #[.bool true, .int .u32 c, .int .i64 s]) (by simp [results, Tryd.results40, go_sem]) rfl ⟨rfl, ?_⟩
  exact (Below.refl _ _).alloc (Nat.le_refl _) _
end Go.Proofs.YtokbdkbljgdcpaaDoor

/- The program's tables (shapes of kinds, bits of flags), and the contract of shapeOf. -/
namespace Go.Proofs.YtokbdkbljgdcpaaDoor
open Go.RowKit Go.Own Go.Frm
set_option linter.unusedVariables false
set_option maxRecDepth 100000

/-! the shapes of kinds -/
def bsN (k : Nat) : Nat := if k = 2 then 5 else if k = 3 then 4 else if k = 5 then 4 else if k = 6 then 8 else if k = 7 then 8 else if k = 8 then 4 else 0
def moN (k : Nat) : Nat := if k = 2 then 0 else if k = 3 then 0 else if k = 4 then 6 else if k = 6 then 0 else if k = 8 then 0 else 1
/-- the program's tables hold what their text says -/
structure Gl (w : World) : Prop where
  shp : ∀ k, k < 10 → w.cell? ⟨1, k * 4, none⟩ = some (.int .i64 (plN k : Int)) ∧ w.cell? ⟨1, k * 4 + 1, none⟩ = some (.int .i64 (pN k : Int)) ∧ w.cell? ⟨1, k * 4 + 2, none⟩ = some (.int .i64 (bsN k : Int)) ∧ w.cell? ⟨1, k * 4 + 3, none⟩ = some (.int .i64 (moN k : Int))
  bits : ∀ (i v : Nat), ([1, 1, 4, 1, 2, 4, 8, 8, 16, 32] : List Nat)[i]? = some v → w.cell? ⟨0, i, none⟩ = some (.int .i64 (v : Int))
theorem Gl.below {w w' : World} (h : Gl w) (hb : Below w.heap.size w w') : Gl w' := by
  have q : ∀ a v, w.cell? a = some v → w'.cell? a = some v := fun a v hc => (hb.cell (World.block_lt_of_cell? w _ hc)).trans hc
  exact ⟨fun k hk => ⟨q _ _ (h.shp k hk).1, q _ _ (h.shp k hk).2.1, q _ _ (h.shp k hk).2.2.1, q _ _ (h.shp k hk).2.2.2⟩, fun i v hv => q _ _ (h.bits i v hv)⟩
theorem Gl.fr {w w' : World} {S : Nat → Prop} (h : Gl w) (hf : Fr S w w') (h1 : ¬ S 1) (h2 : ¬ S 0) : Gl w' :=
  ⟨fun k hk => ⟨hf.cell (h.shp k hk).1 h1, hf.cell (h.shp k hk).2.1 h1, hf.cell (h.shp k hk).2.2.1 h1, hf.cell (h.shp k hk).2.2.2 h1⟩, fun i v hv => hf.cell (h.bits i v hv) h2⟩
theorem Gl.pos {w : World} (h : Gl w) : 1 < w.heap.size ∧ 0 < w.heap.size := ⟨World.block_lt_of_cell? w _ (h.shp 0 (by omega)).1, World.block_lt_of_cell? w _ (h.bits 0 1 rfl)⟩
abbrev shpV (k : Nat) : Value := .agg #[.int .i64 (plN k : Int), .int .i64 (pN k : Int), .int .i64 (bsN k : Int), .int .i64 (moN k : Int)]
set_option maxHeartbeats 1000000 in
theorem shapeOf_any (k : Nat) (w : World) (hG : Gl w) : Calls Tryd.prog 51 #[.int .i64 (k : Int)] w fun e w' => e = .returned (.agg #[.int .i64 (plN k : Int), .int .i64 (pN k : Int), .int .i64 (bsN k : Int), .int .i64 (moN k : Int)]) ∧ Below w.heap.size w w' := by
  obtain ⟨hp, _⟩ := hG.pos
  rcases Nat.lt_or_ge k 10 with hk | hk
  · obtain ⟨c0, c1, c2, c3⟩ := hG.shp k hk
    have kd : decide ((k : Int) < 10) = true := by simp; omega
    have HG := Lib.hid hG
    clear hG
    go_enter Tryd.func51, Tryd.ntmps51
    go_wp2_with (first
      | (go_at_call 68; (with_reducible refine (known_any k _ true kd).mono ?_); rintro e w1 ⟨rfl, rfl⟩))
    refine bodyPost_ret (v := shpV k) (by simp [results, Tryd.results51, go_sem]) rfl ⟨rfl, ?_⟩
    exact (Below.refl _ _).alloc (Nat.le_refl _) _
  · have kd : decide ((k : Int) < 10) = false := by simp; omega
    obtain ⟨_, _, _, _, _, _, _, _, _, _, _, _, h1, h2, h3, _⟩ := hi_letters k hk
    have e : shpV k = .agg #[.int .i64 0, .int .i64 192, .int .i64 0, .int .i64 1] := by
      have ep : plN k = 0 := by unfold plN; rw [h1, h2]; rfl
      have eb : bsN k = 0 := by
        unfold bsN
        repeat rw [if_neg (by omega)]
      have em : moN k = 1 := by
        unfold moN
        repeat rw [if_neg (by omega)]
      have en : pN k = 192 := by
        unfold pN
        repeat rw [if_neg (by omega)]
      unfold shpV
      rw [ep, eb, em, en]
      rfl
    have HE := Lib.hid e
    clear e h1 h2 h3 hG
    go_enter Tryd.func51, Tryd.ntmps51
    go_wp2_with (first
      | (go_at_call 68; (with_reducible refine (known_any k _ false kd).mono ?_); rintro e w1 ⟨rfl, rfl⟩))
    refine bodyPost_ret (v := .agg #[.int .i64 0, .int .i64 192, .int .i64 0, .int .i64 1]) (by simp [results, Tryd.results51, go_sem]) rfl ⟨congrArg Ending.returned HE.out.symm, ?_⟩
    exact (Below.refl _ _).alloc (Nat.le_refl _) _
theorem shf0 (a b c d : Int) (W : World) : (Instr.field 104 (.agg #[.int .i64 a, .int .i64 b, .int .i64 c, .int .i64 d]) 0).run Tryd.prog W = .ok (.int .i64 a) W := by kernel_rfl
theorem shf1 (a b c d : Int) (W : World) : (Instr.field 104 (.agg #[.int .i64 a, .int .i64 b, .int .i64 c, .int .i64 d]) 1).run Tryd.prog W = .ok (.int .i64 b) W := by kernel_rfl
theorem shf2 (a b c d : Int) (W : World) : (Instr.field 104 (.agg #[.int .i64 a, .int .i64 b, .int .i64 c, .int .i64 d]) 2).run Tryd.prog W = .ok (.int .i64 c) W := by kernel_rfl
theorem shf3 (a b c d : Int) (W : World) : (Instr.field 104 (.agg #[.int .i64 a, .int .i64 b, .int .i64 c, .int .i64 d]) 3).run Tryd.prog W = .ok (.int .i64 d) W := by kernel_rfl
theorem bsN_base (k : Nat) : bsN k = base k := rfl
end Go.Proofs.YtokbdkbljgdcpaaDoor

/- What the row's list of package-level variables gives: the tables of frame hold their numbers; a world for the witness. -/
namespace Go.Proofs.YtokbdkbljgdcpaaDoor
open Go.RowKit Go.Own Go.Frm
set_option linter.unusedVariables false

/-- a struct of integers of one kind that reads as these numbers holds them -/
theorem ints_of_struct {H : Type} {enc : TypeId × Value → H} {P : Program} {w : World} {base : Nat} {sp : Nat → Bool} {held : Bool} {fuel : Nat} {t : TypeId} {fs : Array Field} {cs : List Value} {zs : List Int} {p : List MemPlace}
    (ht : P.underlying t = some (.struct fs)) (ho : fs.toList.map (·.offset) = List.range fs.size) (hf : ∀ f ∈ fs.toList, P.underlying f.type = some (.int .i64) ∧ P.cellsOf f.type = 1)
    (h : DataW.trod enc P w base sp held fuel t cs = some (.agg (zs.map fun z => .lit (.int .i64 z)), p)) : ∀ (i : Nat) (z : Int), zs[i]? = some z → cs[i]? = some (.int .i64 z) := by
  cases fuel with
  | zero => simp [DataW.trod] at h
  | succ fuel =>
    simp only [DataW.trod, ht] at h
    split at h
    · obtain ⟨xs, hm, hx⟩ := Option.map_eq_some_iff.1 h
      have hxs : xs.map (·.1) = zs.map fun z => (DataW.lit (.int .i64 z) : DataW H) := by
        have := congrArg Prod.fst hx
        simpa using this
      intro i z hz
      have hxl := Lib.mapM_length hm
      have hl : xs.length = zs.length := by have := congrArg List.length hxs; simpa using this
      have hi : i < zs.length := (List.getElem?_eq_some_iff.1 hz).1
      obtain ⟨b, hb, hff⟩ := Lib.mapM_at hm i _ (List.getElem?_eq_getElem (show i < fs.toList.length by omega))
      obtain ⟨h1, h2⟩ := hf _ (List.getElem_mem (show i < fs.toList.length by omega))
      have hoff : (fs.toList[i]'(by omega)).offset = i := by
        have := congrArg (·[i]?) ho
        simp only [List.getElem?_map, List.getElem?_eq_getElem (show i < fs.toList.length by omega), Option.map_some] at this
        rw [List.getElem?_range (by simpa using (show i < fs.toList.length by omega))] at this
        exact Option.some.inj this
      rw [h2, hoff] at hff
      obtain ⟨n, hc, rfl, _⟩ := DataW.trod_int h1 hff
      have h3 : cs[i]? = some (.int .i64 n) := by
        have := congrArg (·[0]?) hc
        simpa [List.getElem?_take, List.getElem?_drop] using this
      have h4 : (xs.map (·.1))[i]? = some (DataW.lit (.int .i64 n) : DataW H) := by simp [hb]
      rw [hxs, List.getElem?_map, hz] at h4
      simp only [Option.map_some, Option.some.injEq, DataW.lit.injEq, Lit.int.injEq, true_and] at h4
      rw [h3, h4]
    · cases h
/-- an array of such structs -/
theorem ints_of_rows {H : Type} {enc : TypeId × Value → H} {P : Program} {w : World} {base : Nat} {sp : Nat → Bool} {held : Bool} {fuel : Nat} {t e : TypeId} {n m : Nat} {fs : Array Field} {cs : List Value} {rows : List (List Int)} {p : List MemPlace}
    (ht : P.underlying t = some (.array n e)) (he : P.underlying e = some (.struct fs)) (hce : P.cellsOf e = m) (ho : fs.toList.map (·.offset) = List.range fs.size) (hf : ∀ f ∈ fs.toList, P.underlying f.type = some (.int .i64) ∧ P.cellsOf f.type = 1)
    (h : DataW.trod enc P w base sp held fuel t cs = some (.agg (rows.map fun r => .agg (r.map fun z => .lit (.int .i64 z))), p)) :
    ∀ (i j : Nat) (r : List Int) (z : Int), rows[i]? = some r → r[j]? = some z → j < m → cs[i * m + j]? = some (.int .i64 z) := by
  cases fuel with
  | zero => simp [DataW.trod] at h
  | succ fuel =>
    simp only [DataW.trod, ht, hce] at h
    split at h
    · obtain ⟨xs, hm, hx⟩ := Option.map_eq_some_iff.1 h
      have hxs : xs.map (·.1) = rows.map fun r => (DataW.agg (r.map fun z => .lit (.int .i64 z)) : DataW H) := by
        have := congrArg Prod.fst hx
        simpa using this
      intro i j r z hr hz hj
      have hxl : xs.length = n := by simpa using Lib.mapM_length hm
      have hl : xs.length = rows.length := by have := congrArg List.length hxs; simpa using this
      have hi : i < rows.length := (List.getElem?_eq_some_iff.1 hr).1
      obtain ⟨b, hb, hff⟩ := Lib.mapM_at hm i i (by rw [List.getElem?_range (by omega)])
      have h4 : (xs.map (·.1))[i]? = some b.1 := by simp [hb]
      rw [hxs, List.getElem?_map, hr] at h4
      simp only [Option.map_some, Option.some.injEq] at h4
      obtain ⟨b1, b2⟩ := b
      have h4 : _ = b1 := h4
      subst h4
      have h5 := ints_of_struct he ho hf hff j z hz
      rw [List.getElem?_take, if_pos hj, List.getElem?_drop] at h5
      exact h5
    · cases h

def bitsZ : List (List Int) := [[1, 1], [4, 1], [2, 4], [8, 8], [16, 32]]
def shapesZ : List (List Int) := (List.range 10).map fun k => [((plN k : Nat) : Int), ((pN k : Nat) : Int), ((bsN k : Nat) : Int), ((moN k : Nat) : Int)]
theorem gnBits : Tryd.prog.globalNamed "flume/frame.flagBits" = some 0 := by kernel_rfl
theorem gnShapes : Tryd.prog.globalNamed "flume/frame.shapes" = some 1 := by kernel_rfl
theorem gtBits : (Tryd.prog.globals[0]?).map (·.type) = some 112 := by kernel_rfl
theorem gtShapes : (Tryd.prog.globals[1]?).map (·.type) = some 122 := by kernel_rfl
noncomputable def fBit : Array Field := match Tryd.prog.underlying 111 with | some (.struct fs) => fs | _ => #[]
noncomputable def fShape : Array Field := match Tryd.prog.underlying 104 with | some (.struct fs) => fs | _ => #[]
theorem uBit : Tryd.prog.underlying 111 = some (.struct fBit) := by kernel_rfl
theorem uShape : Tryd.prog.underlying 104 = some (.struct fShape) := by kernel_rfl
theorem oBit : fBit.toList.map (·.offset) = List.range fBit.size := by kernel_rfl
theorem oShape : fShape.toList.map (·.offset) = List.range fShape.size := by kernel_rfl
theorem tBit : (fBit.toList.all fun f => (match Tryd.prog.underlying f.type with | some (.int .i64) => true | _ => false) && Tryd.prog.cellsOf f.type == 1) = true := by kernel_rfl
theorem tShape : (fShape.toList.all fun f => (match Tryd.prog.underlying f.type with | some (.int .i64) => true | _ => false) && Tryd.prog.cellsOf f.type == 1) = true := by kernel_rfl
theorem of_all {fs : List Field} (h : (fs.all fun f => (match Tryd.prog.underlying f.type with | some (.int .i64) => true | _ => false) && Tryd.prog.cellsOf f.type == 1) = true) : ∀ f ∈ fs, Tryd.prog.underlying f.type = some (.int .i64) ∧ Tryd.prog.cellsOf f.type = 1 := by
  intro f hf
  have := List.all_eq_true.1 h f hf
  simp only [Bool.and_eq_true, beq_iff_eq] at this
  refine ⟨?_, this.2⟩
  have h1 := this.1
  split at h1
  · rename_i e; exact e
  · cases h1
theorem cBit : Tryd.prog.cellsOf 111 = 2 := by kernel_rfl
theorem cShape : Tryd.prog.cellsOf 104 = 4 := by kernel_rfl
theorem dBits : (Rows.laid_flume_frame_flagBits : DataW Unit) = .agg (bitsZ.map fun r => .agg (r.map fun z => .lit (.int .i64 z))) := rfl
set_option maxRecDepth 100000 in
theorem dShapes : (Rows.laid_flume_frame_shapes : DataW Unit) = .agg (shapesZ.map fun r => .agg (r.map fun z => .lit (.int .i64 z))) := by kernel_rfl
theorem cnt_of_laid {W : World} (h : laidMetH Tryd.prog [("flume/frame.flagBits", Rows.laid_flume_frame_flagBits), ("flume/frame.shapes", Rows.laid_flume_frame_shapes)] W) : Gl W := by
  have h' : laidMet Tryd.prog [("flume/frame.flagBits", Rows.laid_flume_frame_flagBits), ("flume/frame.shapes", Rows.laid_flume_frame_shapes)] W := h
  obtain ⟨ps, ⟨g1, t1, cs1, fuel1, p1, q1, e1, e2, e3, e4, ⟨g2, t2, cs2, fuel2, p2, q2, k1, k2, k3, k4, _⟩, _⟩, _⟩ := h'
  obtain rfl := Option.some.inj (gnBits.symm.trans e1)
  obtain rfl := Option.some.inj (gtBits.symm.trans e2)
  obtain rfl := Option.some.inj (gnShapes.symm.trans k1)
  obtain rfl := Option.some.inj (gtShapes.symm.trans k2)
  rw [dBits] at e4
  rw [dShapes] at k4
  have b := ints_of_rows Tryd.underlying112 uBit cBit oBit (of_all tBit) e4
  have s := ints_of_rows Tryd.underlying122 uShape cShape oShape (of_all tShape) k4
  refine ⟨fun k hk => ?_, fun i v hv => ?_⟩
  · have hr : shapesZ[k]? = some [((plN k : Nat) : Int), ((pN k : Nat) : Int), ((bsN k : Nat) : Int), ((moN k : Nat) : Int)] := by
      unfold shapesZ
      rw [List.getElem?_map, List.getElem?_range hk]; rfl
    refine ⟨?_, ?_, ?_, ?_⟩
    · rw [World.var?_cell gnShapes k3, ← Array.getElem?_toList]; exact s k 0 _ _ hr rfl (by omega)
    · rw [World.var?_cell gnShapes k3, ← Array.getElem?_toList]; exact s k 1 _ _ hr rfl (by omega)
    · rw [World.var?_cell gnShapes k3, ← Array.getElem?_toList]; exact s k 2 _ _ hr rfl (by omega)
    · rw [World.var?_cell gnShapes k3, ← Array.getElem?_toList]; exact s k 3 _ _ hr rfl (by omega)
  · rw [World.var?_cell gnBits e3, ← Array.getElem?_toList]
    have hi : i < 10 := by simpa using (List.getElem?_eq_some_iff.1 hv).1
    have key : i = 0 ∨ i = 1 ∨ i = 2 ∨ i = 3 ∨ i = 4 ∨ i = 5 ∨ i = 6 ∨ i = 7 ∨ i = 8 ∨ i = 9 := by omega
    rcases key with rfl | rfl | rfl | rfl | rfl | rfl | rfl | rfl | rfl | rfl
    all_goals (simp only [List.getElem?_cons_zero, List.getElem?_cons_succ, Option.some.injEq] at hv; subst hv)
    · exact b 0 0 _ _ rfl rfl (by omega)
    · exact b 0 1 _ _ rfl rfl (by omega)
    · exact b 1 0 _ _ rfl rfl (by omega)
    · exact b 1 1 _ _ rfl rfl (by omega)
    · exact b 2 0 _ _ rfl rfl (by omega)
    · exact b 2 1 _ _ rfl rfl (by omega)
    · exact b 3 0 _ _ rfl rfl (by omega)
    · exact b 3 1 _ _ rfl rfl (by omega)
    · exact b 4 0 _ _ rfl rfl (by omega)
    · exact b 4 1 _ _ rfl rfl (by omega)

theorem i64_of {n : Int} (h : (Lit.int .i64 n).wf = true) : -9223372036854775808 ≤ n ∧ n ≤ 9223372036854775807 := by
  simpa [Lit.wf, IntKind.min, IntKind.max, IntKind.signed, IntKind.bits] using h
/-- A WORLD FOR THE WITNESS: the settled one, the two tables holding what their initialisers lay. -/
noncomputable def laidWorld (os : Os) : World :=
  { World.holding Tryd.prog os ⟨#[], #[], []⟩ with
    heap := Array.modify (Array.modify (World.holding Tryd.prog os ⟨#[], #[], []⟩).heap 0 (fun x => match x with
      | .cells _ t frozen => .cells (bitsZ.flatten.map (Value.int .i64)).toArray t frozen
      | o => o)) 1 (fun x => match x with
      | .cells _ t frozen => .cells (shapesZ.flatten.map (Value.int .i64)).toArray t frozen
      | o => o) }
end Go.Proofs.YtokbdkbljgdcpaaDoor

/- The contracts of partsOf, filled, dependWord, areSettings. -/
namespace Go.Proofs.YtokbdkbljgdcpaaDoor
open Go.RowKit Go.Own Go.Frm
set_option linter.unusedVariables false
set_option maxRecDepth 100000


/-- a frame as a value: its scalars, its two slices -/
abbrev frC (f : Fm) (pv lv : Value) : List Value := [.int .i64 f.kind, .int .i64 f.stream, .bool f.fin, .bool f.eh, .bool f.ack, .bool f.prio, pv, .int .i64 f.flags, .int .i64 f.pad, .int .i64 f.depend, .bool f.excl, .int .i64 f.weight, .int .u32 (f.code : Int), lv, .int .i64 f.last, .int .i64 f.inc]
abbrev frV (f : Fm) (pv lv : Value) : Value := .agg #[.int .i64 f.kind, .int .i64 f.stream, .bool f.fin, .bool f.eh, .bool f.ack, .bool f.prio, pv, .int .i64 f.flags, .int .i64 f.pad, .int .i64 f.depend, .bool f.excl, .int .i64 f.weight, .int .u32 (f.code : Int), lv, .int .i64 f.last, .int .i64 f.inc]
theorem bcell {W w1 : World} (hb : Below W.heap.size W w1) : (∀ b o, b < W.heap.size → w1.cell? ⟨b, o, none⟩ = W.cell? ⟨b, o, none⟩) ∧ (∀ b o, b < W.heap.size → w1.frozen? ⟨b, o, none⟩ = W.frozen? ⟨b, o, none⟩) :=
  ⟨fun b o h => hb.cell (p := ⟨b, o, none⟩) h, fun b o h => hb.frozen (p := ⟨b, o, none⟩) h⟩
theorem Gl.alloc {w : World} (h : Gl w) (o : Obj) : Gl (w.alloc o) := h.below ((Below.refl _ _).alloc (Nat.le_refl _) _)
/-- a call behind a boxed argument -/
theorem below_box {w w1 : World} {o : Obj} (hb : Below (w.alloc o).heap.size (w.alloc o) w1) : Below w.heap.size w w1 := ((Below.refl _ _).alloc (Nat.le_refl _) _).trans (hb.mono (by simp))
set_option maxHeartbeats 1000000 in
theorem partsOf_any (f : Fm) (k : Nat) (hk : f.kind = (k : Int)) (pv lv : Value) (w : World) (hG : Gl w) : Calls Tryd.prog 55 #[frV f pv lv] w fun e w' => e = .returned (.int .i64 ((partN k f.prio : Nat) : Int)) ∧ Below w.heap.size w w' := by
  obtain ⟨kind, stream, fin, eh, ack, prio, pay, flags, pad, depend, excl, weight, code, list, last, inc⟩ := f
  simp only at hk
  subst hk
  have HG := Lib.hid hG
  have hpl := pN_lt k
  have hor : bits .or .i64 ((pN k : Nat) : Int) 32 = ((partN k true : Nat) : Int) := i64_or (pN k) 32 (by omega) (by omega)
  have hno : Hid (pN k = partN k false) := (Nat.or_zero _).symm
  clear hG hpl
  have sf := shf1
  cases prio
  all_goals
    go_enter Tryd.func55, Tryd.ntmps55
    go_wp2_with (first
      | (go_at_call 51; (with_reducible refine (shapeOf_any k _ (HG.out.alloc _)).mono ?_); rintro e w1 ⟨rfl, hb⟩
         obtain ⟨hc, hf⟩ := bcell hb
         have HB := Lib.hid (below_box hb)
         clear hb))
    go_ret
  · exact ⟨by rw [hno.out]; rfl, HB.out⟩
  · exact ⟨rfl, HB.out⟩
theorem depWord_any (f : Fm) (d : Nat) (hd : f.depend = (d : Int)) (hd2 : d < 2147483648) (pv lv : Value) (w : World) : Calls Tryd.prog 57 #[frV f pv lv] w fun e w' => e = .returned (.int .i64 ((d + (bif f.excl then 2147483648 else 0) : Nat) : Int)) ∧ Below w.heap.size w w' := by
  obtain ⟨kind, stream, fin, eh, ack, prio, pay, flags, pad, depend, excl, weight, code, list, last, inc⟩ := f
  simp only at hd
  subst hd
  have hor := i64_or31 d hd2
  cases excl
  all_goals
    go_enter Tryd.func57, Tryd.ntmps57
    go_wp2
    go_ret
    exact ⟨rfl, (Below.refl _ _).alloc (Nat.le_refl _) _⟩
/-- the cells of settings -/
def scell (s : Int × Nat) : List Value := [.int .i64 s.1, .int .u32 (s.2 : Int)]
def scells (l : List (Int × Nat)) : List Value := l.flatMap scell
theorem scells_length (l : List (Int × Nat)) : (scells l).length = l.length * 2 := by
  induction l with
  | nil => rfl
  | cons s l ih => simp [scells, scell] at ih ⊢; omega
theorem scells_at : ∀ (l : List (Int × Nat)) (k : Nat) (s : Int × Nat), l[k]? = some s → (scells l)[k * 2]? = some (.int .i64 s.1) ∧ (scells l)[k * 2 + 1]? = some (.int .u32 (s.2 : Int))
  | [], k, s, h => by simp at h
  | a :: l, 0, s, h => by simp at h; subst h; exact ⟨rfl, rfl⟩
  | a :: l, k + 1, s, h => by
    have h' := scells_at l k s (by simpa using h)
    have e : scells (a :: l) = scell a ++ scells l := by simp [scells]
    have e1 : (scell a).length = 2 := rfl
    rw [e, List.getElem?_append_right (by rw [e1]; omega), List.getElem?_append_right (by rw [e1]; omega), e1]
    rw [show (k + 1) * 2 - 2 = k * 2 by omega, show (k + 1) * 2 + 1 - 2 = k * 2 + 1 by omega]
    exact h'
theorem scells_one (l : List (Int × Nat)) : ∀ v ∈ scells l, v.oneCell' = true := by
  intro v hv
  obtain ⟨s, _, hs⟩ := List.mem_flatMap.1 hv
  simp [scell] at hs
  rcases hs with rfl | rfl <;> rfl
theorem rd_set {w : World} {A : Option Addr} {n k : Nat} {l : List (Int × Nat)} {s : Int × Nat} (h : Rd w 2 A n (scells l)) (hk : l[k]? = some s) :
    ∃ b o, A = some ⟨b, o, none⟩ ∧ w.cell? ⟨b, o + k * 2, none⟩ = some (.int .i64 s.1) ∧ w.cell? ⟨b, o + k * 2 + 1, none⟩ = some (.int .u32 (s.2 : Int)) := by
  have hlt := (List.getElem?_eq_some_iff.1 hk).1
  have hn : l.length * 2 = n * 2 := by rw [← scells_length]; exact h.1
  obtain ⟨b, o, rfl, hc⟩ := h.2 (by omega)
  obtain ⟨h1, h2⟩ := scells_at l k s hk
  exact ⟨b, o, rfl, hc _ _ h1, hc _ _ h2⟩
theorem rd_set_len {w : World} {A : Option Addr} {n : Nat} {l : List (Int × Nat)} (h : Rd w 2 A n (scells l)) : l.length = n := by
  have := h.1
  rw [scells_length] at this
  omega
set_option maxHeartbeats 1000000 in
theorem areSet_any {w : World} {A : Option Addr} {n c : Nat} {l : List (Int × Nat)} (h : Rd w 2 A n (scells l)) (hn : n ≤ 9223372036854775807) : Calls Tryd.prog 70 #[.slice A n c] w fun e w' => e = .returned (.bool (idsOk l)) ∧ Below w.heap.size w w' := by
  have hl := rd_set_len h
  have H := Lib.hid h
  have HL := Lib.hid hl
  clear h hl
  go_enter Tryd.func70, Tryd.ntmps70
  go_wp2
  go_loopg [7] n (fun gh i w' => ∃ k : Nat, gh + k = n ∧ i = .int .i64 (k : Int) ∧ idsOk (l.take k) = true ∧ Below w.heap.size w w')
  case atStart => exact ⟨0, by omega, rfl, rfl, Below.refl _ _⟩
  case round =>
    obtain ⟨k, hk, rfl, hok, hb⟩ := hrel
    cases gk with
    | succ g1 =>
      have hkn : k < n := by omega
      obtain ⟨⟨a, v⟩, hs⟩ : ∃ s, l[k]? = some s := ⟨_, List.getElem?_eq_getElem (by rw [HL.out]; exact hkn)⟩
      obtain ⟨b, o, rfl, c0, c1⟩ := rd_set (H.out.below hb) hs
      have hbl := World.block_lt_of_cell? _ _ c0
      have k1 : (k : Int) < (n : Int) := by omega
      have hm := List.mem_of_getElem? hs
      have hcat : Hid (l.take (k + 1) = l.take k ++ [(a, v)]) := by
        show _ = _
        rw [List.take_add_one, hs]; rfl
      have HM := Lib.hid hm
      have HOK := Lib.hid hok
      have HB := Lib.hid hb
      clear hs hm hok hb
      by_cases hin : 0 ≤ a ∧ a ≤ 65535
      · have hi : (decide (0 ≤ a) && decide (a ≤ 65535)) = true := by simp; omega
        clear hin
        go_wp2_with (first
          | (go_at_call 50; (with_reducible refine (isIn_is a 0 65535 true hi _).mono ?_); rintro e w1 ⟨rfl, rfl⟩))
        go_roundg g1
        case measure => omega
        case rel => exact ⟨k + 1, by omega, by go_num, by rw [hcat.out, idsOk, List.all_append]; simp only [List.all_cons, List.all_nil, Bool.and_true]; rw [hi, Bool.and_true]; exact HOK.out, HB.out.alloc HB.out.size _⟩
      · have hi : (decide (0 ≤ a) && decide (a ≤ 65535)) = false := by simp; omega
        clear hin
        go_wp2_with (first
          | (go_at_call 50; (with_reducible refine (isIn_is a 0 65535 false hi _).mono ?_); rintro e w1 ⟨rfl, rfl⟩))
        go_ret
        refine ⟨ret_bool ?_, HB.out.alloc HB.out.size _⟩
        refine (Bool.eq_false_iff.2 (fun hh => ?_)).symm
        have := List.all_eq_true.1 hh _ HM.out
        simp only at this
        rw [hi] at this
        cases this
    | zero =>
      obtain rfl : k = n := by omega
      rw [List.take_of_length_le (by rw [HL.out]; exact Nat.le_refl _)] at hok
      have HOK := Lib.hid hok
      have HB := Lib.hid hb
      clear hok hb
      go_wp2
      go_ret
      exact ⟨ret_bool HOK.out.symm, HB.out⟩
end Go.Proofs.YtokbdkbljgdcpaaDoor

/- Results that lie in memory (a fault, a frame, a head), and blocks that a call makes. -/
namespace Go.Proofs.YtokbdkbljgdcpaaDoor
open Go.RowKit Go.Own Go.Frm
set_option linter.unusedVariables false
set_option maxRecDepth 100000

theorem res_flt {fn : Func} {p : Tmp} (h : fn.results = #[.cell p 46]) {tmps : Array Value} {w : World} {g : Nat} {a b c : Value} (hp : tmps.getD p undef = .pointer (some ⟨g, 0, none⟩)) (hb : Blk w g 46 [a, b, c]) : (results fn tmps).run Tryd.prog w = .ok (.agg #[a, b, c]) w :=
  results_cell_row h tmps w g 46 #[a, b, c] (0, 0) _ hp hb Tryd.underlying46 rfl (by kernel_rfl)
theorem res_head {fn : Func} {p : Tmp} (h : fn.results = #[.cell p 85]) {tmps : Array Value} {w : World} {g : Nat} {a b c d e : Value} (hp : tmps.getD p undef = .pointer (some ⟨g, 0, none⟩)) (hb : Blk w g 85 [a, b, c, d, e]) : (results fn tmps).run Tryd.prog w = .ok (.agg #[a, b, c, d, e]) w :=
  results_cell_row h tmps w g 85 #[a, b, c, d, e] (0, 0) _ hp hb Tryd.underlying85 rfl (by kernel_rfl)
theorem info_frame : (Tryd.prog.info? 27).map (·.size) = some 16 := by kernel_rfl
theorem res_frame {fn : Func} {p : Tmp} (h : fn.results = #[.cell p 27]) {tmps : Array Value} {w : World} {g : Nat} {cs : List Value} (hl : cs.length = 16) (hp : tmps.getD p undef = .pointer (some ⟨g, 0, none⟩)) (hb : Blk w g 27 cs) : (results fn tmps).run Tryd.prog w = .ok (.agg cs.toArray) w :=
  results_cell_row h tmps w g 27 cs.toArray (0, 0) _ hp hb Tryd.underlying27 rfl (by rw [info_frame]; simp [hl])
/-- a new block behind one that is new -/
theorem blk_new2 (w : World) (o : Obj) (t : TypeId) (cs : List Value) : Blk ((w.alloc o).alloc (.cells cs.toArray t)) (w.heap.size + 1) t cs := by
  have h := Blk.new (w.alloc o) t cs
  have e : (w.alloc o).heap.size = w.heap.size + 1 := by simp
  rwa [e] at h
theorem blk_new1 (w : World) (o : Obj) (t : TypeId) (cs : List Value) : Blk ((w.alloc (.cells cs.toArray t)).alloc o) w.heap.size t cs := (Blk.new w t cs).alloc o
theorem blk_below {w w' : World} {g : Nat} {t : TypeId} {cs : List Value} (h : Blk w g t cs) (hb : Below w.heap.size w w') : Blk w' g t cs := h.below hb h.lt
theorem Gl.drew {w : World} (h : Gl w) : Gl w.drew := h.below (below_drewN (Below.refl _ _) 1)
theorem blk_drew {w : World} {g : Nat} {t : TypeId} {cs : List Value} (h : Blk w g t cs) : Blk w.drew g t cs := h
end Go.Proofs.YtokbdkbljgdcpaaDoor

/- Reading a frame's octets: the contracts of reading's small methods. -/
namespace Go.Proofs.YtokbdkbljgdcpaaDoor
open Go.RowKit Go.Own Go.Frm
set_option linter.unusedVariables false
set_option maxRecDepth 100000

/-- at r lies a reading: the frame's cells cs, and the octets xs that are left -/
def RG (w : World) (r : Nat) (cs : List Value) (xs : List UInt8) : Prop :=
  ∃ A n c, cs.length = 16 ∧ Blk w r 114 (cs ++ [.slice A n c]) ∧ Rd w 1 A n (xs.map BV) ∧ n ≤ c ∧ c ≤ 9223372036854775807 ∧ (∀ a, A = some a → a.block < r)
theorem RG.lt {w : World} {r : Nat} {cs : List Value} {xs : List UInt8} (h : RG w r cs xs) : r < w.heap.size := by
  obtain ⟨A, n, c, _, hb, _⟩ := h; exact hb.lt
theorem RG.fr {w w' : World} {S : Nat → Prop} {r : Nat} {cs : List Value} {xs : List UInt8} (h : RG w r cs xs) (hf : Fr S w w') (hs : ∀ i, i < w.heap.size → ¬ S i) : RG w' r cs xs := by
  obtain ⟨A, n, c, hl, hb, hr, h1, h2, h3⟩ := h
  refine ⟨A, n, c, hl, hb.fr hf (hs _ hb.lt), ?_, h1, h2, h3⟩
  refine ⟨hr.1, fun hn => ?_⟩
  obtain ⟨b, o, e, hc⟩ := hr.2 hn
  exact ⟨b, o, e, fun j u hu => hf.cell (hc j u hu) (hs b (World.block_lt_of_cell? w _ (hc j u hu)))⟩
theorem RG.below {w w' : World} {r : Nat} {cs : List Value} {xs : List UInt8} (h : RG w r cs xs) (hb : Below w.heap.size w w') : RG w' r cs xs :=
  h.fr (S := fun _ => False) (Fr.of_below hb (fun i h1 h2 => by omega)) (fun _ _ h => h)
/-- a cell of the frame is set -/
theorem RG.set_ {w : World} {r : Nat} {cs : List Value} {xs : List UInt8} (h : RG w r cs xs) (i : Nat) (hi : i < 16) (v : Value) : RG (w.setCell ⟨r, i, none⟩ v) r (cs.set i v) xs := by
  obtain ⟨A, n, c, hl, hb, hr, h1, h2, h3⟩ := h
  refine ⟨A, n, c, by rw [List.length_set]; exact hl, ?_, ?_, h1, h2, h3⟩
  · have := hb.set_ i v
    rw [List.set_append_left _ _ (by omega)] at this
    exact this
  · exact hr.fr (S := (· = r)) (Fr.setCell (S := (· = r)) (Fr.refl _ _) (p := ⟨r, i, none⟩) (.inl rfl) v) (fun a ha hn => Nat.ne_of_lt (h3 a ha) hn)
/-- the octets that are left are others -/
theorem RG.left {w : World} {r : Nat} {cs : List Value} {xs : List UInt8} (h : RG w r cs xs) {A' : Option Addr} {n' c' : Nat} {ys : List UInt8} (hr : Rd w 1 A' n' (ys.map BV)) (h1 : n' ≤ c') (h2 : c' ≤ 9223372036854775807) (h3 : ∀ a, A' = some a → a.block < r) : RG (w.setCell ⟨r, 16, none⟩ (.slice A' n' c')) r cs ys := by
  obtain ⟨A, n, c, hl, hb, _, _, _, _⟩ := h
  refine ⟨A', n', c', hl, ?_, ?_, h1, h2, h3⟩
  · have := hb.set_ 16 (.slice A' n' c')
    rw [List.set_append_right _ _ (by omega), hl] at this
    exact this
  · exact hr.fr (S := (· = r)) (Fr.setCell (S := (· = r)) (Fr.refl _ _) (p := ⟨r, 16, none⟩) (.inl rfl) _) (fun a ha hn => Nat.ne_of_lt (h3 a ha) hn)
/-- what a call leaves that reads -/
def RGP (w : World) (r : Nat) (cs : List Value) (ys : List UInt8) (v : Value) (e : Ending) (w' : World) : Prop := e = .returned v ∧ RG w' r cs ys ∧ Fr (· = r) w w'
theorem blk_tail {w : World} {r : Nat} {cs : List Value} {v : Value} (hl : cs.length = 16) (hb : Blk w r 114 (cs ++ [v])) : w.cell? ⟨r, 16, none⟩ = some v := by
  rw [hb.cell, List.getElem?_append_right (by omega), hl]; rfl
theorem blk_head {w : World} {r i : Nat} {cs : List Value} {v u : Value} (hl : cs.length = 16) (hb : Blk w r 114 (cs ++ [v])) (hu : cs[i]? = some u) : w.cell? ⟨r, i, none⟩ = some u := by
  rw [hb.cell, List.getElem?_append_left (List.getElem?_eq_some_iff.1 hu).1]; exact hu
set_option maxHeartbeats 1000000 in
theorem number_c {w : World} {r : Nat} {cs : List Value} {xs : List UInt8} (h : RG w r cs xs) (z : Int) (k : Nat) (hz : z = (k : Int)) (h1 : 1 ≤ k) (h8 : k ≤ 8) (hk : k ≤ xs.length) :
    Calls Tryd.prog 59 #[.pointer (some ⟨r, 0, none⟩), .int .i64 z] w (RGP w r cs (xs.drop k) (.int .u64 (num (xs.take k) : Nat))) := by
  subst hz
  obtain ⟨A, n, c, hl, hb, hr, hnc, hc, hA⟩ := id h
  have hlen : xs.length = n := by simpa using hr.1
  have y0 := blk_tail hl hb
  have f0 := hb.frozen 16
  have hrl := hb.lt
  have hkn : k ≤ n := by omega
  have hd := hr.drop hkn hnc
  rw [Nat.mul_one, ← List.map_drop] at hd
  have hA' : ∀ a, (if c = k then A else A.map (·.add k)) = some a → a.block < r := by
    intro a ha
    split at ha
    · exact hA a ha
    · cases A with
      | none => cases ha
      | some a0 =>
        cases ha
        have := hA a0 rfl
        unfold Addr.add
        split <;> exact this
  obtain ⟨A', hA''⟩ : ∃ A', (if c = k then A else A.map (·.add k)) = A' := ⟨_, rfl⟩
  rw [hA''] at hd hA'
  have HE : Hid (RG (w.setCell ⟨r, 16, none⟩ (.slice A' (n - k) (c - k))) r cs (xs.drop k)) := h.left hd (by omega) (by omega) hA'
  have HF : Hid (Fr (· = r) w (w.setCell ⟨r, 16, none⟩ (.slice A' (n - k) (c - k)))) := Fr.setCell (S := (· = r)) (Fr.refl _ _) (p := ⟨r, 16, none⟩) (.inl rfl) _
  have Hr := Lib.hid hr
  have HA := Lib.hid hA''
  clear h hb hr hd hA hA' hA'' hlen hk hl
  go_enter Tryd.func59, Tryd.ntmps59
  go_wp2_with (first
    | (go_at_call 72; (with_reducible refine (Uint_yes A n c xs k w Hr.out h1 h8 hkn hnc hc).mono ?_); rintro e w1 ⟨rfl, rfl⟩))
  all_goals go_ret
  · have e1 := HA.out
    rw [if_pos ‹c = k›] at e1
    have e2 : c - k = 0 := by omega
    have a := HE.out
    have b := HF.out
    rw [e2, ← e1] at a b
    exact ⟨rfl, a, b⟩
  · have e1 := HA.out
    rw [if_neg ‹¬ c = k›] at e1
    have a := HE.out
    have b := HF.out
    rw [← e1] at a b
    exact ⟨rfl, a, b⟩
section
variable {w : World} {r : Nat} {cs : List Value} {xs : List UInt8}
theorem num4 (xs : List UInt8) : num (xs.take 4) < 4294967296 := num_take_lt xs 4
theorem stream_c (h : RG w r cs xs) (hk : 4 ≤ xs.length) : Calls Tryd.prog 60 #[.pointer (some ⟨r, 0, none⟩)] w (RGP w r cs (xs.drop 4) (.int .i64 ((low (num (xs.take 4)) : Nat) : Int))) := by
  have H := Lib.hid h
  have h4 := num4 xs
  obtain ⟨v, hv⟩ : ∃ v, num (xs.take 4) = v := ⟨_, rfl⟩
  rw [hv] at h4 ⊢
  have hb := u64_andNot31 v h4
  have hl : low v < 2147483648 := Nat.mod_lt _ (by omega)
  obtain ⟨q, hq⟩ : ∃ q, low v = q := ⟨_, rfl⟩
  rw [hq] at hb hl ⊢
  have Hv := Lib.hid hv
  clear h hv hq
  go_enter Tryd.func60, Tryd.ntmps60
  go_wp2_with (first
    | (go_at_call 59; (with_reducible refine (number_c H.out 4 4 rfl (by omega) (by omega) hk).mono ?_); rintro e w1 ⟨rfl, h1, f1⟩
       rw [Hv.out]
       have H1 := Lib.hid h1
       have F1 := Lib.hid f1
       clear h1 f1))
  go_ret
  exact ⟨rfl, H1.out, F1.out⟩
/-- a cell of the frame -/
theorem RG.at_ (h : RG w r cs xs) (i : Nat) (hi : i < 16) : (∃ u, cs[i]? = some u ∧ w.cell? ⟨r, i, none⟩ = some u) ∧ w.frozen? ⟨r, i, none⟩ = false := by
  obtain ⟨A, n, c, hl, hb, _⟩ := h
  refine ⟨⟨cs[i], List.getElem?_eq_getElem (by omega), blk_head hl hb (List.getElem?_eq_getElem (by omega))⟩, hb.frozen i⟩
/-- what a call leaves that has no result -/
def RGN (w : World) (r : Nat) (cs : List Value) (ys : List UInt8) (e : Ending) (w' : World) : Prop := e = .returned (.tuple #[]) ∧ RG w' r cs ys ∧ Fr (· = r) w w'
theorem RGN.trans {w w1 : World} {cs' : List Value} {ys : List UInt8} {e : Ending} {w' : World} (f : Fr (· = r) w w1) (h : RGN w1 r cs' ys e w') : RGN w r cs' ys e w' := ⟨h.1, h.2.1, f.trans h.2.2 (fun _ _ h => h)⟩
theorem code_c (h : RG w r cs xs) (hk : 4 ≤ xs.length) : Calls Tryd.prog 78 #[.pointer (some ⟨r, 0, none⟩)] w (RGN w r (cs.set 12 (.int .u32 ((num (xs.take 4) : Nat) : Int))) (xs.drop 4)) := by
  have H := Lib.hid h
  have h4 := num4 xs
  have hrl := h.lt
  obtain ⟨v, hv⟩ : ∃ v, num (xs.take 4) = v := ⟨_, rfl⟩
  rw [hv] at h4 ⊢
  have Hv := Lib.hid hv
  clear h hv
  go_enter Tryd.func78, Tryd.ntmps78
  go_wp2_with (first
    | (go_at_call 59; (with_reducible refine (number_c H.out 4 4 rfl (by omega) (by omega) hk).mono ?_); rintro e w1 ⟨rfl, h1, f1⟩
       rw [Hv.out]
       obtain ⟨⟨u, _, y0⟩, z0⟩ := h1.at_ 12 (by omega)
       have hl1 := h1.lt
       have H1 := Lib.hid h1
       have F1 := Lib.hid f1
       clear h1 f1))
  go_end0
  exact ⟨rfl, H1.out.set_ 12 (by omega) _, F1.out.setCell (.inl rfl) _⟩
theorem inc_c (h : RG w r cs xs) (hk : 4 ≤ xs.length) : Calls Tryd.prog 82 #[.pointer (some ⟨r, 0, none⟩)] w (RGN w r (cs.set 15 (.int .i64 ((low (num (xs.take 4)) : Nat) : Int))) (xs.drop 4)) := by
  have H := Lib.hid h
  have hrl := h.lt
  obtain ⟨v, hv⟩ : ∃ v, low (num (xs.take 4)) = v := ⟨_, rfl⟩
  rw [hv]
  have Hv := Lib.hid hv
  clear h hv
  go_enter Tryd.func82, Tryd.ntmps82
  go_wp2_with (first
    | (go_at_call 60; (with_reducible refine (stream_c H.out hk).mono ?_); rintro e w1 ⟨rfl, h1, f1⟩
       rw [Hv.out]
       obtain ⟨⟨u, _, y0⟩, z0⟩ := h1.at_ 15 (by omega)
       have hl1 := h1.lt
       have H1 := Lib.hid h1
       have F1 := Lib.hid f1
       clear h1 f1))
  go_end0
  exact ⟨rfl, H1.out.set_ 15 (by omega) _, F1.out.setCell (.inl rfl) _⟩
/-- a list of octets of the call's own, in the frame -/
theorem rest_c (h : RG w r cs xs) (hx : xs.length ≤ 16777215) : Calls Tryd.prog 75 #[.pointer (some ⟨r, 0, none⟩)] w fun e w' => ∃ A' c', e = .returned (.tuple #[]) ∧ RG w' r (cs.set 6 (.slice A' xs.length c')) xs ∧ Fr (· = r) w w' ∧ w'.ownsRow w.heap.size 5 1 (.slice A' xs.length c') xs.length (xs.map BV) := by
  obtain ⟨A, n, c, hl, hb, hr, hnc, hc, hA⟩ := id h
  have y0 := blk_tail hl hb
  have hrl := hb.lt
  have hlen : xs.length = n := by simpa using hr.1
  rw [hlen] at hx ⊢
  have H := Lib.hid h
  have Hr := Lib.hid hr
  clear h hb hr hA hl hlen
  go_enter Tryd.func75, Tryd.ntmps75
  go_wp2_with (first
    | (at_builtin
       refine wpList_append_rd rfl (.const (.slice none 0 0)) (.tmp 6) 22 rfl EB (base := w.heap.size) (.slice none 0 0) 0 [] rfl (World.ownsRow_nil _ _ _ _) A n c (xs.map BV) rfl Hr.out (BV_one _) (by omega) (by unfold maxLen; omega) (Nat.le_refl _) ?_
       intro A6 c6 w6 ho6 hf6 h26
       rw [Nat.zero_add] at ho6 h26
       have hf : Fr (fun _ => False) w w6 := hf6.mono (fun i _ hh => by simp [Value.ownBlock] at hh)
       have h6 := H.out.fr hf (fun _ _ hh => hh)
       obtain ⟨⟨u, _, q0⟩, z0⟩ := h6.at_ 6 (by omega)
       have hl6 := h6.lt
       have H6 := Lib.hid h6
       have Ho6 := Lib.hid ho6
       have Hf := Lib.hid hf
       clear ho6 hf6 h6 hf h26))
  go_end0
  refine ⟨A6, c6, rfl, H6.out.set_ 6 (by omega) _, Fr.setCell (S := (· = r)) (Hf.out.mono (fun i _ hh => hh.elim)) (p := ⟨r, 6, none⟩) (.inl rfl) _, ?_⟩
  exact own_fr (S := (· = r)) Ho6.out (Fr.setCell (S := (· = r)) (Fr.refl _ _) (p := ⟨r, 6, none⟩) (.inl rfl) _) (fun g hg e => by
    have := Ho6.out.lt g hg
    omega)
/-- the Depend, Exclusive, Weight of five octets -/
def prioC (cs : List Value) (xs : List UInt8) : List Value := ((cs.set 9 (.int .i64 ((low (num (xs.take 4)) : Nat) : Int))).set 10 (.bool (hi31 (num (xs.take 4))))).set 11 (.int .i64 ((num ((xs.drop 4).take 1) + 1 : Nat) : Int))
set_option maxHeartbeats 1000000 in
theorem priority_c (h : RG w r cs xs) (hk : 5 ≤ xs.length) : Calls Tryd.prog 77 #[.pointer (some ⟨r, 0, none⟩)] w (RGN w r (prioC cs xs) (xs.drop 5)) := by
  have H := Lib.hid h
  have h4 := num4 xs
  have hrl := h.lt
  obtain ⟨v, hv⟩ : ∃ v, num (xs.take 4) = v := ⟨_, rfl⟩
  have h1v := num_take_lt (xs.drop 4) 1
  obtain ⟨u1, hu⟩ : ∃ u1, num ((xs.drop 4).take 1) = u1 := ⟨_, rfl⟩
  rw [hv] at h4
  rw [hu] at h1v
  have hu1 : u1 < 256 := h1v
  have hb := u64_andNot31 v h4
  have hc := u64_and31 v h4
  have hl : low v < 2147483648 := Nat.mod_lt _ (by omega)
  have hP : prioC cs xs = ((cs.set 9 (.int .i64 ((low v : Nat) : Int))).set 10 (.bool (hi31 v))).set 11 (.int .i64 ((u1 + 1 : Nat) : Int)) := by
    unfold prioC
    rw [hv, hu]
  obtain ⟨q, hq⟩ : ∃ q, low v = q := ⟨_, rfl⟩
  obtain ⟨e, he⟩ : ∃ e, hi31 v = e := ⟨_, rfl⟩
  rw [hq] at hb hl hP
  rw [he] at hc hP
  have HP := Lib.hid hP
  clear hP
  have Hv := Lib.hid hv
  have Hu := Lib.hid hu
  have h14 : 1 ≤ (xs.drop 4).length := by rw [List.length_drop]; omega
  clear h hv hq he hu h1v
  go_enter Tryd.func77, Tryd.ntmps77
  go_wp2_with (first
    | (go_at_call 59; (with_reducible refine (number_c H.out 4 4 rfl (by omega) (by omega) (by omega)).mono ?_); rintro e w1 ⟨rfl, h1, f1⟩
       rw [Hv.out]
       obtain ⟨⟨_, _, y0⟩, z0⟩ := h1.at_ 9 (by omega)
       obtain ⟨⟨_, _, y1⟩, z1⟩ := h1.at_ 10 (by omega)
       have hl1 := h1.lt
       have H1 := Lib.hid ((h1.set_ 9 (by omega) (.int .i64 ((q : Nat) : Int))).set_ 10 (by omega) (.bool e))
       have F1 := Lib.hid ((f1.setCell (p := ⟨r, 9, none⟩) (.inl rfl) (.int .i64 ((q : Nat) : Int))).setCell (p := ⟨r, 10, none⟩) (.inl rfl) (.bool e))
       clear h1 f1)
    | (go_at_call 59; (with_reducible refine (number_c H1.out 1 1 rfl (by omega) (by omega) h14).mono ?_); rintro e w2 ⟨rfl, h2, f2⟩
       rw [Hu.out]
       obtain ⟨⟨_, _, q0⟩, q1⟩ := h2.at_ 11 (by omega)
       have hl2 := h2.lt
       have H2 := Lib.hid h2
       have F2 := Lib.hid (F1.out.trans f2 (fun _ _ h => h))
       clear h2 f2))
  go_end0
  refine ⟨rfl, ?_, F2.out.setCell (.inl rfl) _⟩
  rw [HP.out]
  have := H2.out.set_ 11 (by omega) (.int .i64 ((u1 + 1 : Nat) : Int))
  rw [List.drop_drop] at this
  exact this
end
end Go.Proofs.YtokbdkbljgdcpaaDoor

/- Reading a frame's octets: the payloads of kinds. -/
namespace Go.Proofs.YtokbdkbljgdcpaaDoor
open Go.RowKit Go.Own Go.Frm
set_option linter.unusedVariables false
set_option maxRecDepth 100000

section
variable {w : World} {r : Nat} {cs : List Value} {xs : List UInt8}
/-- what a call leaves that ends with the Payload -/
def RGR (w : World) (r : Nat) (cs : List Value) (ys : List UInt8) (e : Ending) (w' : World) : Prop := ∃ A' c', e = .returned (.tuple #[]) ∧ RG w' r (cs.set 6 (.slice A' ys.length c')) ys ∧ Fr (· = r) w w' ∧ w'.ownsRow w.heap.size 5 1 (.slice A' ys.length c') ys.length (ys.map BV)
theorem RGR.trans {w w1 : World} {cs' : List Value} {ys : List UInt8} {e : Ending} {w' : World} (f : Fr (· = r) w w1) (h : RGR w1 r cs' ys e w') : RGR w r cs' ys e w' := by
  obtain ⟨A, c, h1, h2, h3, h4⟩ := h
  exact ⟨A, c, h1, h2, f.trans h3 (fun _ _ h => h), own_lower h4 f.size⟩
theorem rest_r (h : RG w r cs xs) (hx : xs.length ≤ 16777215) : Calls Tryd.prog 75 #[.pointer (some ⟨r, 0, none⟩)] w (RGR w r cs xs) := rest_c h hx
theorem promise_c (h : RG w r cs xs) (hk : 4 ≤ xs.length) (hx : xs.length ≤ 16777215) : Calls Tryd.prog 80 #[.pointer (some ⟨r, 0, none⟩)] w (RGR w r (cs.set 14 (.int .i64 ((low (num (xs.take 4)) : Nat) : Int))) (xs.drop 4)) := by
  have H := Lib.hid h
  have hrl := h.lt
  obtain ⟨v, hv⟩ : ∃ v, low (num (xs.take 4)) = v := ⟨_, rfl⟩
  rw [hv]
  have Hv := Lib.hid hv
  have hd : (xs.drop 4).length ≤ 16777215 := by rw [List.length_drop]; omega
  clear h hv
  go_enter Tryd.func80, Tryd.ntmps80
  go_wp2_with (first
    | (go_at_call 60; (with_reducible refine (stream_c H.out hk).mono ?_); rintro e w1 ⟨rfl, h1, f1⟩
       rw [Hv.out]
       obtain ⟨⟨u, _, y0⟩, z0⟩ := h1.at_ 14 (by omega)
       have hl1 := h1.lt
       have H1 := Lib.hid (h1.set_ 14 (by omega) (.int .i64 (v : Int)))
       have F1 := Lib.hid (f1.setCell (p := ⟨r, 14, none⟩) (.inl rfl) (.int .i64 (v : Int)))
       clear h1 f1)
    | (go_at_call 75; (with_reducible refine (rest_r H1.out hd).mono ?_); rintro e w2 ⟨A2, c2, rfl, h2, f2, o2⟩
       have R2 := Lib.hid (RGR.trans F1.out ⟨A2, c2, rfl, h2, f2, o2⟩)
       clear h2 f2 o2))
  go_end0
  exact R2.out
theorem goaway_c (h : RG w r cs xs) (hk : 8 ≤ xs.length) (hx : xs.length ≤ 16777215) : Calls Tryd.prog 81 #[.pointer (some ⟨r, 0, none⟩)] w (RGR w r ((cs.set 14 (.int .i64 ((low (num (xs.take 4)) : Nat) : Int))).set 12 (.int .u32 ((num ((xs.drop 4).take 4) : Nat) : Int))) (xs.drop 8)) := by
  have H := Lib.hid h
  have hrl := h.lt
  obtain ⟨v, hv⟩ : ∃ v, low (num (xs.take 4)) = v := ⟨_, rfl⟩
  rw [hv]
  have Hv := Lib.hid hv
  have hd : ((xs.drop 4).drop 4).length ≤ 16777215 := by rw [List.length_drop, List.length_drop]; omega
  have h4 : 4 ≤ xs.length := by omega
  have h44 : 4 ≤ (xs.drop 4).length := by rw [List.length_drop]; omega
  clear h hv
  rw [show xs.drop 8 = (xs.drop 4).drop 4 by rw [List.drop_drop]]
  go_enter Tryd.func81, Tryd.ntmps81
  go_wp2_with (first
    | (go_at_call 60; (with_reducible refine (stream_c H.out h4).mono ?_); rintro e w1 ⟨rfl, h1, f1⟩
       rw [Hv.out]
       obtain ⟨⟨u, _, y0⟩, z0⟩ := h1.at_ 14 (by omega)
       have hl1 := h1.lt
       have H1 := Lib.hid (h1.set_ 14 (by omega) (.int .i64 (v : Int)))
       have F1 := Lib.hid (f1.setCell (p := ⟨r, 14, none⟩) (.inl rfl) (.int .i64 (v : Int)))
       clear h1 f1)
    | (go_at_call 78; (with_reducible refine (code_c H1.out h44).mono ?_); rintro e w2 ⟨rfl, h2, f2⟩
       have H2 := Lib.hid h2
       have F2 := Lib.hid (F1.out.trans f2 (fun _ _ h => h))
       clear h2 f2)
    | (go_at_call 75; (with_reducible refine (rest_r H2.out hd).mono ?_); rintro e w3 ⟨A2, c2, rfl, h2, f2, o2⟩
       have R2 := Lib.hid (RGR.trans F2.out ⟨A2, c2, rfl, h2, f2, o2⟩)
       clear h2 f2 o2))
  go_end0
  exact R2.out
theorem headers_yes (h : RG w r cs xs) (hp : cs[5]? = some (.bool true)) (hk : 5 ≤ xs.length) (hx : xs.length ≤ 16777215) : Calls Tryd.prog 76 #[.pointer (some ⟨r, 0, none⟩)] w (RGR w r (prioC cs xs) (xs.drop 5)) := by
  have H := Lib.hid h
  have hrl := h.lt
  obtain ⟨⟨u, hu, y0⟩, z0⟩ := h.at_ 5 (by omega)
  obtain rfl : u = .bool true := by rw [hp] at hu; cases hu; rfl
  have hd : (xs.drop 5).length ≤ 16777215 := by rw [List.length_drop]; omega
  clear h hp hu
  go_enter Tryd.func76, Tryd.ntmps76
  go_wp2_with (first
    | (go_at_call 77; (with_reducible refine (priority_c H.out hk).mono ?_); rintro e w1 ⟨rfl, h1, f1⟩
       have H1 := Lib.hid h1
       have F1 := Lib.hid f1
       clear h1 f1)
    | (go_at_call 75; (with_reducible refine (rest_r H1.out hd).mono ?_); rintro e w2 ⟨A2, c2, rfl, h2, f2, o2⟩
       have R2 := Lib.hid (RGR.trans F1.out ⟨A2, c2, rfl, h2, f2, o2⟩)
       clear h2 f2 o2))
  go_end0
  exact R2.out
theorem headers_no (h : RG w r cs xs) (hp : cs[5]? = some (.bool false)) (hx : xs.length ≤ 16777215) : Calls Tryd.prog 76 #[.pointer (some ⟨r, 0, none⟩)] w (RGR w r cs xs) := by
  have H := Lib.hid h
  have hrl := h.lt
  obtain ⟨⟨u, hu, y0⟩, z0⟩ := h.at_ 5 (by omega)
  obtain rfl : u = .bool false := by rw [hp] at hu; cases hu; rfl
  clear h hp hu
  go_enter Tryd.func76, Tryd.ntmps76
  go_wp2_with (first
    | (go_at_call 75; (with_reducible refine (rest_r H.out hx).mono ?_); rintro e w2 ⟨A2, c2, rfl, h2, f2, o2⟩
       have R2 := Lib.hid (show RGR w r cs xs _ _ from ⟨A2, c2, rfl, h2, f2, o2⟩)
       clear h2 f2 o2))
  go_end0
  exact R2.out
end
end Go.Proofs.YtokbdkbljgdcpaaDoor

/- Reading a frame's octets: the list of settings. -/
namespace Go.Proofs.YtokbdkbljgdcpaaDoor
open Go.RowKit Go.Own Go.Frm
set_option linter.unusedVariables false
set_option maxRecDepth 100000

theorem infoS' : (Tryd.prog.info? 50).map (fun i => (i.zero, i.size, i.bytes)) = some (some (.agg #[.int .i64 0, .int .u32 0]), 2, 16) := by kernel_rfl
theorem ES : Elt Tryd.prog 25 50 (.agg #[.int .i64 0, .int .u32 0]) 2 16 := by
  obtain ⟨i0, hi, hz0, hz1, hz2⟩ := info_parts infoS'
  exact ⟨Tryd.underlying25, ⟨i0, hi, hz0, hz1, hz2⟩, rfl, by omega⟩
theorem scells_append (a b : List (Int × Nat)) : scells (a ++ b) = scells a ++ scells b := by simp [scells]
theorem rd_one_set {w : World} {g : Nat} {a : Int} {v : Nat} (h : Blk w g 50 [.int .i64 a, .int .u32 (v : Int)]) : Rd w 2 (some ⟨g, 0, none⟩) 1 (scells [(a, v)]) := by
  have := Rd.of_blk (n := 1) (size := 2) h (by simp)
  simpa [scells, scell] using this
theorem own_none (w : World) (b : Nat) (e : TypeId) (size : Nat) : w.ownsRow b e size (.slice none 0 0) 0 [] := World.ownsRow_nil _ _ _ _
section
variable {w : World} {r : Nat} {cs : List Value} {xs : List UInt8}
set_option maxHeartbeats 4000000 in
theorem list_c (h : RG w r cs xs) (h13 : cs[13]? = some (.slice none 0 0)) (m : Nat) (hm : xs.length = 6 * m) (hx : xs.length ≤ 16777215) :
    Calls Tryd.prog 79 #[.pointer (some ⟨r, 0, none⟩)] w fun e w' => ∃ A' c', e = .returned (.tuple #[]) ∧ RG w' r (cs.set 13 (.slice A' m c')) (xs.drop (6 * m)) ∧ Fr (· = r) w w' ∧ w'.ownsRow w.heap.size 50 2 (.slice A' m c') m (scells (settsN m xs)) := by
  have H0 : Hid (RG w r (cs.set 13 (.slice none 0 0)) (xs.drop (6 * 0))) := by
    have e : cs.set 13 (.slice none 0 0) = cs := by
      obtain ⟨hl, he⟩ := List.getElem?_eq_some_iff.1 h13
      rw [← he, List.set_getElem_self]
    rw [e]
    exact h
  have hrl := h.lt
  have Hm := Lib.hid hm
  clear h h13
  go_enter Tryd.func79, Tryd.ntmps79
  go_wp2
  go_loopg [] m (fun gh w' => ∃ (k : Nat) (A' : Option Addr) (c' : Nat), gh + k = m ∧ RG w' r (cs.set 13 (.slice A' k c')) (xs.drop (6 * k)) ∧ Fr (· = r) w w' ∧ w'.ownsRow w.heap.size 50 2 (.slice A' k c') k (scells (settsN k xs)))
  case atStart => exact ⟨0, none, 0, by omega, H0.out, Fr.refl _ _, own_none _ _ _ _⟩
  case round =>
    obtain ⟨k, A1, c1, hk, h1, f1, o1⟩ := hrel
    cases gk with
    | succ g1 =>
      have hkm : k < m := by omega
      have hdl : (xs.drop (6 * k)).length = 6 * m - 6 * k := by rw [List.length_drop, Hm.out]
      have hl2 : 2 ≤ (xs.drop (6 * k)).length := by omega
      have hl4 : 4 ≤ ((xs.drop (6 * k)).drop 2).length := by rw [List.length_drop]; omega
      obtain ⟨B0, n0, c0, hcl, hb0, hr0, hnc0, hc0, hA0⟩ := id h1
      have y16 := blk_tail hcl hb0
      have hn0 : (xs.drop (6 * k)).length = n0 := by simpa using hr0.1
      have hlt := hb0.lt
      have hpos : (0 : Int) < (n0 : Int) := by omega
      obtain ⟨a, ha⟩ : ∃ a, num ((xs.drop (6 * k)).take 2) = a := ⟨_, rfl⟩
      obtain ⟨v, hv⟩ : ∃ v, num (((xs.drop (6 * k)).drop 2).take 4) = v := ⟨_, rfl⟩
      have ha2 : a < 65536 := by rw [← ha]; exact num_take_lt _ 2
      have hv2 : v < 4294967296 := by rw [← hv]; exact num_take_lt _ 4
      have hsn : settsN (k + 1) xs = settsN k xs ++ [((a : Int), v)] := by
        rw [settsN_snoc, ha, ← hv, List.drop_drop]
      have Hsn := Lib.hid hsn
      have Ha := Lib.hid ha
      have Hv := Lib.hid hv
      have H1 := Lib.hid h1
      have F1 := Lib.hid f1
      have O1 := Lib.hid o1
      clear hsn ha hv h1 f1 o1 hdl hb0 hr0 hn0 hA0 hcl
      go_wp2_with (first
        | (go_at_call 59; (with_reducible refine (number_c H1.out 2 2 rfl (by omega) (by omega) hl2).mono ?_); rintro e w2 ⟨rfl, h2, f2⟩
           rw [Ha.out]
           have H2 := Lib.hid h2
           have F2 := Lib.hid (F1.out.trans f2 (fun _ _ h => h))
           have O2 := Lib.hid (own_fr (S := (· = r)) O1.out f2 (fun g hg e => by have := O1.out.lt g hg; omega))
           clear h2 f2)
        | (go_at_call 59; (with_reducible refine (number_c H2.out 4 4 rfl (by omega) (by omega) hl4).mono ?_); rintro e w3 ⟨rfl, h3, f3⟩
           rw [Hv.out]
           have h3' := (h3.at_ 13 (by omega)).2
           have y13 : w3.cell? ⟨r, 13, none⟩ = some (.slice A1 k c1) := by
             obtain ⟨u, hu, hc⟩ := (h3.at_ 13 (by omega)).1
             rw [List.getElem?_set_self (by obtain ⟨_, _, _, hcl, _⟩ := h3; rw [List.length_set] at hcl; omega)] at hu
             cases hu
             exact hc
           have hl3 := h3.lt
           have hal : Fr (fun _ => False) w3 (w3.alloc (.cells #[.int .i64 (a : Int), .int .u32 (v : Int)] 50)) := (Fr.refl _ _).alloc _
           have H4 := Lib.hid (h3.fr hal (fun _ _ h => h))
           have hF3 := F2.out.trans f3 (fun _ _ h => h)
           have F4 := Lib.hid (hF3.alloc (.cells #[.int .i64 (a : Int), .int .u32 (v : Int)] 50))
           have hO3 := own_fr (S := (· = r)) O2.out f3 (fun g hg e => by have := O2.out.lt g hg; omega)
           have O4 := Lib.hid (own_fr (S := fun _ => False) hO3 hal (fun _ _ h => h))
           have X4 := Lib.hid (rd_one_set (Blk.new w3 50 [.int .i64 (a : Int), .int .u32 (v : Int)]))
           have hs4 : Hid (w.heap.size ≤ (w3.alloc (.cells #[.int .i64 (a : Int), .int .u32 (v : Int)] 50)).heap.size) := F4.out.size
           clear h3 f3 hal hF3 hO3)
        | (at_builtin
           refine wpList_append_rd rfl (.tmp 21) (.tmp 25) 25 rfl ES (.slice A1 k c1) k (scells (settsN k xs)) rfl O4.out (some ⟨w3.heap.size, 0, none⟩) 1 1 (scells [((a : Int), v)]) rfl X4.out (scells_one _) (by omega) (by unfold maxLen; omega) hs4.out ?_
           intro A6 c6 w6 ho6 hf6 h26
           rw [← scells_append, ← Hsn.out] at ho6
           have hne : ∀ i, i ≤ r → ¬ some i = (Value.slice A1 k c1).ownBlock := fun i hi e => by
             have := O4.out.lt i e.symm
             omega
           have h6 : RG w6 r (cs.set 13 (.slice A1 k c1)) (((xs.drop (6 * k)).drop 2).drop 4) := by
             obtain ⟨B, n, c, q1, q2, q3, q4, q5, q6⟩ := H4.out
             refine ⟨B, n, c, q1, q2.fr hf6 (hne r (Nat.le_refl _)), ?_, q4, q5, q6⟩
             exact q3.fr hf6 (fun a ha => hne a.block (Nat.le_of_lt (q6 a ha)))
           have f6 : Fr (· = r) w w6 := F4.out.trans hf6 (fun i hi e => by
             have := O4.out.lt i e.symm
             omega)
           have hz6 := (h6.at_ 13 (by omega)).2
           obtain ⟨_, _, hy6⟩ := (h6.at_ 13 (by omega)).1
           have hl6 := h6.lt
           have h7 := h6.set_ 13 (by omega) (.slice A6 (k + 1) c6)
           rw [List.set_set, List.drop_drop, List.drop_drop, show 6 * k + (2 + 4) = 6 * (k + 1) by omega] at h7
           have H7 := Lib.hid h7
           have F7 := Lib.hid (f6.setCell (p := ⟨r, 13, none⟩) (.inl rfl) (.slice A6 (k + 1) c6))
           have O7 := Lib.hid (own_fr (S := (· = r)) ho6 (Fr.setCell (S := (· = r)) (Fr.refl _ _) (p := ⟨r, 13, none⟩) (.inl rfl) (.slice A6 (k + 1) c6)) (fun g hg e => by have := ho6.lt g hg; omega))
           clear ho6 hf6 h26 h6 f6 h7 hne))
      go_roundg g1
      case measure => omega
      case rel => exact ⟨k + 1, A6, c6, by omega, H7.out, F7.out, O7.out⟩
    | zero =>
      obtain rfl : k = m := by omega
      obtain ⟨B0, n0, c0, hcl, hb0, hr0, hnc0, hc0, hA0⟩ := id h1
      have y16 := blk_tail hcl hb0
      have hn0 : (xs.drop (6 * k)).length = n0 := by simpa using hr0.1
      have hlt := hb0.lt
      have hz : n0 = 0 := by rw [← hn0, List.length_drop, Hm.out]; omega
      subst hz
      have H1 := Lib.hid h1
      have F1 := Lib.hid f1
      have O1 := Lib.hid o1
      clear h1 f1 o1 hb0 hr0 hn0 hA0 hcl
      go_wp2
      go_end0
      exact ⟨A1, c1, rfl, H1.out, F1.out, O1.out⟩
end
end Go.Proofs.YtokbdkbljgdcpaaDoor

/- append where the second type is another one; append of make. Of no program. -/
namespace Go.Proofs.YtokbdkbljgdcpaaDoor
open Go.RowKit Go.Own
set_option linter.unusedVariables false

theorem append_types {P : Program} {t tx ty e e' : TypeId} (ht : P.underlying t = some (.slice e)) (hx : P.underlying tx = some (.slice e')) (B A : Option Addr) (n k m c : Nat) (w : World) :
    (Builtin.append_ #[t, tx] ty #[.slice B n k, .slice A m c]).run P w = (Builtin.append_ #[t, t] ty #[.slice B n k, .slice A m c]).run P w := by
  simp [Builtin.append_, run_underlying ht, run_underlying hx]
theorem run_append_rd2 {P : Program} {w : World} {t tx ty e e' : TypeId} {z : Value} {size bytes : Nat} (E : Elt P t e z size bytes) (hx : P.underlying tx = some (.slice e')) {base : Nat}
    {v : Value} {n : Nat} {xs : List Value} (hown : w.ownsRow base e size v n xs) {A : Option Addr} {m c : Nat} {news : List Value} (hr : Rd w size A m news) (h1 : ∀ u ∈ news, u.oneCell' = true)
    (hb : (n + m) * bytes ≤ 140737488355328) (h63 : n + m ≤ maxLen) (hbase : base ≤ w.heap.size) :
    ∃ v' w', (Builtin.append_ #[t, tx] ty #[v, .slice A m c]).run P w = .ok v' w' ∧ w'.ownsRow base e size v' (n + m) (xs ++ news) ∧ Fr (fun i => some i = v.ownBlock) w w' ∧
      (v'.ownBlock = v.ownBlock ∨ v'.ownBlock = some w.heap.size) := by
  obtain ⟨v', w', h, h2⟩ := run_append_rd (ty := ty) (c := c) E hown hr h1 hb h63 hbase
  refine ⟨v', w', ?_, h2⟩
  obtain ⟨B, k, rfl, _⟩ := own_shape hown
  obtain ⟨ht, _⟩ := E
  rw [append_types ht hx]
  exact h
theorem wp_append_rd2 {P : Program} {w : World} {o : Oper} {a : Act} {K : Act → World → Prop} {Q : Exit → Act → World → Prop} (s x : Operand) (t tx : TypeId)
    (ho : o.op = .call { callee := .builtin .append, args := #[s, x], argTypes := #[t, tx] }) {e e' : TypeId} {z : Value} {size bytes : Nat} (E : Elt P t e z size bytes) (hxt : P.underlying tx = some (.slice e')) {base : Nat}
    (v : Value) (n : Nat) (xs : List Value) (hs : a.eval s = v) (hown : w.ownsRow base e size v n xs) (A : Option Addr) (m c : Nat) (news : List Value) (hx : a.eval x = .slice A m c)
    (hr : Rd w size A m news) (h1 : ∀ u ∈ news, u.oneCell' = true)
    (hb : (n + m) * bytes ≤ 140737488355328) (h63 : n + m ≤ maxLen) (hbase : base ≤ w.heap.size)
    (h : ∀ A' c' w', w'.ownsRow base e size (.slice A' (n + m) c') (n + m) (xs ++ news) → Fr (fun i => some i = v.ownBlock) w w' → ((Value.slice A' (n + m) c').ownBlock = v.ownBlock ∨ (Value.slice A' (n + m) c').ownBlock = some w.heap.size) → K (a.put o.dst (.slice A' (n + m) c')) w') : o.wp P a w K Q := by
  obtain ⟨v', w', hrun, h2, h3, h4⟩ := run_append_rd2 (ty := o.type) (c := c) E hxt hown hr h1 hb h63 hbase
  unfold Oper.wp execOp
  obtain ⟨A', c', rfl, _⟩ := own_shape h2
  simp only [ho, resolve, invoke, builtin, Sem.run_bind, Sem.run_pure, Result.andThen_ok, List.map_toArray, List.map_cons, List.map_nil, hs, hx, hrun]
  exact h A' c' w' h2 h3 h4
theorem wpList_append_rd2 {P : Program} {w : World} {ops : Array Oper} {rest : List Oper} {o : Oper} {a : Act} {Q : Exit → Act → World → Prop} (hgd : o.guard = none) (s x : Operand) (t tx : TypeId)
    (ho : o.op = .call { callee := .builtin .append, args := #[s, x], argTypes := #[t, tx] }) {e e' : TypeId} {z : Value} {size bytes : Nat} (E : Elt P t e z size bytes) (hxt : P.underlying tx = some (.slice e')) {base : Nat}
    (v : Value) (n : Nat) (xs : List Value) (hs : a.eval s = v) (hown : w.ownsRow base e size v n xs) (A : Option Addr) (m c : Nat) (news : List Value) (hx : a.eval x = .slice A m c)
    (hr : Rd w size A m news) (h1 : ∀ u ∈ news, u.oneCell' = true)
    (hb : (n + m) * bytes ≤ 140737488355328) (h63 : n + m ≤ maxLen) (hbase : base ≤ w.heap.size)
    (h : ∀ A' c' w', w'.ownsRow base e size (.slice A' (n + m) c') (n + m) (xs ++ news) → Fr (fun i => some i = v.ownBlock) w w' → ((Value.slice A' (n + m) c').ownBlock = v.ownBlock ∨ (Value.slice A' (n + m) c').ownBlock = some w.heap.size) → wpList P ops Q rest (a.put o.dst (.slice A' (n + m) c')) w') : wpList P ops Q (o :: rest) a w :=
  wpList_plain hgd fun _ hK => wp_append_rd2 s x t tx ho E hxt v n xs hs hown A m c news hx hr h1 hb h63 hbase fun A' c' w' h2 h3 h4 => hK _ _ (h A' c' w' h2 h3 h4)
theorem step_append_rd2 {P : Program} {w : World} {ops : Array Oper} {o : Oper} {a : Act} {K : Act → World → Prop} {Q : Exit → Act → World → Prop} {E' : Prop} (hgd : o.guard = none) (s x : Operand) (t tx : TypeId)
    (ho : o.op = .call { callee := .builtin .append, args := #[s, x], argTypes := #[t, tx] }) {e e' : TypeId} {z : Value} {size bytes : Nat} (E : Elt P t e z size bytes) (hxt : P.underlying tx = some (.slice e')) {base : Nat}
    (v : Value) (n : Nat) (xs : List Value) (hs : a.eval s = v) (hown : w.ownsRow base e size v n xs) (A : Option Addr) (m c : Nat) (news : List Value) (hx : a.eval x = .slice A m c)
    (hr : Rd w size A m news) (h1 : ∀ u ∈ news, u.oneCell' = true)
    (hb : (n + m) * bytes ≤ 140737488355328) (h63 : n + m ≤ maxLen) (hbase : base ≤ w.heap.size)
    (h : ∀ A' c' w', w'.ownsRow base e size (.slice A' (n + m) c') (n + m) (xs ++ news) → Fr (fun i => some i = v.ownBlock) w w' → ((Value.slice A' (n + m) c').ownBlock = v.ownBlock ∨ (Value.slice A' (n + m) c').ownBlock = some w.heap.size) → K (a.put o.dst (.slice A' (n + m) c')) w') :
    if Region.wanted o (yielded ops a.tmps) = true then Oper.wp P o a w K Q else E' := by
  have hw : Region.wanted o (yielded ops a.tmps) = true := by simp [Region.wanted, hgd]
  rw [if_pos hw]
  exact wp_append_rd2 s x t tx ho E hxt v n xs hs hown A m c news hx hr h1 hb h63 hbase h

theorem zeroCells_one (z : Value) (n : Nat) : Builtin.zeroCells #[z] n = (List.replicate n z).toArray := by
  apply Array.ext'
  unfold Builtin.zeroCells
  apply List.ext_getElem
  · simp
  · intro i h1 h2
    simp [Nat.mod_one]
/-- append of make, onto a slice of the call's own that isn't nil -/
theorem run_append_own_zeros {P : Program} {w : World} {t tn ty e : TypeId} {kn : IntKind} {z : Value} {bytes : Nat} (E : Elt P t e z 1 bytes) (htn : P.underlying tn = some (.int kn)) (hz1 : z.cells = #[z]) (hone : z.oneCell' = true) {base : Nat}
    {g n cap : Nat} {xs : List Value} (hown : w.ownsRow base e 1 (.slice (some ⟨g, 0, none⟩) n cap) n xs) (m : Nat) (kq : IntKind)
    (hb : (n + m) * bytes ≤ 140737488355328) (h63 : n + m ≤ maxLen) (hbase : base ≤ w.heap.size) :
    ∃ v' w', (Builtin.append_ #[t, tn] ty #[.slice (some ⟨g, 0, none⟩) n cap, .int kq (m : Int)]).run P w = .ok v' w' ∧ w'.ownsRow base e 1 v' (n + m) (xs ++ List.replicate m z) ∧ Fr (fun i => i = g) w w' ∧
      (v'.ownBlock = some g ∨ v'.ownBlock = some w.heap.size) := by
  obtain ⟨ht, ⟨i, hi, hz, hsize, hby⟩, hzs, hsz⟩ := E
  have hsmall : n + m ≤ 9223372036854775807 := by simp only [maxLen] at h63; omega
  have hw : IntKind.i64.wrap (m : Int) = m := by rw [IntKind.wrap_i64]; omega
  have hneg : ¬ ((m : Int) < 0) := by omega
  have hmb : m * bytes ≤ 140737488355328 := Nat.le_trans (Nat.mul_le_mul_right _ (by omega)) hb
  have h48i : ¬ (281474976710656 < (m : Int) * (i.bytes : Int)) := by
    rw [hby, ← Int.natCast_mul]
    omega
  have hlen : (xs ++ List.replicate m z).length = (n + m) * 1 := by rw [List.length_append, hown.1, List.length_replicate]; omega
  obtain ⟨_, (⟨he, _⟩ | ⟨g', cap', cur, he, hbg, hg, hnc, hcm, hcs, htake⟩)⟩ := id hown
  · cases he
  · cases he
    rw [Nat.mul_one] at hcs htake
    have hxl : xs.length = n := by have := hown.1; omega
    by_cases hroom : n + m ≤ cap
    · by_cases hm : m = 0
      · subst hm
        refine ⟨.slice (some ⟨g, 0, none⟩) (n + 0) cap, w, ?_, by simpa using hown, Fr.refl _ _, .inl rfl⟩
        simp [Builtin.append_, run_underlying ht, run_underlying htn, sizeOf, typeInfo, hi, asInt, asIntOf, show IntKind.i64.wrap 0 = 0 from rfl, hnc, Addr.add_lit, storeCells]
      · have hst := run_storeCells_at P g n e (List.replicate m z) 0 cur w hg (by simp; omega) (fun u hu => by rw [List.eq_of_mem_replicate hu]; exact hone)
        simp only [Nat.add_zero] at hst
        refine ⟨.slice (some ⟨g, 0, none⟩) (n + m) cap, w.setRow g (cur.toList.take n ++ List.replicate m z ++ cur.toList.drop (n + (List.replicate m z).length)).toArray, ?_, ⟨hlen, .inr ⟨g, cap, _, rfl, hbg, setRow_heap w g cur _ e _ hg, hroom, hcm, ?_, ?_⟩⟩, ?_, .inl rfl⟩
        · simp [Builtin.append_, run_underlying ht, run_underlying htn, sizeOf, typeInfo, zeroValue, hi, hz, hsize, asInt, asIntOf, hw, hneg, h48i, hroom, hm, Addr.add_lit, hz1, zeroCells_one, hst]
        · simp only [List.size_toArray, List.length_append, List.length_take, List.length_drop, Array.length_toList, List.length_replicate]
          omega
        · rw [← hlen, htake]
          exact List.take_left
        · exact Fr.of_grown (row := some g) ⟨rfl, rfl, rfl, by simp, fun k _ hk => setRow_other w g k _ (fun e => hk (by simp [e]))⟩ (fun i _ h => by cases h; rfl)
    · have hm : 0 < m := by omega
      have holds : ∀ j u, xs[j]? = some u → w.cell? ((⟨g, 0, none⟩ : Addr).add j) = some u := hown.cells (g := g) rfl
      have hold : (Builtin.firstCells i.size n (.slice (some ⟨g, 0, none⟩) n cap)).run P w.drew = .ok xs.toArray w.drew := run_firstCells_some w.drew i.size n ⟨g, 0, none⟩ n cap xs (by rw [hsize]; exact hown.1) (by simpa using holds)
      have hr := Lib.run_append_grow_zeros (P := P) w t tn ty e i z kq kn ht htn hi hz (some ⟨g, 0, none⟩) n cap xs hold m hm (by omega) (by omega) (by omega) (by rw [hby]; omega) (growslice_fits (by omega) (by rw [hby]; exact hb))
      refine ⟨_, _, hr, ⟨hlen, .inr ⟨w.heap.size, _, _, rfl, hbase, heap_alloc_new w.drew _, grownCap_ge .., grownCap_le_maxLen w (n + m) cap e h63, ?_, ?_⟩⟩, ?_, .inr rfl⟩
      · have hge := grownCap_ge w (n + m) cap e
        simp only [Array.size_append, List.size_toArray, size_zeroCells, hz1, hxl]
        show n + m * 1 + _ * 1 = _
        omega
      · simp only [Array.toList_append, List.append_assoc, hz1, zeroCells_one]
        rw [← List.append_assoc, ← hlen]
        exact List.take_left
      · exact ((Fr.refl (fun i => i = g) w).drew).alloc _
end Go.Proofs.YtokbdkbljgdcpaaDoor

/- put: octets behind a writing. -/
namespace Go.Proofs.YtokbdkbljgdcpaaDoor
open Go.RowKit Go.Own Go.Frm
set_option linter.unusedVariables false
set_option maxRecDepth 100000

theorem EW : Elt Tryd.prog 76 5 zeroB 1 1 := by
  obtain ⟨i0, hi, hz0, hz1, hz2⟩ := info_parts infoB'
  exact ⟨Tryd.underlying76, ⟨i0, hi, hz0, hz1, hz2⟩, rfl, by omega⟩
/-- at block p lies a writing: octets of its own, all in blocks from base on -/
def Wt (base p : Nat) (xs : List UInt8) (w : World) : Prop := ∃ A c, Blk w p 76 [.slice A xs.length c] ∧ w.ownsRow base 5 1 (.slice A xs.length c) xs.length (xs.map BV) ∧ base ≤ p
theorem Wt.fr {base p : Nat} {xs : List UInt8} {w w' : World} {S : Nat → Prop} (h : Wt base p xs w) (hf : Fr S w w') (hs : ∀ i, base ≤ i → ¬ S i) : Wt base p xs w' := by
  obtain ⟨A, c, h1, h2, h3⟩ := h
  exact ⟨A, c, h1.fr hf (hs p h3), own_fr h2 hf (fun g hg => hs g (h2.lt g hg).1), h3⟩
theorem put0 (v n : Nat) (w : World) (h1 : 1 ≤ n) (h8 : n ≤ 8) (hv : v < 18446744073709551616) : Calls Tryd.prog 58 #[.slice none 0 0, .int .u64 (v : Int), .int .i64 (n : Int)] w fun e w' => ∃ g, e = .returned (.slice (some ⟨g, 0, none⟩) n n) ∧ Rd w' 1 (some ⟨g, 0, none⟩) n ((be v n).map BV) ∧ w.heap.size ≤ g ∧ Below w.heap.size w w' := by
  refine (Put_yes none 0 0 [] v n w (Rd.nil _ _ _) h1 h8 hv (Nat.le_refl _) (by omega)).mono ?_
  rintro e w' ⟨g, rfl, hb, hg, hl⟩
  refine ⟨g, by rw [Nat.zero_add], ?_, hg, hl⟩
  rw [List.nil_append] at hb
  have h := Rd.of_blk (n := n) (size := 1) hb (by simp [be_length])
  rwa [List.take_of_length_le (by simp [be_length])] at h
theorem below_undrew {w w1 : World} (h : Below w.drew.heap.size w.drew w1) : Below w.heap.size w w1 := ⟨h.os, h.tape, h.output, h.size, h.block⟩
section
variable {w : World}
set_option maxHeartbeats 1000000 in
theorem put_c {base p : Nat} {xs : List UInt8} (h : Wt base p xs w) (v n : Nat) (h1 : 1 ≤ n) (h8 : n ≤ 8) (hv : v < 9223372036854775808) (hx : xs.length ≤ 1073741824) :
    Calls Tryd.prog 33 #[.pointer (some ⟨p, 0, none⟩), .int .i64 (v : Int), .int .i64 (n : Int)] w fun e w' => e = .returned (.tuple #[]) ∧ Wt base p (xs ++ be v n) w' ∧ Below base w w' ∧ ∀ g t cs, Blk w g t cs → g ≠ p → t ≠ 5 → Blk w' g t cs := by
  obtain ⟨A, c, hb, ho, hp⟩ := h
  have z0 := hb.cell 0
  simp only [List.getElem?_cons_zero] at z0
  have hl := hb.lt
  have Hb := Lib.hid hb
  have Ho := Lib.hid ho
  obtain ⟨k, hk⟩ : ∃ k, xs.length = k := ⟨_, rfl⟩
  have Hk := Lib.hid hk
  have Hne : Hid ((Value.slice A k c).ownBlock ≠ some p) := by rw [← hk]; exact own_ne_blk ho hb (by decide)
  have wv : IntKind.u64.wrap (v : Int) = (v : Int) := by rw [IntKind.wrap_u64]; omega
  rw [hk] at z0 hx
  clear hb ho hk
  go_enter Tryd.func33, Tryd.ntmps33
  go_wp2
  have Hb' : Hid (Blk w.drew p 76 [.slice A xs.length c]) := Hb
  go_region_law (first
    | (refine step_append_rd2 rfl (.tmp 9) (.tmp 13) 76 22 rfl EW Tryd.underlying22 (base := base) (.slice A k c) k (xs.map BV) rfl (by rw [← Hk.out]; exact O1.out) (some ⟨g, 0, none⟩) n n ((be v n).map BV) rfl R1.out (BV_one _) (by omega) (by unfold maxLen; omega) HS1.out ?_
       intro A6 c6 w6 ho6 hf6 h26
       have X6 := X1.out.fr hf6 (fun e => Hne.out e.symm)
       have z6 := X6.cell 0
       have l6 := X6.lt
       have y6 := X6.frozen 0
       have HX6 := Lib.hid X6
       have O6 := Lib.hid ho6
       have F6 := Lib.hid hf6
       clear ho6 hf6 h26 X6)
    | (go_simp; go_at_call 58; (with_reducible refine (put0 v n _ h1 h8 (by omega)).mono ?_); rintro e w1 ⟨g, rfl, hr, hg, hb⟩
       have B1 := Lib.hid (below_undrew hb)
       have X1 := Lib.hid (blk_below Hb'.out hb)
       have z1 := X1.out.cell 0
       simp only [List.getElem?_cons_zero] at z1
       rw [Hk.out] at z1
       have O1 := Lib.hid (own_fr (S := fun _ => False) Ho.out (Fr.of_below (S := fun _ => False) (below_undrew hb) (fun i h1 h2 => absurd h2 (by omega))) (fun _ _ h => h))
       have R1 := Lib.hid hr
       have HS1 : Hid (base ≤ w1.heap.size) := by have := (below_undrew hb).size; have := hl; show _ ≤ _; omega
       clear hb hr hg))
  all_goals
    go_wp2
    go_end0
    have hlen : (xs ++ be v n).length = k + n := by rw [List.length_append, be_length, Hk.out]
    have hf : Fr (fun i => i = p) w6 (w6.setCell ⟨p, 0, none⟩ (.slice A6 (k + n) c6)) := Fr.setCell (S := fun i => i = p) (Fr.refl _ _) (p := ⟨p, 0, none⟩) (.inl rfl) _
    have ho6 := O6.out
    have hne6 : (Value.slice A6 (k + n) c6).ownBlock ≠ some p := own_ne_blk ho6 HX6.out (by decide)
    refine ⟨rfl, ⟨A6, c6, by rw [hlen]; exact HX6.out.set_ 0 _, by rw [hlen, List.map_append]; exact own_fr ho6 hf (fun g hg e => hne6 (by rw [hg, e])), hp⟩, ?_, ?_⟩
    · have hb1 : Below base w w1 := B1.out.mono (by omega)
      have hb6 : Below base w1 w6 := F6.out.below HS1.out (fun i _ hi => (Ho.out.lt i (by rw [Hk.out]; exact hi.symm)).1)
      exact (hb1.trans hb6).setCell hp _
    · intro g t cs hg hgp ht
      have hg1 := blk_below hg B1.out
      have hg6 := hg1.fr F6.out (fun e => own_ne_blk O1.out hg1 (Ne.symm ht) (by rw [Hk.out]; exact e.symm))
      exact hg6.far (p := ⟨p, 0, none⟩) hgp _
end
end Go.Proofs.YtokbdkbljgdcpaaDoor
