/- The program's table: the static table's array, Static, Size, rightMax. -/
import Derived.Test.YtemgojgkklkmbaaTblP
import Derived.Deep.WholeRow
import Derived.Laws.Rows
import Derived.Laws.Tables
namespace Go.Proofs.Ytemgojgkklkmbaa
open Go.RowKit Go.Own Go.Tbl
set_option linter.unusedVariables false
attribute [local go_sem ↓] Go.wp_at_zero Go.wp_at_succ

/-- a field that is none -/
def zf : Fld := ⟨⟨#[]⟩, ⟨#[]⟩, false⟩
/-- the array of the static table -/
def arrL : List Fld := zf :: statL
theorem arrL_length : arrL.length = 62 := rfl
def zeroL : List Fld := List.replicate 62 zf
theorem zeroL_length : zeroL.length = 62 := rfl
theorem zero_arr : (∀ w, (zeroValue 51).run Try.prog w = .ok (.agg (fcellsL zeroL).toArray) w) ∧ (Try.prog.info? 51).map (·.size) = some 186 := zero_of_info (by kernel_rfl)
theorem fcells_all (l : List Fld) : (fcellsL l).toArray.all (·.oneCell') = true := by
  rw [Array.all_eq_true_iff_forall_mem]
  intro v hv
  exact fcells_one l v (by simpa using hv)
theorem wpList_load_arr {ops : Array Oper} {rest : List Oper} {o : Oper} {a : Act} {w : World} {Q : Exit → Act → World → Prop} (hgd : o.guard = none) (x : Operand) (ho : o.op = .load 51 x)
    (g : Nat) (hx : a.eval x = .pointer (some ⟨g, 0, none⟩)) (l : List Fld) (hl : l.length = 62) (hg : Blk w g 51 (fcellsL l))
    (h : wpList Try.prog ops Q rest (a.put o.dst (.agg (fcellsL l).toArray)) w) : wpList Try.prog ops Q (o :: rest) a w :=
  wpList_load_row hgd 51 x ho g hx 51 (fcellsL l).toArray (0, 0) _ hg Try.underlying51 rfl (by rw [zero_arr.2]; simp [fcellsL_length, hl]) h
theorem wpList_store_arr {ops : Array Oper} {rest : List Oper} {o : Oper} {a : Act} {w : World} {Q : Exit → Act → World → Prop} (hgd : o.guard = none) (x y : Operand) (ho : o.op = .store 51 x y)
    (g : Nat) (hx : a.eval x = .pointer (some ⟨g, 0, none⟩)) (l m : List Fld) (hl : l.length = 62) (hm : m.length = 62) (hy : a.eval y = .agg (fcellsL m).toArray) (hg : Blk w g 51 (fcellsL l))
    (h : ∀ w', Blk w' g 51 (fcellsL m) → Fr (· = g) w w' → wpList Try.prog ops Q rest (a.put o.dst undef) w') : wpList Try.prog ops Q (o :: rest) a w := by
  refine wpList_store_row hgd 51 x y ho g (fcellsL m).toArray hx hy 51 _ hg (by rw [zero_arr.2]; simp [fcellsL_length, hm]) (by simp [fcellsL_length, hl, hm]) (fcells_all _) ?_
  exact h _ (setRow_heap w g _ _ 51 _ hg) ⟨rfl, rfl, rfl, by simp [World.setRow], fun k _ hk => setRow_other w g k _ hk⟩
theorem results_arr {tmps : Array Value} {w : World} {g : Nat} {l : List Fld} (hl : l.length = 62) (hp : tmps.getD 0 undef = .pointer (some ⟨g, 0, none⟩)) (hb : Blk w g 51 (fcellsL l)) : (results Try.f31 tmps).run Try.prog w = .ok (.agg (fcellsL l).toArray) w :=
  results_cell_row (p := 0) (ty := 51) (by kernel_rfl) tmps w g 51 (fcellsL l).toArray (0, 0) _ hp hb Try.underlying51 rfl (by rw [zero_arr.2]; simp [fcellsL_length, hl])
theorem wpList_buildArr {ops : Array Oper} {rest : List Oper} {o : Oper} {a : Act} {w : World} {Q : Exit → Act → World → Prop} (hg : o.guard = none) (parts : Array (Nat × Operand)) (ho : o.op = .build 51 parts) (v : Array Value)
    (hf : Try.prog.built 51 (parts.map fun (i, x) => (i, a.eval x)).toList = some v)
    (h : wpList Try.prog ops Q rest (a.put o.dst (.agg v)) w) : wpList Try.prog ops Q (o :: rest) a w := by
  refine wpList_plain hg fun _ hK => ?_
  unfold Oper.wp execOp
  simp only [ho, Sem.run_bind, run_build w _ _ _ hf, Result.andThen_ok]
  exact hK _ _ h
/-- here the walk stops -/
def Stop (p : Prop) : Prop := p
theorem stopX {p : Prop} (h : Stop p) : p := h
theorem stop_out {p : Prop} (h : p) : Stop p := h
set_option maxRecDepth 100000 in
set_option maxHeartbeats 4000000 in
theorem statF_any (w : World) : Calls Try.prog 31 #[] w fun e w' => e = .returned (.agg (fcellsL arrL).toArray) ∧ Below w.heap.size w w' := by
  have hz := zero_arr.1
  have hb0 : Hid (Blk (w.alloc (.cells (fcellsL zeroL).toArray 51)) w.heap.size 51 (fcellsL zeroL)) := Blk.new w 51 (fcellsL zeroL)
  go_enter Try.func31, Try.ntmps31
  go_wp2_with (first
    | (refine wpList_build2 rfl _ _ rfl ?_)
    | (refine wpList_build1 rfl _ rfl ?_)
    | (refine wpList_buildArr rfl _ rfl (fcellsL arrL).toArray (by kernel_rfl) ?_; refine stopX ?_))
  refine stop_out ?_
  refine wpList_store_arr rfl _ _ rfl w.heap.size rfl zeroL arrL zeroL_length arrL_length rfl hb0.out ?_
  intro w5 hb5 hf5
  go_wp2
  have hb : Below w.heap.size w w5 := ((Below.refl _ _).alloc (Nat.le_refl _) _).trans (hf5.below (by simp) (fun i _ e => by omega))
  refine bodyPost_ret (v := .agg (fcellsL arrL).toArray) ?_ ?_ ?_
  · refine results_arr (g := w.heap.size) arrL_length ?_ hb5
    kernel_rfl
  · kernel_rfl
  · exact ⟨rfl, hb⟩
end Go.Proofs.Ytemgojgkklkmbaa
