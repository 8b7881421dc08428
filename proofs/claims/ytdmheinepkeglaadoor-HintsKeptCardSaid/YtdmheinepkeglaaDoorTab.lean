/- The contracts of huffman's tables: symbolsByCode, codes, Code. -/
import Derived.Test.YtdmheinepkeglaaDoorBase
import Derived.Test.YtdmheinepkeglaaDoorHuf
import Derived.Test.YtdmheinepkeglaaDoorChecked
import Derived.Great.BuildSlice
import Derived.Deep.WholeRow
import Derived.Deep.LoopGhost
import Derived.Deep.QuietTactic
import Derived.BigQuiet
namespace Go.Proofs.YtdmheinepkeglaaDoor
open Go.RowKit Go.Own Go.Huf
set_option linter.unusedVariables false

/-- the variable counts holds what the text says -/
def Cnt (w : World) : Prop := ∀ i, i < 31 → w.cell? ⟨0, i, none⟩ = some (.int .u32 ((cnt i : Nat) : Int))
theorem Cnt.pos {w : World} (h : Cnt w) : 0 < w.heap.size := World.block_lt_of_cell? w _ (h 0 (by omega))
theorem Cnt.below {w w' : World} (h : Cnt w) (hb : Below w.heap.size w w') : Cnt w' := fun i hi => (hb.cell (World.block_lt_of_cell? w _ (h i hi))).trans (h i hi)
theorem Cnt.fr {w w' : World} {S : Nat → Prop} (h : Cnt w) (hf : Fr S w w') (hs : ¬ S 0) : Cnt w' := fun i hi => hf.cell (h i hi) hs
theorem Cnt.drewN {w : World} (h : Cnt w) (n : Nat) : Cnt (w.drewN n) := h

def symZ : List Int := symL.map Int.ofNat
def symCells : List Value := symZ.map (Value.int .i16)
theorem symL_length : symL.length = 257 := by decide +kernel
theorem symCells_length : symCells.length = 257 := by rw [symCells, symZ, List.length_map, List.length_map, symL_length]
theorem symCells_at (p : Nat) (h : p < 257) : symCells[p]? = some (.int .i16 ((sym p : Nat) : Int)) := by
  have hl := symL_length
  rw [symCells, symZ, List.getElem?_map, List.getElem?_map, sym, List.getD_eq_getElem?_getD, List.getElem?_eq_getElem (show p < symL.length by omega)]
  rfl
theorem int_one (k : IntKind) (zs : List Int) : ((zs.map (Value.int k)).toArray).all (·.oneCell') = true := by
  rw [Array.all_eq_true_iff_forall_mem]
  intro v hv
  simp only [List.mem_toArray] at hv
  obtain ⟨z, _, rfl⟩ := List.mem_map.1 hv
  rfl
theorem zero_syms : (∀ w, (zeroValue 78).run Tryd.prog w = .ok (.agg (Array.replicate 257 (.int .i16 0))) w) ∧ (Tryd.prog.info? 78).map (·.size) = some 257 := zero_of_info (by kernel_rfl)
theorem info_syms : ((Tryd.prog.info? 78).bind (·.zero)).map (·.cells.size) = some 257 := by kernel_rfl

/-- the literal of the symbols -/
theorem wpList_syms {ops : Array Oper} {rest : List Oper} {o : Oper} {a : Act} {w : World} {Q : Exit → Act → World → Prop} (hg : o.guard = none) (parts : Array (Nat × Operand)) (ho : o.op = .build 78 parts)
    (hparts : parts.toList = (symZ.zipIdx 0).map fun x => (x.2, Operand.const (Value.int .i16 x.1)))
    (h : wpList Tryd.prog ops Q rest (a.put o.dst (.agg symCells.toArray)) w) : wpList Tryd.prog ops Q (o :: rest) a w :=
  wpList_buildFlatArr hg 78 77 257 parts ho .i16 symZ Tryd.underlying78 (by kernel_rfl) (by rw [info_syms, symZ, List.length_map, symL_length]) hparts h
theorem wpList_store_syms {ops : Array Oper} {rest : List Oper} {o : Oper} {a : Act} {w : World} {Q : Exit → Act → World → Prop} (hgd : o.guard = none) (x y : Operand) (ho : o.op = .store 78 x y)
    (hx : a.eval x = .pointer (some ⟨w.heap.size, 0, none⟩)) (hy : a.eval y = .agg symCells.toArray)
    (h : wpList Tryd.prog ops Q rest (a.put o.dst undef) (w.alloc (.cells symCells.toArray 78))) : wpList Tryd.prog ops Q (o :: rest) a (w.alloc (.cells (Array.replicate 257 (.int .i16 0)) 78)) := by
  refine wpList_store_row hgd 78 x y ho w.heap.size symCells.toArray hx hy 78 _ (heap_alloc_new w _) (by rw [zero_syms.2]; simp [symCells_length]) (by simp [symCells_length]) (int_one _ _) ?_
  rw [World.setRow_alloc_new]
  exact h
theorem results_syms {tmps : Array Value} {w : World} {g : Nat} (hp : tmps.getD 0 undef = .pointer (some ⟨g, 0, none⟩)) (hb : Blk w g 78 symCells) : (results Tryd.f44 tmps).run Tryd.prog w = .ok (.agg symCells.toArray) w :=
  results_cell_row (p := 0) (ty := 78) (by kernel_rfl) tmps w g 78 symCells.toArray (0, 0) _ hp hb Tryd.underlying78 rfl (by rw [zero_syms.2]; simp [symCells_length])

set_option maxRecDepth 100000 in
set_option maxHeartbeats 2000000 in
theorem syms_any (w : World) : Calls Tryd.prog 44 #[] w fun e w' => e = .returned (.agg symCells.toArray) ∧ Below w.heap.size w w' := by
  have hz := zero_syms.1
  go_enter Tryd.func44, Tryd.ntmps44
  go_wp2_with (first
    | (refine wpList_syms rfl _ rfl (by kernel_rfl) ?_)
    | (refine wpList_store_syms rfl _ _ rfl rfl rfl ?_))
  exact bodyPost_ret (v := .agg symCells.toArray) (results_syms rfl (Blk.new w 78 symCells)) rfl ⟨rfl, (Below.refl _ _).alloc (Nat.le_refl _) _⟩

/-- codes as the cells of an array -/
def cellsP (l : List (Nat × Nat)) : List Value := l.flatMap fun c => [.int .u32 ((c.1 : Nat) : Int), .int .i64 ((c.2 : Nat) : Int)]
theorem cellsP_cons (c : Nat × Nat) (l : List (Nat × Nat)) : cellsP (c :: l) = .int .u32 ((c.1 : Nat) : Int) :: .int .i64 ((c.2 : Nat) : Int) :: cellsP l := rfl
theorem cellsP_length : ∀ l, (cellsP l).length = l.length * 2
  | [] => rfl
  | c :: l => by rw [cellsP_cons, List.length_cons, List.length_cons, cellsP_length l, List.length_cons]; omega
theorem cellsP_at : ∀ (l : List (Nat × Nat)) (s : Nat) (c : Nat × Nat), l[s]? = some c → (cellsP l)[s * 2]? = some (.int .u32 ((c.1 : Nat) : Int)) ∧ (cellsP l)[s * 2 + 1]? = some (.int .i64 ((c.2 : Nat) : Int))
  | [], s, c, h => by simp at h
  | x :: l, 0, c, h => by
    simp only [List.getElem?_cons_zero, Option.some.injEq] at h
    subst h
    exact ⟨rfl, rfl⟩
  | x :: l, s + 1, c, h => by
    rw [cellsP_cons, show (s + 1) * 2 = s * 2 + 1 + 1 by omega]
    simp only [List.getElem?_cons_succ]
    exact cellsP_at l s c (by simpa using h)
theorem cellsP_set : ∀ (l : List (Nat × Nat)) (s : Nat) (c : Nat × Nat), ((cellsP l).set (s * 2) (.int .u32 ((c.1 : Nat) : Int))).set (s * 2 + 1) (.int .i64 ((c.2 : Nat) : Int)) = cellsP (l.set s c)
  | [], s, c => rfl
  | x :: l, 0, c => rfl
  | x :: l, s + 1, c => by
    rw [cellsP_cons, show (s + 1) * 2 = s * 2 + 1 + 1 by omega]
    simp only [List.set_cons_succ]
    rw [cellsP_cons, cellsP_set l s c]
def outP : Nat → List (Nat × Nat)
  | 0 => List.replicate 257 (0, 0)
  | p + 1 => (outP p).set (sym p) (code (sym p))
theorem outP_length : ∀ p, (outP p).length = 257
  | 0 => List.length_replicate
  | p + 1 => by rw [outP, List.length_set, outP_length p]
theorem outP_all : outP 257 = codeL := by decide +kernel
theorem strt_all : strt 31 = 257 := by decide +kernel
/-- what next is ahead of the round n -/
def nx : Nat → Nat
  | 0 => 0
  | n + 1 => frst n + cnt n
theorem nx_two (n : Nat) : 2 * nx n = frst n := by cases n <;> rfl
theorem nx_le : ∀ n, n < 31 → frst n + cnt n ≤ 1073741824 ∧ cnt n ≤ 32 ∧ strt n + cnt n ≤ 257 := by decide +kernel
def codeCells : List Value := cellsP codeL
theorem codeL_length : codeL.length = 257 := by decide +kernel
theorem codeCells_length : codeCells.length = 514 := by rw [codeCells, cellsP_length, codeL_length]
theorem zero_codes : (∀ w, (zeroValue 71).run Tryd.prog w = .ok (.agg (cellsP (outP 0)).toArray) w) ∧ (Tryd.prog.info? 71).map (·.size) = some 514 := zero_of_info (by kernel_rfl)
theorem cellsP_one (l : List (Nat × Nat)) : (cellsP l).toArray.all (·.oneCell') = true := by
  rw [Array.all_eq_true_iff_forall_mem]
  intro v hv
  simp only [List.mem_toArray, cellsP, List.mem_flatMap, List.mem_cons, List.not_mem_nil, or_false] at hv
  obtain ⟨c, _, rfl | rfl⟩ := hv <;> rfl
theorem wpList_load_codes {ops : Array Oper} {rest : List Oper} {o : Oper} {a : Act} {w : World} {Q : Exit → Act → World → Prop} (hgd : o.guard = none) (x : Operand) (ho : o.op = .load 71 x)
    (g : Nat) (hx : a.eval x = .pointer (some ⟨g, 0, none⟩)) (l : List (Nat × Nat)) (hl : l.length = 257) (hg : Blk w g 71 (cellsP l))
    (h : wpList Tryd.prog ops Q rest (a.put o.dst (.agg (cellsP l).toArray)) w) : wpList Tryd.prog ops Q (o :: rest) a w :=
  wpList_load_row hgd 71 x ho g hx 71 (cellsP l).toArray (0, 0) _ hg Tryd.underlying71 rfl (by rw [zero_codes.2]; simp [cellsP_length, hl]) h
theorem wpList_store_codes {ops : Array Oper} {rest : List Oper} {o : Oper} {a : Act} {w : World} {Q : Exit → Act → World → Prop} (hgd : o.guard = none) (x y : Operand) (ho : o.op = .store 71 x y)
    (g : Nat) (hx : a.eval x = .pointer (some ⟨g, 0, none⟩)) (l m : List (Nat × Nat)) (hl : l.length = 257) (hm : m.length = 257) (hy : a.eval y = .agg (cellsP m).toArray) (hg : Blk w g 71 (cellsP l))
    (h : ∀ w', Blk w' g 71 (cellsP m) → Fr (· = g) w w' → wpList Tryd.prog ops Q rest (a.put o.dst undef) w') : wpList Tryd.prog ops Q (o :: rest) a w := by
  refine wpList_store_row hgd 71 x y ho g (cellsP m).toArray hx hy 71 _ hg (by rw [zero_codes.2]; simp [cellsP_length, hm]) (by simp [cellsP_length, hl, hm]) (cellsP_one _) ?_
  exact h _ (setRow_heap w g _ _ 71 _ hg) ⟨rfl, rfl, rfl, by simp [World.setRow], fun k _ hk => setRow_other w g k _ hk⟩
theorem results_codes {tmps : Array Value} {w : World} {g : Nat} {l : List (Nat × Nat)} (hl : l.length = 257) (hp : tmps.getD 0 undef = .pointer (some ⟨g, 0, none⟩)) (hb : Blk w g 71 (cellsP l)) : (results Tryd.f41 tmps).run Tryd.prog w = .ok (.agg (cellsP l).toArray) w :=
  results_cell_row (p := 0) (ty := 71) (by kernel_rfl) tmps w g 71 (cellsP l).toArray (0, 0) _ hp hb Tryd.underlying71 rfl (by rw [zero_codes.2]; simp [cellsP_length, hl])
end Go.Proofs.YtdmheinepkeglaaDoor
