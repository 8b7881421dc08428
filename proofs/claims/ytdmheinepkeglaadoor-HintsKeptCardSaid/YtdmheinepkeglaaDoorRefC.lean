/- The contracts of the document's answer: Lengths, Code. -/
import Derived.Test.YtdmheinepkeglaaDoorStr
namespace Go.Proofs.YtdmheinepkeglaaDoor
open Go.RowKit Go.Own Go.Huf
set_option linter.unusedVariables false

def lenZ : List Int := codeL.map fun c => Int.ofNat c.2
def lenCells : List Value := lenZ.map (Value.int .i64)
theorem lenZ_length : lenZ.length = 257 := by rw [lenZ, List.length_map, codeL_length]
theorem lenCells_at (s : Nat) (h : s < 257) : lenCells[s]? = some (.int .i64 (((code s).2 : Nat) : Int)) := by
  rw [lenCells, lenZ, List.getElem?_map, List.getElem?_map, code_at s h]
  rfl
theorem wpList_lens {ops : Array Oper} {rest : List Oper} {o : Oper} {a : Act} {w : World} {Q : Exit → Act → World → Prop} (hg : o.guard = none) (parts : Array (Nat × Operand)) (ho : o.op = .buildSlice 55 257 parts)
    (hparts : parts.toList = (lenZ.zipIdx 0).map fun x => (x.2, Operand.const (Value.int .i64 x.1)))
    (h : wpList Tryd.prog ops Q rest (a.put o.dst (.slice (some ⟨w.heap.size, 0, none⟩) 257 257)) (w.alloc (.cells lenCells.toArray 3))) : wpList Tryd.prog ops Q (o :: rest) a w :=
  wpList_buildFlat hg 55 3 257 parts ho .i64 lenZ Tryd.underlying55 (by kernel_rfl) (by kernel_rfl) (by rw [lenZ_length]) (by omega) (by omega) hparts h
set_option maxRecDepth 100000 in
theorem rLengths_any (w : World) : Calls Tryd.prog 32 #[] w fun e w' => ∃ g, e = .returned (.slice (some ⟨g, 0, none⟩) 257 257) ∧ Blk w' g 3 lenCells ∧ w.heap.size ≤ g ∧ Below w.heap.size w w' := by
  go_enter Tryd.func32, Tryd.ntmps32
  go_wp2_with (first
    | (refine wpList_lens rfl _ rfl (by kernel_rfl) ?_))
  go_ret
  exact ⟨w.heap.size, rfl, Blk.new w 3 lenCells, Nat.le_refl _, (Below.refl _ _).alloc (Nat.le_refl _) _⟩

/-- how many symbols below s have a code of n bits -/
def cb (n : Nat) : Nat → Nat
  | 0 => 0
  | s + 1 => cb n s + (if (code s).2 = n then 1 else 0)
theorem cb_all : ∀ n, n < 31 → cb n 257 = cnt n := by decide +kernel
theorem cb_val : ∀ s, s < 257 → frst (code s).2 + cb (code s).2 s = (code s).1 := by decide +kernel
theorem cb_le (n : Nat) : ∀ s, cb n s ≤ s
  | 0 => by simp [cb]
  | s + 1 => by have := cb_le n s; rw [cb]; split <;> omega
theorem cb_yes {n s : Nat} (h : (code s).2 = n) : cb n (s + 1) = cb n s + 1 := by rw [cb, if_pos h]
theorem cb_no {n s : Nat} (h : ¬ (code s).2 = n) : cb n (s + 1) = cb n s := by rw [cb, if_neg h]; rfl

end Go.Proofs.YtdmheinepkeglaaDoor
