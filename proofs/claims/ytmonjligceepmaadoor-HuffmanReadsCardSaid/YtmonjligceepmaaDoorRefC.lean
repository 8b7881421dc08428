/- The contracts of the document's answer: Lengths, Code. -/
import Derived.Test.YtmonjligceepmaaDoorStr
namespace Go.Proofs.YtmonjligceepmaaDoor
open Go.RowKit Go.Own Go.Huf
set_option linter.unusedVariables false

def lenZ : List Int := codeL.map fun c => Int.ofNat c.2
def lenCells : List Value := lenZ.map (Value.int .i64)
theorem lenZ_length : lenZ.length = 257 := by rw [lenZ, List.length_map, codeL_length]
theorem lenCells_at (s : Nat) (h : s < 257) : lenCells[s]? = some (.int .i64 (((code s).2 : Nat) : Int)) := by
  rw [lenCells, lenZ, List.getElem?_map, List.getElem?_map, code_at s h]
  rfl
theorem wpList_lens {ops : Array Oper} {rest : List Oper} {o : Oper} {a : Act} {w : World} {Q : Exit → Act → World → Prop} (hg : o.guard = none) (parts : Array (Nat × Operand)) (ho : o.op = .buildSlice 50 257 parts)
    (hparts : parts.toList = (lenZ.zipIdx 0).map fun x => (x.2, Operand.const (Value.int .i64 x.1)))
    (h : wpList Tryd.prog ops Q rest (a.put o.dst (.slice (some ⟨w.heap.size, 0, none⟩) 257 257)) (w.alloc (.cells lenCells.toArray 3))) : wpList Tryd.prog ops Q (o :: rest) a w :=
  wpList_buildFlat hg 50 3 257 parts ho .i64 lenZ Tryd.underlying50 (by kernel_rfl) (by kernel_rfl) (by rw [lenZ_length]) (by omega) (by omega) hparts h
set_option maxRecDepth 100000 in
theorem rLengths_any (w : World) : Calls Tryd.prog 22 #[] w fun e w' => ∃ g, e = .returned (.slice (some ⟨g, 0, none⟩) 257 257) ∧ Blk w' g 3 lenCells ∧ w.heap.size ≤ g ∧ Below w.heap.size w w' := by
  go_enter Tryd.func22, Tryd.ntmps22
  go_wp2_with (first
    | (refine wpList_lens rfl _ rfl (by kernel_rfl) ?_))
  go_ret
  exact ⟨w.heap.size, rfl, Blk.new w 3 lenCells, Nat.le_refl _, (Below.refl _ _).alloc (Nat.le_refl _) _⟩

/-- how many symbols below s have a code of n bits -/
def cb (n : Nat) : Nat → Nat
  | 0 => 0
  | s + 1 => cb n s + (if (code s).2 = n then 1 else 0)
theorem cb_all : ∀ n, n < 31 → cb n 257 = cnt n := by decide +kernel
theorem cb_val : ∀ s, s < 257 → frst (code s).2 + cb (code s).2 s = (code s).1 := by decide +kernel
theorem cb_le (n : Nat) : ∀ s, cb n s ≤ s
  | 0 => by simp [cb]
  | s + 1 => by have := cb_le n s; rw [cb]; split <;> omega
theorem cb_yes {n s : Nat} (h : (code s).2 = n) : cb n (s + 1) = cb n s + 1 := by rw [cb, if_pos h]
theorem cb_no {n s : Nat} (h : ¬ (code s).2 = n) : cb n (s + 1) = cb n s := by rw [cb, if_neg h]; rfl

set_option maxRecDepth 100000 in
set_option maxHeartbeats 4000000 in
theorem rCode_yes (y : Nat) (hy : y < 257) (w : World) : Calls Tryd.prog 13 #[.int .i64 (y : Int)] w fun e w' => e = .returned (.string (bstr (cbits y))) ∧ Below w.heap.size w w' := by
  obtain ⟨m, hm⟩ : ∃ m, (code y).2 = m := ⟨_, rfl⟩
  have hcs := code_sym y hy
  have hv := cb_val y hy
  rw [hm] at hcs hv
  have m1 := hcs.2.2.2.1
  have m2 := hcs.2.2.2.2
  have Hm := Lib.hid hm
  have Hv := Lib.hid hv
  clear hcs hm hv
  go_enter Tryd.func13, Tryd.ntmps13
  go_wp2_with (first
    | (go_at_call 22; (with_reducible refine (rLengths_any _).mono ?_); rintro e w1 ⟨g, rfl, hB, hge, hb1⟩; have HB := Lib.hid hB; have Hb1 := Lib.hid hb1; have Hge := Lib.hid hge; clear hB hb1 hge))
  go_loopg [5, 4] 30 (fun gh i c w' => ∃ n : Nat, gh + n = 31 ∧ 1 ≤ n ∧ n ≤ m ∧ i = .int .i64 n ∧ c = .int .u32 (nx n : Nat) ∧ Below w.heap.size w w' ∧ Blk w' g 3 lenCells)
  case atStart => exact ⟨1, by omega, by omega, by omega, rfl, rfl, Hb1.out, HB.out⟩
  case round =>
    obtain ⟨n, hg, hn1, hnm, rfl, rfl, hb, hB⟩ := hrel
    have Hb := Lib.hid hb
    have HB2 := Lib.hid hB
    have hn30 : n ≤ 30 := by omega
    cases gk with
    | zero => omega
    | succ g1 =>
      have hnx := nx_le n (by omega)
      have hn2 := nx_two n
      have e2 : IntKind.u32.wrap ((nx n : Int) * 2) = (frst n : Nat) := by rw [← hn2]; rw [IntKind.wrap_u32]; omega
      clear hb hB
      go_wp2
      go_loopg [6, 4] 257 (fun gh i c w' => ∃ s : Nat, gh + s = 257 ∧ (n = m → s ≤ y) ∧ i = .int .i64 s ∧ c = .int .u32 ((frst n + cb n s : Nat) : Int) ∧ Below w.heap.size w w' ∧ Blk w' g 3 lenCells)
      case atStart => exact ⟨0, by omega, fun _ => by omega, rfl, by simp [cb], Hb.out, HB2.out⟩
      case round =>
        obtain ⟨s, hs, hsy, rfl, rfl, hb, hB⟩ := hrel
        clear hn2 e2 Hb HB2
        have Hb := Lib.hid hb
        have HB2 := Lib.hid hB
        have hcl := cb_le n s
        have Hsy := Lib.hid hsy
        clear hb hB hsy
        cases gk with
        | succ g2 =>
          have hs257 : s < 257 := by omega
          have hcell := (HB2.out.cell s).trans (lenCells_at s hs257)
          obtain ⟨ln, hln⟩ : ∃ ln, (code s).2 = ln := ⟨_, rfl⟩
          rw [hln] at hcell
          obtain ⟨cc, hcc⟩ : ∃ cc, cb n s = cc := ⟨_, rfl⟩
          rw [hcc] at hcl ⊢
          have Hcc := Lib.hid hcc
          have Hln := Lib.hid hln
          clear hcc hln
          by_cases hq : ln = n
          · subst hq
            by_cases hsq : s = y
            · subst hsq
              obtain rfl : ln = m := by rw [← Hln.out, Hm.out]
              have hcv : frst ln + cc = (code s).1 := by rw [← Hcc.out]; exact Hv.out
              have hvl := code_lt s hy
              obtain ⟨v, hvv⟩ : ∃ v, (code s).1 = v := ⟨_, rfl⟩
              rw [hvv, Hm.out] at hvl
              rw [hcv, hvv]
              have hp30 : (2 : Nat) ^ ln ≤ 2 ^ 30 := Nat.pow_le_pow_right (by omega) m2
              have hvb : v < 4294967296 := by omega
              have Hvv := Lib.hid hvv
              clear hcv hvv hvl hp30
              go_wp2_with (first
                | (go_at_call 14; (with_reducible refine (rBits_any v ln _ hvb (by omega)).mono ?_); rintro e w4 ⟨rfl, hb4⟩; have H4 := Lib.hid (Hb.out.trans (hb4.mono Hb.out.size)); clear hb4))
              go_ret
              exact ⟨by rw [cbits, Hvv.out, Hm.out]; rfl, H4.out⟩
            · go_wp2
              go_roundg g2
              case measure => omega
              case rel =>
                refine ⟨s + 1, by omega, fun h => ?_, by go_num, by rw [cb_yes Hln.out, Hcc.out]; go_num, Hb.out, HB2.out⟩
                have := Hsy.out h
                omega
          · go_wp2
            go_roundg g2
            case measure => omega
            case rel =>
              refine ⟨s + 1, by omega, fun h => ?_, by go_num, by rw [cb_no (by rw [Hln.out]; exact hq), Hcc.out], Hb.out, HB2.out⟩
              have := Hsy.out h
              have : s ≠ y := by rintro rfl; exact hq (by rw [← Hln.out, Hm.out, h])
              omega
        | zero =>
          obtain rfl : s = 257 := by omega
          have hne : n ≠ m := fun h => by have := Hsy.out h; omega
          have hca := cb_all n (by omega)
          rw [hca]
          go_wp2
          go_roundg g1
          case measure => omega
          case rel => exact ⟨n + 1, by omega, by omega, by omega, by go_num, rfl, Hb.out, HB2.out⟩
set_option maxRecDepth 100000 in
set_option maxHeartbeats 4000000 in
theorem rCode_no (y : Int) (hy : y < 0 ∨ 257 ≤ y) (w : World) : Calls Tryd.prog 13 #[.int .i64 y] w fun e w' => e = .returned (.string ⟨#[]⟩) ∧ Below w.heap.size w w' := by
  rcases hy with hy | hy
  all_goals
    go_enter Tryd.func13, Tryd.ntmps13
    go_wp2_with (first
      | (go_at_call 22; (with_reducible refine (rLengths_any _).mono ?_); rintro e w1 ⟨g, rfl, hB, hge, hb1⟩; have Hb1 := Lib.hid hb1; clear hB hb1 hge))
    go_ret
    exact ⟨rfl, Hb1.out⟩
end Go.Proofs.YtmonjligceepmaaDoor
