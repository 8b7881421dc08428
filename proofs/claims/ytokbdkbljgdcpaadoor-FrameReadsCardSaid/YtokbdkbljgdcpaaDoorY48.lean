/- Several texts in one: LwM. -/
import Derived.Test.YtokbdkbljgdcpaaDoorY46
import Derived.Deep.MidRow
import Derived.Laws.IdiomStrings
/- []byte of a string, and append onto it. -/
namespace Go.Proofs.YtokbdkbljgdcpaaDoor
open Go.RowKit Go.Own Go.Frm
set_option linter.unusedVariables false
set_option maxRecDepth 100000
/-- a row that []byte of a string has made -/
def Mk (w : World) (g C : Nat) (xs : List UInt8) : Prop := ∃ cur : List Value, w.heap[g]? = some (.cells cur.toArray 5 (cur.length, cur.length + 1)) ∧ cur.length = C ∧ cur.take xs.length = xs.map BV
theorem Mk.cell {w : World} {g C : Nat} {xs : List UInt8} (h : Mk w g C xs) : w.rangeAt g 0 (xs.map BV) := by
  obtain ⟨cur, h1, h2, h3⟩ := h
  intro j v hv
  rw [Nat.zero_add, cell_of_row _ g j _ 5 _ h1, List.getElem?_toArray]
  rw [← h3, List.getElem?_take] at hv
  split at hv
  · exact hv
  · cases hv
theorem Mk.rd {w : World} {g C : Nat} {xs : List UInt8} (h : Mk w g C xs) : Rd w 1 (some ⟨g, 0, none⟩) xs.length (xs.map BV) := ⟨by simp, fun _ => ⟨g, 0, rfl, fun j v hv => h.cell j v hv⟩⟩
theorem Mk.below {w w' : World} {g C : Nat} {xs : List UInt8} (h : Mk w g C xs) (hb : Below w.heap.size w w') : Mk w' g C xs := by
  obtain ⟨cur, h1, h2⟩ := h
  exact ⟨cur, (hb.block g (Array.getElem?_eq_some_iff.1 h1).1).trans h1, h2⟩
theorem run_conv_str (xs : List UInt8) (w : World) (hl : xs.length ≤ maxLen) : ∃ C W1, (convert 9 22 (.string ⟨xs.toArray⟩)).run Tryd.prog w = .ok (.slice (some ⟨w.heap.size, 0, none⟩) xs.length C) W1 ∧ xs.length ≤ C ∧ C ≤ maxLen ∧ Mk W1 w.heap.size C xs ∧ Below w.heap.size w W1 ∧ W1.heap.size = w.heap.size + 1 := by
  have h := run_bytes_of_string w 9 22 5 ⟨xs.toArray⟩ Tryd.underlying9 Tryd.underlying22 Tryd.underlying5
  have hs : (⟨xs.toArray⟩ : ByteArray).size = xs.length := rfl
  rw [hs] at h
  have hg := grownCap_ge w xs.length 0 5
  refine ⟨_, _, h, hg, grownCap_le_maxLen w xs.length 0 5 hl, ⟨xs.map BV ++ List.replicate (grownCap w xs.length 0 5 - xs.length) (Value.int .u8 0), ?_, by simp; omega, by rw [List.take_append_of_le_length (by simp), List.take_of_length_le (by simp)]⟩, (below_drewN (Below.refl _ _) 1).alloc (Nat.le_refl _) _, by simp⟩
  have e : bytesRow ⟨xs.toArray⟩ (grownCap w xs.length 0 5) = (xs.map BV ++ List.replicate (grownCap w xs.length 0 5 - xs.length) (Value.int .u8 0)).toArray := by
    apply Array.ext'
    simp [bytesRow, hs, BV]
  rw [e]
  have h2 := heap_alloc_new w.drew (.cells (xs.map BV ++ List.replicate (grownCap w xs.length 0 5 - xs.length) (Value.int .u8 0)).toArray 5 ((xs.map BV ++ List.replicate (grownCap w xs.length 0 5 - xs.length) (Value.int .u8 0)).length, (xs.map BV ++ List.replicate (grownCap w xs.length 0 5 - xs.length) (Value.int .u8 0)).length + 1))
  exact h2
theorem run_append_mark {w : World} {ty : TypeId} {g C m d : Nat} {B : Option Addr} {xs ys : List UInt8} (h : Mk w g C xs) (hC : xs.length ≤ C) (hC2 : C ≤ maxLen) (hr : Rd w 1 B m (ys.map BV)) (hb : xs.length + m ≤ 140737488355328) (hx : xs.length ≤ 1000) :
    ∃ A' c' w', (Builtin.append_ #[22, 22] ty #[.slice (some ⟨g, 0, none⟩) xs.length C, .slice B m d]).run Tryd.prog w = .ok (.slice A' (xs.length + m) c') w' ∧ Rd w' 1 A' (xs.length + m) ((xs ++ ys).map BV) ∧ Fr (· = g) w w' ∧ xs.length + m ≤ c' ∧ c' ≤ maxLen := by
  obtain ⟨ht, ⟨i, hi, hz, hsize, hby⟩, hzs, hsz⟩ := EB
  have hs : Src Tryd.prog i.size 22 (.slice B m d) m (ys.map BV) w := by rw [hsize]; exact src_rd hr
  have hym : (ys.map BV).length = m := by have := hr.1; omega
  have hyl : ys.length = m := by simpa using hym
  obtain ⟨cur, h1, h2, h3⟩ := id h
  have hcell := h.cell
  by_cases hroom : xs.length + m ≤ C
  · have hthere : w.there g (0 + xs.length * i.size) (ys.map BV).length := fun j hj => by
      rw [hsize]
      refine ⟨?_, ?_⟩
      · rw [cell_of_row _ g _ _ 5 _ h1, List.getElem?_toArray, List.getElem?_eq_getElem (by omega)]; rfl
      · simp [World.frozen?, h1]; omega
    have hrun := run_append_room_src (P := Tryd.prog) w 22 22 ty 5 i ht hi g 0 xs.length C (.slice B m d) m (ys.map BV) hs hroom (fun j hj => (hthere j hj).1) (fun j hj => (hthere j hj).2)
    refine ⟨_, _, _, hrun, ⟨by simp; omega, fun _ => ⟨g, 0, rfl, ?_⟩⟩, fr_setCells _ _ _, hroom, hC2⟩
    have hA := World.rangeAt_setCells_apart hcell g (0 + xs.length * i.size) (ys.map BV) (.inr (.inl (by rw [hsize]; simp)))
    have hB := World.rangeAt_setCells_same w g (0 + xs.length * i.size) (ys.map BV) hthere
    intro j v hv
    rw [List.map_append] at hv
    by_cases hj : j < xs.length
    · rw [List.getElem?_append_left (by simpa using hj)] at hv
      exact hA j v hv
    · rw [List.getElem?_append_right (by simp; omega)] at hv
      have := hB _ v hv
      rw [hsize] at this
      have e : 0 + xs.length * 1 + (j - (List.map BV xs).length) = 0 + j := by simp; omega
      rw [e] at this
      rw [hsize]
      exact this
  · have hold : (Builtin.firstCells i.size xs.length (.slice (some ⟨g, 0, none⟩) xs.length C)).run Tryd.prog w.drew = .ok (xs.map BV).toArray w.drew := run_firstCells_some w.drew i.size xs.length ⟨g, 0, none⟩ xs.length C (xs.map BV) (by rw [hsize]; simp) (fun j u hu => by
      have := hcell j u hu
      rw [add_plain]
      exact this)
    have hrun := run_append_grow_src (P := Tryd.prog) w 22 22 ty 5 i zeroB ht hi hz (some ⟨g, 0, none⟩) xs.length C (xs.map BV) hold (.slice B m d) m (ys.map BV) hs (by omega) (by omega) (growslice_fits (by omega) (by rw [hby]; omega))
    refine ⟨_, _, _, hrun, ?_, ((Fr.refl (fun i => i = g) w).drew).alloc _, grownCap_ge .., grownCap_le_maxLen w _ C 5 (by unfold maxLen; omega)⟩
    refine ⟨by simp; omega, fun _ => ⟨w.heap.size, 0, rfl, fun j v hv => ?_⟩⟩
    have hn := heap_alloc_new w.drew (.cells ((xs.map BV ++ ys.map BV).toArray ++ Builtin.zeroCells zeroB.cells (grownCap w (xs.length + m) C 5 - (xs.length + m))) 5)
    have hn' : (w.drew.alloc (.cells ((xs.map BV ++ ys.map BV).toArray ++ Builtin.zeroCells zeroB.cells (grownCap w (xs.length + m) C 5 - (xs.length + m))) 5)).heap[w.heap.size]? = some (.cells ((xs.map BV ++ ys.map BV).toArray ++ Builtin.zeroCells zeroB.cells (grownCap w (xs.length + m) C 5 - (xs.length + m))) 5) := hn
    rw [Nat.zero_add, cell_of_row _ w.heap.size j _ 5 (0, 0) hn', Array.getElem?_append_left (by
      have := (List.getElem?_eq_some_iff.1 hv).1
      simpa using this), List.getElem?_toArray]
    rw [List.map_append] at hv
    exact hv
theorem wpList_conv_str {w : World} {ops : Array Oper} {rest : List Oper} {o : Oper} {a : Act} {Q : Exit → Act → World → Prop} (hgd : o.guard = none) (s : Operand) (ho : o.op = .convert 9 22 s) (xs : List UInt8) (hs : a.eval s = .string ⟨xs.toArray⟩) (hl : xs.length ≤ 1000)
    (h : ∀ C W1, xs.length ≤ C → C ≤ maxLen → Mk W1 w.heap.size C xs → Below w.heap.size w W1 → W1.heap.size = w.heap.size + 1 → wpList Tryd.prog ops Q rest (a.put o.dst (.slice (some ⟨w.heap.size, 0, none⟩) xs.length C)) W1) : wpList Tryd.prog ops Q (o :: rest) a w :=
  wpList_plain hgd fun _ hK => by
    obtain ⟨C, W1, hrun, h1, h2, h3, h4, h5⟩ := run_conv_str xs w (by unfold maxLen; omega)
    unfold Oper.wp execOp
    simp only [ho, hs, Sem.run_bind, Sem.run_pure, Result.andThen_ok, hrun]
    exact hK _ _ (h C W1 h1 h2 h3 h4 h5)
theorem wp_conv_str {w : World} {o : Oper} {a : Act} {K : Act → World → Prop} {Q : Exit → Act → World → Prop} (s : Operand) (ho : o.op = .convert 9 22 s) (xs : List UInt8) (hs : a.eval s = .string ⟨xs.toArray⟩) (hl : xs.length ≤ 1000)
    (h : ∀ C W1, xs.length ≤ C → C ≤ maxLen → Mk W1 w.heap.size C xs → Below w.heap.size w W1 → W1.heap.size = w.heap.size + 1 → K (a.put o.dst (.slice (some ⟨w.heap.size, 0, none⟩) xs.length C)) W1) : o.wp Tryd.prog a w K Q := by
  obtain ⟨C, W1, hrun, h1, h2, h3, h4, h5⟩ := run_conv_str xs w (by unfold maxLen; omega)
  unfold Oper.wp execOp
  simp only [ho, hs, Sem.run_bind, Sem.run_pure, Result.andThen_ok, hrun]
  exact h C W1 h1 h2 h3 h4 h5
theorem wpList_append_mark {w : World} {ops : Array Oper} {rest : List Oper} {o : Oper} {a : Act} {Q : Exit → Act → World → Prop} (hgd : o.guard = none) (s x : Operand) (ho : o.op = .call { callee := .builtin .append, args := #[s, x], argTypes := #[22, 22] })
    (g C m d : Nat) (B : Option Addr) (xs ys : List UInt8) (hs : a.eval s = .slice (some ⟨g, 0, none⟩) xs.length C) (h : Mk w g C xs) (hC : xs.length ≤ C) (hC2 : C ≤ maxLen) (hx : a.eval x = .slice B m d) (hr : Rd w 1 B m (ys.map BV)) (hb : xs.length + m ≤ 140737488355328) (hx1 : xs.length ≤ 1000)
    (hk : ∀ A' c' w', Rd w' 1 A' (xs.length + m) ((xs ++ ys).map BV) → Fr (· = g) w w' → xs.length + m ≤ c' → c' ≤ maxLen → wpList Tryd.prog ops Q rest (a.put o.dst (.slice A' (xs.length + m) c')) w') : wpList Tryd.prog ops Q (o :: rest) a w :=
  wpList_plain hgd fun _ hK => by
    obtain ⟨A', c', w', hrun, h1, h2, h3, h4⟩ := run_append_mark (ty := o.type) (d := d) h hC hC2 hr hb hx1
    unfold Oper.wp execOp
    simp only [ho, resolve, invoke, builtin, Sem.run_bind, Sem.run_pure, Result.andThen_ok, List.map_toArray, List.map_cons, List.map_nil, hs, hx, hrun]
    exact hK _ _ (hk A' c' w' h1 h2 h3 h4)
end Go.Proofs.YtokbdkbljgdcpaaDoor
