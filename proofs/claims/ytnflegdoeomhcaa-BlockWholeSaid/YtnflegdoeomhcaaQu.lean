/- Queues in memory: a slice of the call's own that begins anywhere in its block; append behind it. Nothing of the program. -/
import Derived.Test.YtnflegdoeomhcaaSt
import Derived.Deep.AppendSrc
namespace Go.Own
open Go.RowKit
set_option linter.unusedVariables false
set_option linter.unusedSimpArgs false
set_option maxRecDepth 100000
theorem splice_set' (cur : List Value) (o : Nat) (v : Value) (vs : List Value) (h : o < cur.length) : splice (cur.set o v) (o + 1) vs = splice cur o (v :: vs) := by
  unfold splice
  have e1 : (cur.set o v).take (o + 1) = cur.take o ++ [v] := by
    rw [List.take_add_one, List.getElem?_set_self (by omega), List.take_set_of_le (Nat.le_refl _)]
    rfl
  rw [e1, List.drop_set_of_lt (by omega), List.length_cons, List.append_assoc, List.cons_append, List.nil_append, show o + 1 + vs.length = o + (vs.length + 1) by omega]
  rfl
theorem blk_setCells' {g : Nat} {t : TypeId} : ∀ (vs : List Value) (o : Nat) (w : World) (cur : List Value), Blk w g t cur → o + vs.length ≤ cur.length → Blk (w.setCells g o vs) g t (splice cur o vs)
  | [], o, w, cur, h, hl => by simpa [World.setCells, splice] using h
  | v :: r, o, w, cur, h, hl => by
    simp only [List.length_cons] at hl
    have h1 := blk_setCells' r (o + 1) (w.setCell ⟨g, o, none⟩ v) (cur.set o v) (h.set_ o v) (by rw [List.length_set]; omega)
    rw [splice_set' _ _ _ _ (by omega)] at h1
    exact h1
theorem fr_setCells' {g : Nat} : ∀ (vs : List Value) (o : Nat) (w : World), Fr (· = g) w (w.setCells g o vs)
  | [], o, w => Fr.refl _ _
  | v :: r, o, w => (Fr.setCell (S := (· = g)) (Fr.refl _ _) (p := ⟨g, o, none⟩) (.inl rfl) v).trans (fr_setCells' r (o + 1) _) (fun _ _ h => h)
theorem splice_tail' (cur : List Value) (o : Nat) (xs ys : List Value) (h : (cur.drop o).take xs.length = xs) (hl : o + xs.length + ys.length ≤ cur.length) : ((splice cur (o + xs.length) ys).drop o).take (xs.length + ys.length) = xs ++ ys := by
  have e : cur.take (o + xs.length) = cur.take o ++ xs := by rw [List.take_add, h]
  have ho : (cur.take o).length = o := by rw [List.length_take]; omega
  unfold splice
  rw [e, List.append_assoc, List.drop_append_of_le_length (by omega), List.drop_of_length_le (by omega), List.nil_append, ← List.append_assoc, List.take_append_of_le_length (by simp), List.take_of_length_le (by simp)]
/-- v is a queue of n elements, k cells each, whose cells are xs -/
def Qu (e : TypeId) (k : Nat) (w : World) (v : Value) (F : Nat → Prop) (n : Nat) (xs : List Value) : Prop :=
  (v = .slice none 0 0 ∧ n = 0 ∧ xs = [] ∧ F = fun _ => False) ∨
  ∃ g o c cur, v = .slice (some ⟨g, o, none⟩) n c ∧ Blk w g e cur ∧ n ≤ c ∧ o + c * k ≤ cur.length ∧ c ≤ maxLen ∧ (cur.drop o).take xs.length = xs ∧ xs.length = n * k ∧ (∀ u ∈ cur, u.oneCell' = true) ∧ F = fun i => i = g
def QO (e : TypeId) (k : Nat) (v : Value) (n : Nat) (xs : List Value) : Ob := fun w F => Qu e k w v F n xs
theorem framed_QO (e : TypeId) (k : Nat) (v : Value) (n : Nat) (xs : List Value) : Framed (QO e k v n xs) := by
  refine ⟨fun w F h i hi => ?_, fun w w' F S h hf hs => ?_⟩
  · rcases h with ⟨_, _, _, rfl⟩ | ⟨g, o, c, cur, h1, h2, h3, h4, h5, h6, h7, h8, rfl⟩
    · exact hi.elim
    · obtain rfl : i = g := hi
      exact h2.lt
  · rcases h with h | ⟨g, o, c, cur, h1, h2, h3, h4, h5, h6, h7, h8, rfl⟩
    · exact .inl h
    · exact .inr ⟨g, o, c, cur, h1, h2.fr hf (hs g rfl), h3, h4, h5, h6, h7, h8, rfl⟩
section
variable {e : TypeId} {k n : Nat} {w : World} {v : Value} {F : Nat → Prop} {xs : List Value}
theorem Qu.rd (h : Qu e k w v F n xs) : ∃ A c, v = .slice A n c ∧ Rd w k A n xs ∧ n ≤ c ∧ c ≤ maxLen := by
  rcases h with ⟨rfl, rfl, rfl, rfl⟩ | ⟨g, o, c, cur, rfl, h2, h3, h4, h5, h6, h7, h8, rfl⟩
  · exact ⟨none, 0, rfl, Rd.nil _ _ _, Nat.le_refl _, by unfold maxLen; omega⟩
  · refine ⟨some ⟨g, o, none⟩, c, rfl, ⟨h7, fun hn => ⟨g, o, rfl, fun j u hu => ?_⟩⟩, h3, h5⟩
    rw [h2.cell, ← hu]
    have hj : j < xs.length := (List.getElem?_eq_some_iff.1 hu).1
    conv => rhs; rw [← h6]
    rw [List.getElem?_take, List.getElem?_drop, if_pos hj]
theorem Qu.one (h : Qu e k w v F n xs) : ∀ u ∈ xs, u.oneCell' = true := by
  rcases h with ⟨rfl, rfl, rfl, rfl⟩ | ⟨g, o, c, cur, rfl, h2, h3, h4, h5, h6, h7, h8, rfl⟩
  · intro u hu; cases hu
  · intro u hu
    rw [← h6] at hu
    exact h8 u (List.mem_of_mem_drop (List.mem_of_mem_take hu))
theorem Qu.nonempty (h : Qu e k w v F (n + 1) xs) : ∃ g o c, v = .slice (some ⟨g, o, none⟩) (n + 1) c ∧ n + 1 ≤ c ∧ c ≤ maxLen ∧ Rd w k (some ⟨g, o, none⟩) (n + 1) xs := by
  obtain ⟨A, c, rfl, hr, h3, h5⟩ := h.rd
  obtain ⟨b, o, hA, _⟩ := hr.2 (by omega)
  subst hA
  exact ⟨b, o, c, rfl, h3, h5, hr⟩
/-- the first element goes -/
theorem Qu.tail {g o c : Nat} (h : Qu e k w (.slice (some ⟨g, o, none⟩) (n + 1) c) F (n + 1) xs) : Qu e k w (.slice (some ⟨g, if c = 1 then o else o + k, none⟩) n (c - 1)) F n (xs.drop k) := by
  rcases h with ⟨h, _⟩ | ⟨g', o', c', cur, h1, h2, h3, h4, h5, h6, h7, h8, rfl⟩
  · cases h
  · injection h1 with h1 _ hc
    injection h1 with h1
    injection h1 with hg ho _
    subst hg ho hc
    have hm : (n + 1) * k = n * k + k := by rw [Nat.add_mul, Nat.one_mul]
    refine .inr ⟨g, _, c - 1, cur, rfl, h2, by omega, ?_, by unfold maxLen at *; omega, ?_, by rw [List.length_drop, h7, hm]; omega, h8, rfl⟩
    · have hc : c * k = (c - 1) * k + k := by
        conv => lhs; rw [show c = c - 1 + 1 by omega]
        rw [Nat.add_mul, Nat.one_mul]
      split <;> omega
    · by_cases hc : c = 1
      · have hn : n = 0 := by omega
        subst hn
        have : xs.drop k = [] := by rw [List.drop_eq_nil_iff]; omega
        rw [this]
        simp
      · rw [if_neg hc, List.length_drop]
        conv => rhs; rw [← h6]
        rw [List.drop_take, List.drop_drop]
end
theorem src_of {P : Program} {w : World} {t e : TypeId} {k : Nat} (hk : P.underlying t = some (.slice e)) {A : Option Addr} {m c : Nat} {ys : List Value} (hr : Rd w k A m ys) (h1 : ∀ u ∈ ys, u.oneCell' = true) (hk0 : 0 < k) : Src P k t (.slice A m c) m ys w := by
  rcases A with _ | a
  · have hm : m = 0 := by
      rcases Nat.eq_zero_or_pos m with h0 | h0
      · exact h0
      · obtain ⟨b, o, h, _⟩ := hr.2 h0; cases h
    subst hm
    have hn : ys = [] := List.eq_nil_of_length_eq_zero (by simpa using hr.1)
    subst hn
    exact Src.ofNil w hk c
  · refine Src.ofSlice w hk a m c _ hr.1 (fun j u hu => ?_) h1
    have hj : j < m * k := by have := (List.getElem?_eq_some_iff.1 hu).1; have := hr.1; omega
    have hm : 0 < m := by
      rcases Nat.eq_zero_or_pos m with h0 | h0
      · subst h0; simp at hj
      · exact h0
    obtain ⟨b, o, h, hc⟩ := hr.2 hm
    cases h
    rw [add_plain]
    exact hc j u hu
/-- append behind a queue -/
theorem run_append_qu {P : Program} {w : World} {t e : TypeId} {z : Value} {k bytes : Nat} (ht : P.underlying t = some (.slice e)) (hinfo : (P.info? e).map (fun i => (i.zero, i.size, i.bytes)) = some (some z, k, bytes)) (hzk : z.cells.size = k) (hk0 : 0 < k) (hz1 : ∀ u ∈ z.cells.toList, u.oneCell' = true)
    {v : Value} {F : Nat → Prop} {n : Nat} {xs : List Value} (h : Qu e k w v F n xs) {A : Option Addr} {m c : Nat} {ys : List Value} (hr : Rd w k A m ys) (h1 : ∀ u ∈ ys, u.oneCell' = true) (hb : n + m ≤ 1073741824) (hby : bytes ≤ 1024) {ty : TypeId} :
    ∃ A' c' w' F', (Builtin.append_ #[t, t] ty #[v, .slice A m c]).run P w = .ok (.slice A' (n + m) c') w' ∧ Qu e k w' (.slice A' (n + m) c') F' (n + m) (xs ++ ys) ∧ Fr F w w' ∧ (∀ i, F' i → F i ∨ w.heap.size ≤ i) := by
  have hys := hr.1
  obtain ⟨i0, hi, hx⟩ := Option.map_eq_some_iff.1 hinfo
  simp only [Prod.mk.injEq] at hx
  obtain ⟨hz0, hsz, hbt⟩ := hx
  have hs := src_of (c := c) ht hr h1 hk0
  rw [← hsz] at hs
  obtain ⟨A0, c0, rfl, hrd, hle, hcm⟩ := h.rd
  have hone := h.one
  by_cases hroom : n + m ≤ c0
  · rcases h with ⟨hv, rfl, rfl, rfl⟩ | ⟨g, o, c1, cur, hv, h2, h3, h4, h5, h6, h7, h8, rfl⟩
    · simp only [Value.slice.injEq] at hv
      obtain ⟨rfl, _, rfl⟩ := hv
      obtain rfl : m = 0 := by omega
      obtain rfl : ys = [] := List.eq_nil_of_length_eq_zero (by simpa using hys)
      refine ⟨none, 0, w, fun _ => False, ?_, .inl ⟨by simp, by simp, by simp, rfl⟩, Fr.refl _ _, fun _ h => h.elim⟩
      rcases A with _ | a
      · simp [Builtin.append_, run_underlying ht, sizeOf, typeInfo, hi, Builtin.lenOf, Builtin.firstCells]
      · simp [Builtin.append_, run_underlying ht, sizeOf, typeInfo, hi, Builtin.lenOf, Builtin.firstCells, loadCells, loadCellsFrom]
    · simp only [Value.slice.injEq] at hv
      obtain ⟨rfl, _, rfl⟩ := hv
      have hck : (n + m) * k ≤ c0 * k := Nat.mul_le_mul_right _ hroom
      rw [Nat.add_mul] at hck
      have hfit : o + xs.length + ys.length ≤ cur.length := by omega
      have hrun := run_append_room_src (P := P) w t t ty e i0 ht hi g o n c0 (.slice A m c) m ys hs hroom
        (fun j hj => by rw [h2.cell, List.getElem?_eq_getElem (by rw [hsz]; omega)]; rfl) (fun j hj => h2.frozen _)
      rw [hsz, ← h7] at hrun
      refine ⟨some ⟨g, o, none⟩, c0, _, fun i => i = g, hrun, .inr ⟨g, o, c0, splice cur (o + xs.length) ys, rfl, blk_setCells' _ _ _ _ h2 hfit, hroom, ?_, h5, ?_, ?_, ?_, rfl⟩, fr_setCells' _ _ _, fun i hi => .inl hi⟩
      · rw [length_splice _ _ _ hfit]; exact h4
      · rw [List.length_append]
        exact splice_tail' cur o xs ys h6 hfit
      · rw [List.length_append, h7, hys, Nat.add_mul]
      · intro u hu
        unfold splice at hu
        rcases List.mem_append.1 hu with hu | hu
        · exact h8 u (List.mem_of_mem_take hu)
        · rcases List.mem_append.1 hu with hu | hu
          · exact h1 u hu
          · exact h8 u (List.mem_of_mem_drop hu)
  · have hs0 := src_of (c := c0) ht hrd hone hk0
    have hgc := grownCap_ge w (n + m) c0 e
    have hgm := grownCap_le_maxLen w (n + m) c0 e (by unfold maxLen; omega)
    have hnx := nextslicecap_le (need := n + m) (old := c0) (by omega)
    have hbound : Builtin.nextslicecap (n + m) c0 * i0.bytes ≤ 281474976710656 := by
      rw [hbt]
      have h2 : Builtin.nextslicecap (n + m) c0 * bytes ≤ Builtin.nextslicecap (n + m) c0 * 1024 := Nat.mul_le_mul_left _ hby
      omega
    have hrun := run_append_grow_src (P := P) w t t ty e i0 z ht hi hz0 A0 n c0 xs (by rw [hsz]; exact hs0.cellsD) (.slice A m c) m ys hs (by omega) (by omega) hbound
    have hone2 : ∀ j, ∀ u ∈ (Builtin.zeroCells z.cells j).toList, u.oneCell' = true := by
      intro j u hu
      simp only [Builtin.zeroCells, Array.toList_map, List.mem_map] at hu
      obtain ⟨i, _, rfl⟩ := hu
      have hi2 : i % z.cells.size < z.cells.size := Nat.mod_lt _ (by omega)
      have : z.cells[i % z.cells.size]! = z.cells[i % z.cells.size] := by simp [getElem!_pos, hi2]
      first
      | (rw [this]; exact hz1 _ (by simp))
      | (simp only [Array.getD_eq_getD_getElem?, Array.getElem?_eq_getElem hi2, Option.getD_some]; exact hz1 _ (by simp))
    have hzl : ∀ j, (Builtin.zeroCells z.cells j).toList.length = j * k := by
      intro j
      rw [Array.length_toList, size_zeroCells, hzk]
    refine ⟨some ⟨w.heap.size, 0, none⟩, _, _, fun i => i = w.heap.size, hrun, .inr ⟨w.heap.size, 0, _, xs ++ ys ++ (Builtin.zeroCells z.cells (grownCap w (n + m) c0 e - (n + m))).toList, rfl, ?_, hgc, ?_, hgm, ?_, ?_, ?_, rfl⟩, ?_, fun i hi => .inr (by rw [hi]; exact Nat.le_refl _)⟩
    · have hn := Blk.new w.drew e (xs ++ ys ++ (Builtin.zeroCells z.cells (grownCap w (n + m) c0 e - (n + m))).toList)
      have e1 : (xs ++ ys ++ (Builtin.zeroCells z.cells (grownCap w (n + m) c0 e - (n + m))).toList).toArray = (xs ++ ys).toArray ++ Builtin.zeroCells z.cells (grownCap w (n + m) c0 e - (n + m)) := by
        apply Array.ext'
        simp
      rw [e1] at hn
      exact hn
    · rw [List.length_append, List.length_append, hzl, hrd.1, hys, ← Nat.add_mul, ← Nat.add_mul]
      have : n + m + (grownCap w (n + m) c0 e - (n + m)) = grownCap w (n + m) c0 e := by omega
      rw [this]
      omega
    · rw [List.drop_zero, List.take_append_of_le_length (by simp), List.take_of_length_le (by simp)]
    · rw [List.length_append, hrd.1, hys, Nat.add_mul]
    · intro u hu
      rcases List.mem_append.1 hu with hu | hu
      · rcases List.mem_append.1 hu with hu | hu
        · exact hone u hu
        · exact h1 u hu
      · exact hone2 _ u hu
    · exact ((Fr.refl _ w).drew).alloc _
end Go.Own
