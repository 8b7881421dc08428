/- Queues in memory: an element is taken out of a queue (copy within a block, clear): nothing of the program. -/
import Derived.Test.YtnflegdoeomhcaaQu
import Derived.Laws.CopyRow
namespace Go.Own
open Go.RowKit
set_option linter.unusedVariables false
set_option linter.unusedSimpArgs false
set_option maxRecDepth 100000
theorem run_copyK {P : Program} {w : World} {dT sT ty elem : TypeId} {k g o dLen dCap : Nat} {s0 b sLen sCap : Nat} {cur : List Value} {t : TypeId} {cs : List Value}
    (hu : P.underlying dT = some (.slice elem)) (hs : (P.info? elem).map (·.size) = some k) (hg : Blk w g t cur) (m : Nat) (hm : Nat.min sLen dLen = m) (hn : cs.length = m * k)
    (hsrc : ∀ j v, cs[j]? = some v → w.cell? ⟨b, s0 + j, none⟩ = some v) (hfit : o + cs.length ≤ cur.length) (h1 : ∀ v ∈ cs, v.oneCell' = true) :
    (Builtin.copy_ #[dT, sT] ty #[.slice (some ⟨g, o, none⟩) dLen dCap, .slice (some ⟨b, s0, none⟩) sLen sCap]).run P w =
      .ok (goInt (m : Nat)) (w.setRow g (splice cur o cs).toArray) := by
  have hl := run_loadCells_list (P := P) w ⟨b, s0, none⟩ cs (fun j v hj => by rw [add_plain]; exact hsrc j v hj)
  have hst := run_storeCells_at P g o t cs 0 cur.toArray w hg (by simpa using hfit) h1
  cases hq : P.info? elem with
  | none => simp [hq] at hs
  | some i =>
    have hi : i.size = k := by simpa [hq] using hs
    rw [hn] at hl
    simp only [Nat.add_zero] at hst
    have he : (splice cur o cs) = cur.take o ++ cs ++ cur.drop (o + cs.length) := by rw [splice, List.append_assoc]
    rw [he]
    have hm' : min sLen dLen = m := hm
    simp [Builtin.copy_, run_underlying hu, Builtin.lenOf, Builtin.firstCells, sizeOf, typeInfo, hq, hi, hm', hl, hst]
theorem run_clearK {P : Program} {w : World} {tT ty elem : TypeId} {g o c : Nat} {cur : List Value} {t : TypeId} {z : Value}
    (hu : P.underlying tT = some (.slice elem)) (hz : ∀ w, (zeroValue elem).run P w = .ok z w) (hg : Blk w g t cur) (hfit : o + z.cells.size ≤ cur.length) (h1 : ∀ v ∈ z.cells.toList, v.oneCell' = true) :
    (Builtin.clear_ #[tT] ty #[.slice (some ⟨g, o, none⟩) 1 c]).run P w = .ok (.tuple #[]) (w.setRow g (splice cur o z.cells.toList).toArray) := by
  have hzc : (Builtin.zeroCells z.cells 1).toList = z.cells.toList := by
    unfold Builtin.zeroCells
    apply List.ext_getElem
    · simp
    · intro i h1 h2
      have h3 : i < z.cells.size := by simpa using h2
      simp [Nat.mod_eq_of_lt h3, h3]
  have hst := run_storeCells_at P g o t z.cells.toList 0 cur.toArray w hg (by simpa using hfit) h1
  simp only [Nat.add_zero] at hst
  have he : (splice cur o z.cells.toList) = cur.take o ++ z.cells.toList ++ cur.drop (o + z.cells.toList.length) := by rw [splice, List.append_assoc]
  rw [he]
  simp [Builtin.clear_, run_underlying hu, hz, hzc, hst]
theorem blk_setRow {w : World} {g : Nat} {t : TypeId} {cur cs : List Value} (h : Blk w g t cur) : Blk (w.setRow g cs.toArray) g t cs := setRow_heap w g _ _ t _ h
theorem fr_setRow (w : World) (g : Nat) (cs : List Value) : Fr (· = g) w (w.setRow g cs.toArray) := ⟨rfl, rfl, rfl, by simp [World.setRow], fun k _ hk => setRow_other w g k _ hk⟩
theorem wp_copy_run {P : Program} {w : World} {o : Oper} {a : Act} {K : Act → World → Prop} {Q : Exit → Act → World → Prop} (d s : Operand) (t t' : TypeId)
    (ho : o.op = .call { callee := .builtin .copy, args := #[d, s], argTypes := #[t, t'] }) (v u : Value) (hd : a.eval d = v) (hs : a.eval s = u) {v' : Value} {w' : World}
    (hr : (Builtin.copy_ #[t, t'] o.type #[v, u]).run P w = .ok v' w') (h : K (a.put o.dst v') w') : o.wp P a w K Q := by
  unfold Oper.wp execOp
  simp only [ho, resolve, invoke, builtin, Sem.run_bind, Sem.run_pure, Result.andThen_ok, List.map_toArray, List.map_cons, List.map_nil, hd, hs, hr]
  exact h
theorem wpList_copy_run {P : Program} {w : World} {ops : Array Oper} {rest : List Oper} {o : Oper} {a : Act} {Q : Exit → Act → World → Prop} (hgd : o.guard = none) (d s : Operand) (t t' : TypeId)
    (ho : o.op = .call { callee := .builtin .copy, args := #[d, s], argTypes := #[t, t'] }) (v u : Value) (hd : a.eval d = v) (hs : a.eval s = u) {v' : Value} {w' : World}
    (hr : (Builtin.copy_ #[t, t'] o.type #[v, u]).run P w = .ok v' w') (h : wpList P ops Q rest (a.put o.dst v') w') : wpList P ops Q (o :: rest) a w :=
  wpList_plain hgd fun _ hK => wp_copy_run d s t t' ho v u hd hs hr (hK _ _ h)
theorem step_copy_run {P : Program} {ops : Array Oper} {o : Oper} {a : Act} {w : World} {K : Act → World → Prop} {Q : Exit → Act → World → Prop} {E : Prop} (hgd : o.guard = none) (d s : Operand) (t t' : TypeId)
    (ho : o.op = .call { callee := .builtin .copy, args := #[d, s], argTypes := #[t, t'] }) (v u : Value) (hd : a.eval d = v) (hs : a.eval s = u) {v' : Value} {w' : World}
    (hr : (Builtin.copy_ #[t, t'] o.type #[v, u]).run P w = .ok v' w') (h : K (a.put o.dst v') w') : if Region.wanted o (yielded ops a.tmps) = true then Oper.wp P o a w K Q else E := by
  have hw : Region.wanted o (yielded ops a.tmps) = true := by simp [Region.wanted, hgd]
  rw [if_pos hw]
  exact wp_copy_run d s t t' ho v u hd hs hr h
theorem wp_app_run {P : Program} {w : World} {o : Oper} {a : Act} {K : Act → World → Prop} {Q : Exit → Act → World → Prop} (d s : Operand) (t t' : TypeId)
    (ho : o.op = .call { callee := .builtin .append, args := #[d, s], argTypes := #[t, t'] }) (v u : Value) (hd : a.eval d = v) (hs : a.eval s = u) {v' : Value} {w' : World}
    (hr : (Builtin.append_ #[t, t'] o.type #[v, u]).run P w = .ok v' w') (h : K (a.put o.dst v') w') : o.wp P a w K Q := by
  unfold Oper.wp execOp
  simp only [ho, resolve, invoke, builtin, Sem.run_bind, Sem.run_pure, Result.andThen_ok, List.map_toArray, List.map_cons, List.map_nil, hd, hs, hr]
  exact h
/-- append, its run known by an equation -/
theorem wpList_app_run {P : Program} {w : World} {ops : Array Oper} {rest : List Oper} {o : Oper} {a : Act} {Q : Exit → Act → World → Prop} (hgd : o.guard = none) (d s : Operand) (t t' : TypeId)
    (ho : o.op = .call { callee := .builtin .append, args := #[d, s], argTypes := #[t, t'] }) (v u : Value) (hd : a.eval d = v) (hs : a.eval s = u) {v' : Value} {w' : World}
    (hr : (Builtin.append_ #[t, t'] o.type #[v, u]).run P w = .ok v' w') (h : wpList P ops Q rest (a.put o.dst v') w') : wpList P ops Q (o :: rest) a w :=
  wpList_plain hgd fun _ hK => wp_app_run d s t t' ho v u hd hs hr (hK _ _ h)
theorem step_app_run {P : Program} {ops : Array Oper} {o : Oper} {a : Act} {w : World} {K : Act → World → Prop} {Q : Exit → Act → World → Prop} {E : Prop} (hgd : o.guard = none) (d s : Operand) (t t' : TypeId)
    (ho : o.op = .call { callee := .builtin .append, args := #[d, s], argTypes := #[t, t'] }) (v u : Value) (hd : a.eval d = v) (hs : a.eval s = u) {v' : Value} {w' : World}
    (hr : (Builtin.append_ #[t, t'] o.type #[v, u]).run P w = .ok v' w') (h : K (a.put o.dst v') w') : if Region.wanted o (yielded ops a.tmps) = true then Oper.wp P o a w K Q else E := by
  have hw : Region.wanted o (yielded ops a.tmps) = true := by simp [Region.wanted, hgd]
  rw [if_pos hw]
  exact wp_app_run d s t t' ho v u hd hs hr h
theorem wpList_append_new {P : Program} {w : World} {ops : Array Oper} {rest : List Oper} {o : Oper} {a : Act} {Q : Exit → Act → World → Prop} (hgd : o.guard = none) (s x : Operand) (t : TypeId)
    (ho : o.op = .call { callee := .builtin .append, args := #[s, x], argTypes := #[t, t] }) {e : TypeId} {z : Value} {size bytes : Nat} (E : Elt P t e z size bytes) {base : Nat}
    (v : Value) (hs : a.eval s = v) (hown : w.ownsRow base e size v 0 []) (A : Option Addr) (m c : Nat) (news : List Value) (hx : a.eval x = .slice A m c)
    (hr : Rd w size A m news) (h1 : ∀ u ∈ news, u.oneCell' = true)
    (hb : m * bytes ≤ 140737488355328) (h63 : m ≤ maxLen) (hbase : base ≤ w.heap.size)
    (h : ∀ A' c' w', w'.ownsRow base e size (.slice A' m c') m news → Fr (fun i => some i = v.ownBlock) w w' → ((Value.slice A' m c').ownBlock = v.ownBlock ∨ (Value.slice A' m c').ownBlock = some w.heap.size) → wpList P ops Q rest (a.put o.dst (.slice A' m c')) w') : wpList P ops Q (o :: rest) a w :=
  wpList_append_rd hgd s x t ho E v 0 [] hs hown A m c news hx hr h1 (by rwa [Nat.zero_add]) (by rwa [Nat.zero_add]) hbase fun A' c' w' h2 h3 h4 => by
    rw [Nat.zero_add, List.nil_append] at *
    exact h A' c' w' h2 h3 h4
theorem own_up' {w : World} {b B : Nat} {e : TypeId} {size : Nat} {v : Value} {n : Nat} {xs : List Value} (h : w.ownsRow b e size v n xs) (hB : ∀ g, v.ownBlock = some g → B ≤ g) : w.ownsRow B e size v n xs := by
  refine ⟨h.1, ?_⟩
  rcases h.2 with hn | ⟨g, cap, cur, rfl, _, rest⟩
  · exact .inl hn
  · exact .inr ⟨g, cap, cur, rfl, hB g rfl, rest⟩
theorem wp_clear_run {P : Program} {w : World} {o : Oper} {a : Act} {K : Act → World → Prop} {Q : Exit → Act → World → Prop} (d : Operand) (t : TypeId)
    (ho : o.op = .call { callee := .builtin .clear, args := #[d], argTypes := #[t] }) (v : Value) (hd : a.eval d = v) {v' : Value} {w' : World}
    (hr : (Builtin.clear_ #[t] o.type #[v]).run P w = .ok v' w') (h : K (a.put o.dst v') w') : o.wp P a w K Q := by
  unfold Oper.wp execOp
  simp only [ho, resolve, invoke, builtin, Sem.run_bind, Sem.run_pure, Result.andThen_ok, List.map_toArray, List.map_cons, List.map_nil, hd, hr]
  exact h
theorem wpList_clear_run {P : Program} {w : World} {ops : Array Oper} {rest : List Oper} {o : Oper} {a : Act} {Q : Exit → Act → World → Prop} (hgd : o.guard = none) (d : Operand) (t : TypeId)
    (ho : o.op = .call { callee := .builtin .clear, args := #[d], argTypes := #[t] }) (v : Value) (hd : a.eval d = v) {v' : Value} {w' : World}
    (hr : (Builtin.clear_ #[t] o.type #[v]).run P w = .ok v' w') (h : wpList P ops Q rest (a.put o.dst v') w') : wpList P ops Q (o :: rest) a w :=
  wpList_plain hgd fun _ hK => wp_clear_run d t ho v hd hr (hK _ _ h)
/-- the pure part: what stands in the block behind the copy and the clear -/
theorem splice_mid (A X R ys : List Value) (h : X.length = ys.length) : splice (A ++ X ++ R) A.length ys = A ++ ys ++ R := by
  unfold splice
  rw [List.append_assoc, List.take_left, ← h, ← List.drop_drop, List.drop_left, List.drop_left, List.append_assoc]
theorem out_cells (B A e b R zs : List Value) (k : Nat) (he : e.length = k) (hz : zs.length = k) : splice (splice (B ++ (A ++ e ++ b) ++ R) (B.length + k) A) B.length zs = B ++ zs ++ (A ++ b ++ R) := by
  have h1 : (A ++ e).take k ++ (A ++ e).drop k = A ++ e := List.take_append_drop k _
  have hl1 : ((A ++ e).take k).length = k := by rw [List.length_take, List.length_append]; omega
  have hl2 : ((A ++ e).drop k).length = A.length := by rw [List.length_drop, List.length_append]; omega
  have e1 : B ++ (A ++ e ++ b) ++ R = (B ++ (A ++ e).take k) ++ (A ++ e).drop k ++ (b ++ R) := by
    conv => lhs; rw [← h1]
    simp only [List.append_assoc]
  have e2 : B.length + k = (B ++ (A ++ e).take k).length := by rw [List.length_append, hl1]
  rw [e1, e2, splice_mid _ _ _ _ hl2]
  have e3 : (B ++ (A ++ e).take k) ++ A ++ (b ++ R) = B ++ (A ++ e).take k ++ (A ++ b ++ R) := by simp only [List.append_assoc]
  rw [e3, splice_mid _ _ _ _ (by rw [hl1, hz])]
/-- what a queue is that begins in its block, written out -/
theorem Qu.blk {e : TypeId} {k n : Nat} {w : World} {F : Nat → Prop} {xs : List Value} {g o c : Nat} (h : Qu e k w (.slice (some ⟨g, o, none⟩) n c) F n xs) : ∃ cur, Blk w g e cur ∧ n ≤ c ∧ o + c * k ≤ cur.length ∧ c ≤ maxLen ∧ (cur.drop o).take xs.length = xs ∧ xs.length = n * k ∧ (∀ u ∈ cur, u.oneCell' = true) ∧ F = fun i => i = g := by
  rcases h with ⟨h, _⟩ | ⟨g', o', c', cur, h1, h2, h3, h4, h5, h6, h7, h8, rfl⟩
  · cases h
  · injection h1 with h1 _ hc
    injection h1 with h1
    injection h1 with hg ho _
    subst hg ho hc
    exact ⟨cur, h2, h3, h4, h5, h6, h7, h8, rfl⟩
/-- an element is taken out: the block behind, and the queue -/
theorem Qu.out {P : Program} {w : World} {sT e : TypeId} {k n g o c : Nat} {F : Nat → Prop} {xs : List Value} {z : Value} (h : Qu e k w (.slice (some ⟨g, o, none⟩) (n + 1) c) F (n + 1) xs)
    (hu : P.underlying sT = some (.slice e)) (hs : (P.info? e).map (·.size) = some k) (hz : ∀ w, (zeroValue e).run P w = .ok z w) (hzk : z.cells.size = k) (hz1 : ∀ v ∈ z.cells.toList, v.oneCell' = true) (i : Nat) (hi : i ≤ n) (W : World) (hW : ∀ cur, Blk w g e cur → Blk W g e cur) :
    ∃ W1 W2, (∀ ty dC sC, (Builtin.copy_ #[sT, sT] ty #[.slice (some ⟨g, if c = 1 then o else o + k, none⟩) i dC, .slice (some ⟨g, o, none⟩) i sC]).run P W = .ok (goInt (i : Nat)) W1) ∧
      (∀ ty cC, (Builtin.clear_ #[sT] ty #[.slice (some ⟨g, o, none⟩) 1 cC]).run P W1 = .ok (.tuple #[]) W2) ∧
      Fr (· = g) W W1 ∧ Fr (· = g) W1 W2 ∧ Qu e k W2 (.slice (some ⟨g, if c = 1 then o else o + k, none⟩) n (c - 1)) (fun i => i = g) n (xs.take (i * k) ++ xs.drop ((i + 1) * k)) ∧ W1.heap.size = W.heap.size ∧ W2.heap.size = W.heap.size := by
  obtain ⟨cur, h2, h3, h4, h5, h6, h7, h8, _⟩ := h.blk
  have h2' : Blk W g e cur := hW _ h2
  have hlen : o + (n + 1) * k ≤ cur.length := Nat.le_trans (Nat.add_le_add_left (Nat.mul_le_mul_right _ h3) _) h4
  have hik : i * k + k ≤ (n + 1) * k := by
    have := Nat.mul_le_mul_right k (Nat.add_le_add_right hi 1)
    rw [Nat.add_mul i, Nat.one_mul] at this
    exact this
  have hA : (xs.take (i * k)).length = i * k := by rw [List.length_take, h7]; omega
  have hcur : cur = cur.take o ++ xs ++ cur.drop (o + xs.length) := by
    conv => lhs; rw [← List.take_append_drop (o + xs.length) cur, List.take_add, h6]
  have hB : (cur.take o).length = o := by rw [List.length_take]; omega
  have hxs : xs = xs.take (i * k) ++ (xs.drop (i * k)).take k ++ xs.drop ((i + 1) * k) := by
    rw [Nat.add_mul, Nat.one_mul, ← List.drop_drop, List.append_assoc, List.take_append_drop, List.take_append_drop]
  have hE : ((xs.drop (i * k)).take k).length = k := by rw [List.length_take, List.length_drop, h7]; omega
  have hmem : ∀ u ∈ xs, u ∈ cur := fun u hu => by rw [hcur]; simp [hu]
  have h9 : c = 1 → i = 0 := fun h => by omega
  have hsrc : ∀ j v, (xs.take (i * k))[j]? = some v → W.cell? ⟨g, o + j, none⟩ = some v := by
    intro j v hj
    rw [h2'.cell]
    have hj2 : xs[j]? = some v := by rw [List.getElem?_take] at hj; split at hj; exact hj; cases hj
    have hjl : j < xs.length := (List.getElem?_eq_some_iff.1 hj2).1
    rw [← hj2]
    conv => rhs; rw [← h6]
    rw [List.getElem?_take, List.getElem?_drop, if_pos hjl]
  have hk0 : k ≤ c * k := Nat.le_mul_of_pos_left k (by omega)
  have hn1 : (n + 1) * k = n * k + k := by rw [Nat.add_mul, Nat.one_mul]
  by_cases hc : c = 1
  · have hn : n = 0 := by omega
    obtain rfl := h9 hc
    subst hn hc
    simp only [if_true, Nat.zero_mul, List.take_zero, List.nil_append, Nat.sub_self]
    have hr1 := fun (ty : TypeId) (dC sC : Nat) => run_copyK (P := P) (w := W) (dT := sT) (sT := sT) (ty := ty) (dCap := dC) (sCap := sC) (o := o) (s0 := o) (dLen := 0) (sLen := 0) (b := g) (cs := []) hu hs h2' 0 rfl (by simp) (fun j v hj => by simp at hj) (by simp; omega) (fun v hv => by cases hv)
    have e0 : splice cur o [] = cur := by unfold splice; simp
    rw [e0] at hr1
    have hb1 : Blk (W.setRow g cur.toArray) g e cur := blk_setRow h2'
    have hr2 := fun (ty : TypeId) (cC : Nat) => run_clearK (P := P) (ty := ty) (tT := sT) (c := cC) (o := o) hu hz hb1 (by rw [hzk]; omega) hz1
    have hb2 : Blk ((W.setRow g cur.toArray).setRow g (splice cur o z.cells.toList).toArray) g e (splice cur o z.cells.toList) := blk_setRow hb1
    refine ⟨_, _, hr1, hr2, fr_setRow _ _ _, fr_setRow _ _ _, .inr ⟨g, o, 0, _, rfl, hb2, Nat.le_refl _, by rw [length_splice _ _ _ (by rw [Array.length_toList, hzk]; omega)]; omega, by unfold maxLen; omega, ?_, ?_, ?_, rfl⟩, by simp [World.setRow], by simp [World.setRow]⟩
    · have : xs.drop ((0 + 1) * k) = [] := by rw [List.drop_eq_nil_iff]; omega
      rw [this]; simp
    · rw [List.length_drop, h7]; omega
    · intro u hu
      unfold splice at hu
      rcases List.mem_append.1 hu with hu | hu
      · exact h8 u (List.mem_of_mem_take hu)
      · rcases List.mem_append.1 hu with hu | hu
        · exact hz1 u hu
        · exact h8 u (List.mem_of_mem_drop hu)
  · rw [if_neg hc]
    have hc2 : (c - 1) * k + k = c * k := by
      conv => rhs; rw [show c = c - 1 + 1 by omega]
      rw [Nat.add_mul, Nat.one_mul]
    have hr1 := fun (ty : TypeId) (dC sC : Nat) => run_copyK (P := P) (w := W) (dT := sT) (sT := sT) (ty := ty) (dCap := dC) (sCap := sC) (o := o + k) (s0 := o) (dLen := i) (sLen := i) (cs := xs.take (i * k)) hu hs h2' i (Nat.min_self i) hA hsrc (by rw [hA]; omega) (fun v hv => h8 v (hmem v (List.mem_of_mem_take hv)))
    have hb1 : Blk (W.setRow g (splice cur (o + k) (xs.take (i * k))).toArray) g e (splice cur (o + k) (xs.take (i * k))) := blk_setRow h2'
    have hl1 : (splice cur (o + k) (xs.take (i * k))).length = cur.length := length_splice _ _ _ (by rw [hA]; omega)
    have hr2 := fun (ty : TypeId) (cC : Nat) => run_clearK (P := P) (ty := ty) (tT := sT) (c := cC) (o := o) hu hz hb1 (by rw [hzk, hl1]; omega) hz1
    have hb2 : Blk ((W.setRow g (splice cur (o + k) (xs.take (i * k))).toArray).setRow g (splice (splice cur (o + k) (xs.take (i * k))) o z.cells.toList).toArray) g e _ := blk_setRow hb1
    have hfin : splice (splice cur (o + k) (xs.take (i * k))) o z.cells.toList = cur.take o ++ z.cells.toList ++ (xs.take (i * k) ++ xs.drop ((i + 1) * k) ++ cur.drop (o + xs.length)) := by
      have := out_cells (cur.take o) (xs.take (i * k)) ((xs.drop (i * k)).take k) (xs.drop ((i + 1) * k)) (cur.drop (o + xs.length)) z.cells.toList k hE (by rw [Array.length_toList, hzk])
      rw [← hxs, ← hcur, hB] at this
      exact this
    have hlen2 : (xs.take (i * k) ++ xs.drop ((i + 1) * k)).length = n * k := by
      rw [List.length_append, hA, List.length_drop, h7, Nat.add_mul i, Nat.one_mul]; omega
    refine ⟨_, _, hr1, hr2, fr_setRow _ _ _, fr_setRow _ _ _, .inr ⟨g, o + k, c - 1, _, rfl, hb2, by omega, by rw [length_splice _ _ _ (by rw [Array.length_toList, hzk, hl1]; omega), hl1]; omega, by unfold maxLen at *; omega, ?_, hlen2, ?_, rfl⟩, by simp [World.setRow], by simp [World.setRow]⟩
    · rw [hfin]
      have hl3 : (cur.take o ++ z.cells.toList).length = o + k := by rw [List.length_append, hB, Array.length_toList, hzk]
      rw [← hl3, List.drop_left, List.take_left]
    · rw [hfin]
      intro u hu
      simp only [List.mem_append] at hu
      rcases hu with (hu | hu) | (hu | hu) | hu
      · exact h8 u (List.mem_of_mem_take hu)
      · exact hz1 u hu
      · exact h8 u (hmem u (List.mem_of_mem_take hu))
      · exact h8 u (hmem u (List.mem_of_mem_drop hu))
      · exact h8 u (List.mem_of_mem_drop hu)
end Go.Own
