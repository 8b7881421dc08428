/- Laws for the walk: copy of elements of k cells onto a block that is known whole; append of zeros that grows. -/
import Derived.Test.YtemgojgkklkmbaaPTn
import Derived.Lib.AppendZerosOnto
import Derived.Lib.Overlaps
import Derived.Laws.CopyRow
import Derived.Laws.Externs
namespace Go.Own
open Go.RowKit

theorem run_copy_rowK {P : Program} {w : World} {dT sT ty elem : TypeId} {k g o dLen dCap : Nat} {s0 b sLen sCap : Nat} {cur : List Value} {t : TypeId} {cs : List Value}
    (hu : P.underlying dT = some (.slice elem)) (hs : (P.info? elem).map (·.size) = some k) (hg : Blk w g t cur) (m : Nat) (hm : Nat.min sLen dLen = m) (hn : cs.length = m * k)
    (hsrc : ∀ j v, cs[j]? = some v → w.cell? ⟨b, s0 + j, none⟩ = some v) (hfit : o + cs.length ≤ cur.length) (h1 : ∀ v ∈ cs, v.oneCell' = true) :
    (Builtin.copy_ #[dT, sT] ty #[.slice (some ⟨g, o, none⟩) dLen dCap, .slice (some ⟨b, s0, none⟩) sLen sCap]).run P w =
      .ok (goInt (m : Nat)) (w.setRow g (splice cur o cs).toArray) := by
  have hl := run_loadCells_list (P := P) w ⟨b, s0, none⟩ cs (fun j v hj => by rw [add_plain]; exact hsrc j v hj)
  have hst := run_storeCells_at P g o t cs 0 cur.toArray w hg (by simpa using hfit) h1
  cases hq : P.info? elem with
  | none => simp [hq] at hs
  | some i =>
    have hi : i.size = k := by simpa [hq] using hs
    rw [hn] at hl
    simp only [Nat.add_zero] at hst
    have he : (splice cur o cs) = cur.take o ++ cs ++ cur.drop (o + cs.length) := by rw [splice, List.append_assoc]
    rw [he]
    have hm' : min sLen dLen = m := hm
    simp [Builtin.copy_, run_underlying hu, Builtin.lenOf, Builtin.firstCells, sizeOf, typeInfo, hq, hi, hm', hl, hst]
theorem blk_setRow {w : World} {g : Nat} {t : TypeId} {cur cs : List Value} (h : Blk w g t cur) : Blk (w.setRow g cs.toArray) g t cs := setRow_heap w g _ _ t _ h
theorem fr_setRow (w : World) (g : Nat) (cs : List Value) : Fr (· = g) w (w.setRow g cs.toArray) := ⟨rfl, rfl, rfl, by simp [World.setRow], fun k _ hk => setRow_other w g k _ hk⟩
theorem wp_copy_run {P : Program} {w : World} {o : Oper} {a : Act} {K : Act → World → Prop} {Q : Exit → Act → World → Prop} (d s : Operand) (t t' : TypeId)
    (ho : o.op = .call { callee := .builtin .copy, args := #[d, s], argTypes := #[t, t'] }) (v u : Value) (hd : a.eval d = v) (hs : a.eval s = u) {v' : Value} {w' : World}
    (hr : (Builtin.copy_ #[t, t'] o.type #[v, u]).run P w = .ok v' w') (h : K (a.put o.dst v') w') : o.wp P a w K Q := by
  unfold Oper.wp execOp
  simp only [ho, resolve, invoke, builtin, Sem.run_bind, Sem.run_pure, Result.andThen_ok, List.map_toArray, List.map_cons, List.map_nil, hd, hs, hr]
  exact h
/-- copy, its run known by an equation -/
theorem wpList_copy_run {P : Program} {w : World} {ops : Array Oper} {rest : List Oper} {o : Oper} {a : Act} {Q : Exit → Act → World → Prop} (hgd : o.guard = none) (d s : Operand) (t t' : TypeId)
    (ho : o.op = .call { callee := .builtin .copy, args := #[d, s], argTypes := #[t, t'] }) (v u : Value) (hd : a.eval d = v) (hs : a.eval s = u) {v' : Value} {w' : World}
    (hr : (Builtin.copy_ #[t, t'] o.type #[v, u]).run P w = .ok v' w') (h : wpList P ops Q rest (a.put o.dst v') w') : wpList P ops Q (o :: rest) a w :=
  wpList_plain hgd fun _ hK => wp_copy_run d s t t' ho v u hd hs hr (hK _ _ h)
theorem step_copy_run {P : Program} {ops : Array Oper} {o : Oper} {a : Act} {w : World} {K : Act → World → Prop} {Q : Exit → Act → World → Prop} {E : Prop} (hgd : o.guard = none) (d s : Operand) (t t' : TypeId)
    (ho : o.op = .call { callee := .builtin .copy, args := #[d, s], argTypes := #[t, t'] }) (v u : Value) (hd : a.eval d = v) (hs : a.eval s = u) {v' : Value} {w' : World}
    (hr : (Builtin.copy_ #[t, t'] o.type #[v, u]).run P w = .ok v' w') (h : K (a.put o.dst v') w') : if Region.wanted o (yielded ops a.tmps) = true then Oper.wp P o a w K Q else E := by
  have hw : Region.wanted o (yielded ops a.tmps) = true := by simp [Region.wanted, hgd]
  rw [if_pos hw]
  exact wp_copy_run d s t t' ho v u hd hs hr h
theorem zeroCells_size (z : Array Value) (n : Nat) : (Builtin.zeroCells z n).size = n * z.size := by simp [Builtin.zeroCells]
/-- s[:0] and k zeros behind it, where there is no room -/
theorem run_append_zeros {P : Program} {w : World} {t tn ty e : TypeId} {z : Value} {size bytes : Nat} (E : Elt P t e z size bytes) (htn : P.underlying tn = some (.int .i64))
    {b c : Nat} (m : Nat) (h0 : 0 < m) (hc : c < m) (hb : m * bytes ≤ 140737488355328) (h63 : m ≤ maxLen) :
    ∃ G row, (Builtin.append_ #[t, tn] ty #[.slice (some ⟨b, 0, none⟩) 0 c, .int .i64 (m : Int)]).run P w = .ok (.slice (some ⟨w.heap.size, 0, none⟩) m G) (w.drew.alloc (.cells row e)) ∧ m ≤ G ∧ G ≤ maxLen ∧ row.size = G * size := by
  obtain ⟨ht, ⟨i, hi, hz, hsize, hby⟩, hzs, hsz⟩ := E
  have hold : (Builtin.firstCells i.size 0 (.slice (some ⟨b, 0, none⟩) 0 c)).run P w.drew = .ok ([] : List Value).toArray w.drew :=
    run_firstCells_some w.drew i.size 0 ⟨b, 0, none⟩ 0 c [] (by simp) (fun j v hj => by simp at hj)
  have h63' := h63
  unfold maxLen at h63'
  have hmb : m * i.bytes ≤ 140737488355328 := by rw [hby]; exact hb
  have h := Lib.run_append_grow_zeros w t tn ty e i z .i64 .i64 ht htn hi hz (some ⟨b, 0, none⟩) 0 c [] hold m h0 (by omega) (by omega) (by omega) (by omega) (by rw [Nat.zero_add]; exact growslice_fits hc hmb)
  rw [Nat.zero_add] at h
  have hG : m ≤ grownCap w m c e := grownCap_ge _ _ _ _
  refine ⟨grownCap w m c e, _, h, hG, grownCap_le_maxLen w m c e h63, ?_⟩
  simp only [Array.size_append, zeroCells_size, hzs, List.size_toArray, List.length_nil, Nat.zero_add]
  rw [← Nat.add_mul]
  congr 1
  omega
/-- an append, its run known by an equation -/
theorem wpList_append_run {P : Program} {w : World} {ops : Array Oper} {rest : List Oper} {o : Oper} {a : Act} {Q : Exit → Act → World → Prop} (hgd : o.guard = none) (s x : Operand) (t tn : TypeId)
    (ho : o.op = .call { callee := .builtin .append, args := #[s, x], argTypes := #[t, tn] }) (vs vx : Value) (hs : a.eval s = vs) (hx : a.eval x = vx)
    {v' : Value} {w' : World} (hr : (Builtin.append_ #[t, tn] o.type #[vs, vx]).run P w = .ok v' w') (h : wpList P ops Q rest (a.put o.dst v') w') : wpList P ops Q (o :: rest) a w :=
  Lib.wpList_append_run w hgd s x t tn ho vs vx hs hx v' w' hr h
end Go.Own
