/- Stage 9: sets of numbers in memory: a map[int]struct{} as a list without repeats. -/
import Derived.Test.YtdpheliekdgnhaaNiC
import Derived.Test.YtdpheliekdgnhaaSt
import Derived.Maps.OwnSet
import Derived.BigQuiet
import Derived.Deep.RegionHeld
namespace Go.Proofs.Ytdpheliekdgnhaa
open Go.RowKit Go.Own Go.Sm
open Go.Maps (Keyed int_keyed keyOf_int_mk)
set_option linter.unusedVariables false
set_option linter.unusedSimpArgs false
set_option maxRecDepth 100000
theorem law9 : Keyed Try.prog 3 := int_keyed Try.underlying3
theorem zeroE9 (w : World) : (zeroValue 81).run Try.prog w = .ok (.agg #[]) w := by kernel_rfl
theorem key9 {x : Int} (hx : i64i x) : keyOf Try.prog 3 (.int .i64 x) = some (.int .i64 x) := keyOf_int_mk Try.underlying3 (by simpa [i64i, Lit.wf, IntKind.min, IntKind.max, IntKind.signed, IntKind.bits] using hx)
/-- block b is the set of the numbers l -/
def MSet (w : World) (b : Nat) (l : List Int) : Prop :=
  l.Nodup ∧ ∃ D : DataW Unit, w.ownsMap Try.prog 3 unitElem b l.length D ∧ Maps.size D = l.length ∧ ∀ x, i64i x → Maps.has D (.int .i64 x) = decide (x ∈ l)
def MSo (b : Nat) (l : List Int) : Ob := fun w F => MSet w b l ∧ F = fun i => i = b
theorem MSet.lt {w : World} {b : Nat} {l : List Int} (h : MSet w b l) : b < w.heap.size := by
  obtain ⟨_, D, h1, _⟩ := h
  exact h1.lt
theorem MSet.same {w w' : World} {b : Nat} {l : List Int} (h : MSet w b l) (e : w'.heap[b]? = w.heap[b]?) : MSet w' b l := by
  obtain ⟨hn, D, ⟨es, clock, hb, r⟩, h2, h3⟩ := h
  exact ⟨hn, D, ⟨es, clock, e.trans hb, r⟩, h2, h3⟩
theorem framed_MSo (b : Nat) (l : List Int) : Framed (MSo b l) := by
  refine ⟨fun w F h i hi => ?_, fun w w' F S h hf hn => ?_⟩
  · obtain ⟨h, rfl⟩ := h; obtain rfl : i = b := hi; exact h.lt
  · obtain ⟨h, rfl⟩ := h; exact ⟨h.same (hf.block b h.lt (hn b rfl)), rfl⟩
/-- l without x -/
def out9 (x : Int) (l : List Int) : List Int := l.filter fun y => decide (y ≠ x)
theorem mem_out9 {x y : Int} {l : List Int} : y ∈ out9 x l ↔ y ∈ l ∧ y ≠ x := by unfold out9; simp
theorem len_out9 {x : Int} : ∀ {l : List Int}, l.Nodup → (out9 x l).length + (if x ∈ l then 1 else 0) = l.length
  | [], _ => by simp [out9]
  | y :: l, h => by
    have ih := len_out9 (x := x) (List.nodup_cons.1 h).2
    have hy := (List.nodup_cons.1 h).1
    unfold out9 at ih ⊢
    by_cases e : y = x
    · subst e
      have e1 : ∀ a ∈ l, ¬ a = y := fun a ha e => hy (e ▸ ha)
      simpa [List.filter_cons] using e1
    · have : (if x ∈ y :: l then 1 else 0) = (if x ∈ l then 1 else 0) := by
        have : x ≠ y := fun h => e h.symm
        simp [List.mem_cons, this]
      rw [this, List.filter_cons, if_pos (by simp [e])]
      simp only [List.length_cons]
      omega
theorem nodup_out9 {x : Int} {l : List Int} (h : l.Nodup) : (out9 x l).Nodup := h.filter _
section
variable {w w' : World} {b : Nat} {l : List Int} {D : DataW Unit}
theorem MSet.put (hn : l.Nodup) (h2 : Maps.size D = l.length) (h3 : ∀ x, i64i x → Maps.has D (.int .i64 x) = decide (x ∈ l)) {x : Int} (hx : i64i x) (hnx : ¬ x ∈ l) {n : Nat}
    (ho : w.ownsMap Try.prog 3 unitElem b l.length D) (ho' : w'.ownsMap Try.prog 3 unitElem b (l.length + 1) (D.put (.int .i64 x) (.agg []))) : MSet w' b (l ++ [x]) := by
  have hT := ho.tidy law9
  have hs := Maps.size_put (k := .int .i64 x) hT (.agg [])
  rw [h3 x hx] at hs
  simp only [hnx, decide_false, if_false, Bool.false_eq_true] at hs
  refine ⟨?_, _, by simpa using ho', by rw [hs, h2]; simp, fun y hy => ?_⟩
  · rw [List.nodup_append]
    refine ⟨hn, by simp, ?_⟩
    intro a ha c hc
    obtain rfl : c = x := by simpa using hc
    rintro rfl
    exact hnx ha
  · by_cases e : y = x
    · subst e
      rw [Maps.has_put_same ho.isMap (by trivial)]
      simp
    · rw [Maps.has_put_other (by simpa using e), h3 y hy]
      simp [e]
theorem MSet.del (hn : l.Nodup) (h2 : Maps.size D = l.length) (h3 : ∀ x, i64i x → Maps.has D (.int .i64 x) = decide (x ∈ l)) {x : Int} (hx : i64i x)
    (ho : w.ownsMap Try.prog 3 unitElem b l.length D) (ho' : w'.ownsMap Try.prog 3 unitElem b l.length (D.del (.int .i64 x))) : MSet w' b (out9 x l) := by
  have hT := ho.tidy law9
  have hs := Maps.size_del (k := .int .i64 x) hT
  have hl := len_out9 (x := x) hn
  rw [h3 x hx] at hs
  have e : Maps.size (D.del (.int .i64 x)) = (out9 x l).length := by
    by_cases hm : x ∈ l
    · simp [hm] at hs hl; omega
    · simp [hm] at hs hl; omega
  refine ⟨nodup_out9 hn, _, ?_, e, fun y hy => ?_⟩
  · rw [← e]
    obtain ⟨es, clock, hb, F, hsz, hD⟩ := ho'
    exact ⟨es, clock, hb, F, by rw [hD]; simp [Maps.size, length_sorted], hD⟩
  · by_cases e : y = x
    · subst e
      rw [Maps.has_del_same]
      simp [mem_out9]
    · rw [Maps.has_del_other (by simpa using e), h3 y hy]
      simp [mem_out9, e]
theorem MSet.made (w : World) : MSet (w.alloc (.map #[] 0)) w.heap.size [] :=
  ⟨by simp, .map [], World.ownsMap_made w _ _ _, rfl, fun x _ => by simp [Maps.has_eq]⟩
theorem MSet.len (h : MSet w b l) (n : Nat) (ty : TypeId) : (Builtin.len_ #[68] ty #[.map (some b)]).run Try.prog (w.drewN n) = .ok (.int .i64 (l.length : Int)) (w.drewN n) := by
  obtain ⟨_, D, h1, h2, _⟩ := h
  have h1' : (w.drewN n).ownsMap Try.prog 3 unitElem b l.length D := h1
  rw [h1'.len Try.underlying68 ty, h2]
end
section
variable {S : Nat → Prop} {w0 w w' : World} {b : Nat} {l : List Int}
/-- a set that has changed -/
theorem St.turned (L1 L2 : List Ob) {l' : List Int} (s : St S w0 w (L1 ++ MSo b l :: L2)) (h : MSet w' b l') (hg : w.grownBy w' (some b)) : St S w0 w' (L1 ++ MSo b l' :: L2) := by
  obtain ⟨F, ⟨h0, rfl⟩, _, _, go⟩ := s.focus
  have := go w' (MSo b l') [] (St.changed (framed_MSo ..) ⟨h, rfl⟩ (fun i hi => .inl hi) (Fr.of_grown hg (fun i _ e => by simpa using e)))
  rwa [List.append_nil] at this
theorem St.mset (L1 L2 : List Ob) (s : St S w0 w (L1 ++ MSo b l :: L2)) : MSet w b l := by
  obtain ⟨F, ⟨h, _⟩, _⟩ := s.focus; exact h
end
end Go.Proofs.Ytdpheliekdgnhaa
