/- Stage 10: what was seen, in memory: a map of fields by their names. -/
import Derived.Test.YtilabahcngjflaaDoorJiE
import Derived.Maps.OwnSet
import Derived.StringKeys
import Derived.BigQuiet
import Derived.Deep.RegionHeld
namespace Go.Proofs.YtilabahcngjflaaDoor
open Go.RowKit Go.Own Go.Tbl Go.Fie
open Go.Maps (Keyed string_keyed)
set_option linter.unusedVariables false
set_option linter.unusedSimpArgs false
set_option maxRecDepth 100000
theorem lawS : Keyed Tryd.prog 9 := string_keyed Tryd.underlying9
theorem keyS {k : ByteArray} (hk : k.size ≤ 140737488355328) : keyOf Tryd.prog 9 (.string k) = some (.string k.data.toList) :=
  Go.WideMaps.keyOf_string_mk Tryd.underlying9 (by unfold maxLen; omega)
def zf : Fld := ⟨nNone, nNone, false⟩
theorem zeroF (w : World) : (zeroValue 34).run Tryd.prog w = .ok (.agg #[.string ⟨#[]⟩, .string ⟨#[]⟩, .bool false]) w := by kernel_rfl
def fData (f : Fld) : DataW Unit := .agg [.lit (.string f.n.data.toList), .lit (.string f.v.data.toList), .lit (.bool f.nv)]
theorem data_inj {a b : ByteArray} (h : a.data.toList = b.data.toList) : a = b := by rw [← Lib.mk_data a, h, Lib.mk_data]
theorem fData_inj {f f' : Fld} (h : fData f = fData f') : f = f' := by
  unfold fData at h
  simp only [DataW.agg.injEq, List.cons.injEq, DataW.lit.injEq, Lit.string.injEq, Lit.bool.injEq, and_true] at h
  obtain ⟨h1, h2, h3⟩ := h
  cases f; cases f'
  simp only at h1 h2 h3
  rw [data_inj h1, data_inj h2, h3]
/-- how a field in a map reads -/
def fldElem : Value → Option (DataW Unit × List MemPlace)
  | .agg cs => match cs.toList with
    | [.string n, .string v, .bool b] => some (fData ⟨n, v, b⟩, [])
    | _ => none
  | _ => none
theorem fldElem_mk (f : Fld) : fldElem (.agg #[.string f.n, .string f.v, .bool f.nv]) = some (fData f, []) := rfl
theorem fldElem_inv {v : Value} {z : DataW Unit × List MemPlace} (h : fldElem v = some z) : ∃ f : Fld, v = .agg #[.string f.n, .string f.v, .bool f.nv] ∧ z.1 = fData f := by
  unfold fldElem at h
  split at h
  · rename_i cs
    split at h
    · rename_i n v b hc
      refine ⟨⟨n, v, b⟩, ?_, ?_⟩
      · congr 1
        exact Array.toList_inj.1 hc
      · rw [← Option.some.inj h]
    · cases h
  · cases h
/-- block b is the map of what was seen; it has room for n more than .. -/
def MSn (w : World) (b : Nat) (g : Sn) (n : Nat) : Prop :=
  ∃ D : DataW Unit, w.ownsMap Tryd.prog 9 fldElem b n D ∧ ∀ k : ByteArray, Maps.has D (.string k.data.toList) = has g k ∧ ∀ f, g k = some f → ∀ z, D.atKey (.string k.data.toList) z = fData f
def fOf (g : Sn) (k : ByteArray) : Fld := (g k).getD zf
theorem fOf_val (g : Sn) (k : ByteArray) : (fOf g k).v = val g k := by
  unfold fOf val
  cases g k <;> rfl
section
variable {w w' : World} {b n : Nat} {g : Sn}
theorem MSn.lt (h : MSn w b g n) : b < w.heap.size := by
  obtain ⟨D, h1, _⟩ := h
  exact h1.lt
theorem MSn.same (h : MSn w b g n) (e : w'.heap[b]? = w.heap[b]?) : MSn w' b g n := by
  obtain ⟨D, ⟨es, clock, hb, r⟩, h3⟩ := h
  exact ⟨D, ⟨es, clock, e.trans hb, r⟩, h3⟩
theorem MSn.fr {S : Nat → Prop} (h : MSn w b g n) (hf : Fr S w w') (hb : ¬ S b) : MSn w' b g n := h.same (hf.block b h.lt hb)
theorem MSn.below (h : MSn w b g n) (hb : Below w.heap.size w w') : MSn w' b g n := h.same (hb.block b h.lt)
theorem MSn.drewN (h : MSn w b g n) (k : Nat) : MSn (w.drewN k) b g n := h
theorem MSn.made (w : World) : MSn (w.alloc (.map #[] 0)) w.heap.size none0 0 :=
  ⟨.map [], World.ownsMap_made w _ _ _, fun k => ⟨by simp [Maps.has_eq, has, none0], fun f hf => by cases hf⟩⟩
theorem MSn.look (h : MSn w b g n) (k : ByteArray) (hk : k.size ≤ 140737488355328) (N V : ByteArray) (B : Bool) (e : fOf g k = ⟨N, V, B⟩) :
    (Instr.lookup 49 (.map (some b)) (.string k) false).run Tryd.prog w = .ok (.agg #[.string N, .string V, .bool B]) w := by
  obtain ⟨D, h1, h2⟩ := h
  obtain ⟨hh, ha⟩ := h2 k
  obtain ⟨v, ps, hrun, hR⟩ := h1.lookup lawS Tryd.underlying49 (zeroF w) (zd := fData zf) (zp := []) rfl (keyS hk)
  obtain ⟨f, rfl, hz⟩ := fldElem_inv hR
  rw [hrun]
  have hf : f = ⟨N, V, B⟩ := by
    rw [← e]
    apply fData_inj
    rw [← hz]
    unfold fOf
    cases hg : g k with
    | none =>
      have : Maps.has D (.string k.data.toList) = false := by rw [hh]; unfold has; rw [hg]; rfl
      exact Maps.atKey_of_not_has this _
    | some f' => exact ha f' hg _
  rw [hf]
theorem MSn.lookOk (h : MSn w b g n) (k : ByteArray) (hk : k.size ≤ 140737488355328) (N V : ByteArray) (B : Bool) (e : fOf g k = ⟨N, V, B⟩) :
    (Instr.lookup 49 (.map (some b)) (.string k) true).run Tryd.prog w = .ok (.tuple #[.agg #[.string N, .string V, .bool B], .bool (has g k)]) w := by
  obtain ⟨D, h1, h2⟩ := h
  obtain ⟨hh, ha⟩ := h2 k
  obtain ⟨v, ps, hrun, hR⟩ := h1.look_ok lawS Tryd.underlying49 (zeroF w) (zd := fData zf) (zp := []) rfl (keyS hk)
  obtain ⟨f, rfl, hz⟩ := fldElem_inv hR
  rw [hrun, hh]
  have hf : f = ⟨N, V, B⟩ := by
    rw [← e]
    apply fData_inj
    rw [← hz]
    unfold fOf
    cases hg : g k with
    | none =>
      have : Maps.has D (.string k.data.toList) = false := by rw [hh]; unfold has; rw [hg]; rfl
      exact Maps.atKey_of_not_has this _
    | some f' => exact ha f' hg _
  rw [hf]
theorem MSn.put {D : DataW Unit} (ho : w.ownsMap Tryd.prog 9 fldElem b n D) (h2 : ∀ k : ByteArray, Maps.has D (.string k.data.toList) = has g k ∧ ∀ f, g k = some f → ∀ z, D.atKey (.string k.data.toList) z = fData f)
    (k : ByteArray) (f : Fld) (ho' : w'.ownsMap Tryd.prog 9 fldElem b (n + 1) (D.put (.string k.data.toList) (fData f))) : MSn w' b (upd g k f) (n + 1) := by
  refine ⟨_, ho', fun x => ?_⟩
  by_cases e : x = k
  · subst e
    refine ⟨?_, fun f' hf' z => ?_⟩
    · rw [Maps.has_put_same ho.isMap (by trivial), has_upd]; simp
    · rw [Maps.atKey_put_same ho.isMap (by trivial)]
      simp only [upd, if_true] at hf'
      rw [Option.some.inj hf']
  · have hne : (Lit.string x.data.toList) ≠ .string k.data.toList := fun h => e (data_inj (by simpa using h))
    refine ⟨?_, fun f' hf' z => ?_⟩
    · rw [Maps.has_put_other hne, (h2 x).1, has_upd]; simp [e]
    · rw [Maps.atKey_put_other hne]
      simp only [upd, if_neg e] at hf'
      exact (h2 x).2 f' hf' z
end
theorem field1 (N V : ByteArray) (B : Bool) (w : World) : (Instr.field 34 (.agg #[.string N, .string V, .bool B]) 1).run Tryd.prog w = .ok (.string V) w := by kernel_rfl
theorem fld3 (f : Fld) : ∃ N V B, f = ⟨N, V, B⟩ := ⟨f.n, f.v, f.nv, rfl⟩
/-! the methods that look -/
theorem has_c {w : World} {b n : Nat} {g : Sn} (h : MSn w b g n) (k : ByteArray) (hk : k.size ≤ 140737488355328) :
    Calls Tryd.prog 36 #[.map (some b), .string k] w fun e w' => e = .returned (.bool (has g k)) ∧ Below w.heap.size w w' := by
  obtain ⟨N, V, B, e⟩ := fld3 (fOf g k)
  have hl := h.lookOk k hk N V B e
  clear h e
  go_enter Tryd.func36, Tryd.ntmps36
  go_wp2

  go_ret
  exact ⟨rfl, (Below.refl _ _).alloc (Nat.le_refl _) _⟩
theorem says_c {w : World} {b n : Nat} {g : Sn} (h : MSn w b g n) (k : ByteArray) (hk : k.size ≤ 140737488355328) :
    Calls Tryd.prog 35 #[.map (some b), .string k] w fun e w' => e = .returned (.bool (says g k)) ∧ w' = w := by
  obtain ⟨N, V, B, e⟩ := fld3 (fOf g k)
  have hl := h.look k hk N V B e
  have hv : says g k = !V.toList.isEmpty := by
    unfold says
    rw [← fOf_val, e, emp, decide_not]
    congr 1
    rw [Bool.eq_iff_iff, decide_eq_true_iff, decide_eq_true_iff]
    exact (eqE_iff V).symm
  have Hv := Lib.hid hv
  clear h e hv
  have hf1 := field1
  go_enter Tryd.func35, Tryd.ntmps35
  go_wp2
  go_ret
  exact ⟨ret_bool Hv.out.symm, rfl⟩
theorem num_c {w : World} {b n : Nat} {g : Sn} (h : MSn w b g n) (k : ByteArray) (hk : k.size ≤ 140737488355328) (d : Int) (hd : ∀ f, g k = some f → f.v.size ≤ 18 ∧ f.v.size ≠ 0 ∧ digs f.v = true) :
    Calls Tryd.prog 38 #[.map (some b), .string k, .int .i64 d] w fun e w' => e = .returned (.int .i64 (numb g k d)) ∧ Below w.heap.size w w' := by
  have Hh := Lib.hid (fun (w2 : World) (hb : Below w.heap.size w w2) => has_c (h.below hb) k hk)
  cases hg : g k with
  | none =>
    have h1 : has g k = false := by unfold has; rw [hg]; rfl
    have h2 : numb g k d = d := by unfold numb; rw [hg]
    have H2 := Lib.hid h2
    rw [h1] at Hh
    clear h h2 hd hg
    have hf1 := field1
    go_enter Tryd.func38, Tryd.ntmps38
    go_wp2_with (first
      | (go_at_call 36; (with_reducible refine (Hh.out _ (Below.refl _ _)).mono ?_); rintro e w4 ⟨rfl, hb⟩; have HB := Lib.hid hb; clear hb))
    go_ret
    exact ⟨by rw [H2.out]; rfl, HB.out⟩
  | some f =>
    have h1 : has g k = true := by unfold has; rw [hg]; rfl
    have h2 : numb g k d = (numV f.v : Int) := by unfold numb; rw [hg]
    have H2 := Lib.hid h2
    obtain ⟨d1, d2, d3⟩ := hd f hg
    have Hl := Lib.hid (fun (w2 : World) (hb : Below w.heap.size w w2) => (h.below hb).look k hk f.n f.v f.nv (by unfold fOf; rw [hg]; rfl))
    have Ha := Lib.hid (fun (w2 : World) => atoi_c f.v d1 d2 d3 w2)
    rw [h1] at Hh
    clear h h2 hd hg d1 d2 d3
    have hf1 := field1
    go_enter Tryd.func38, Tryd.ntmps38
    go_wp2_with (first
      | (go_at_call 36; (with_reducible refine (Hh.out _ (Below.refl _ _)).mono ?_); rintro e w4 ⟨rfl, hb⟩; have HB := Lib.hid hb; have hl := Hl.out w4 hb; clear hb)
      | (go_at_call 46; (with_reducible refine (Ha.out _).mono ?_); rintro e w5 ⟨rfl, hb2⟩; have HC := Lib.hid (HB.out.trans (hb2.mono HB.out.size)); clear hb2))
    go_ret
    exact ⟨by rw [H2.out]; rfl, HC.out⟩
end Go.Proofs.YtilabahcngjflaaDoor
