/- Stage 8: lists of settings in memory; what comes in, by its type. -/
import Derived.Test.YthdikinpociiaaaShape
import Derived.Test.YthdikinpociiaaaSeC
import Derived.Deep.Cut
import Derived.Deep.DeepCutAuto
import Derived.Deep.LoopGhost
import Derived.Laws.StructEq
namespace Go.Proofs.Ythdikinpociiaaa
open Go.RowKit Go.Own Go.Set8
set_option linter.unusedVariables false
set_option maxRecDepth 100000
/-- the cells of settings -/
def scell (s : Int × Nat) : List Value := [.int .i64 s.1, .int .u32 (s.2 : Int)]
def scells (l : List (Int × Nat)) : List Value := l.flatMap scell
theorem scells_length (l : List (Int × Nat)) : (scells l).length = l.length * 2 := by
  induction l with
  | nil => rfl
  | cons s l ih => simp [scells, scell] at ih ⊢; omega
theorem scells_at : ∀ (l : List (Int × Nat)) (k : Nat) (s : Int × Nat), l[k]? = some s → (scells l)[k * 2]? = some (.int .i64 s.1) ∧ (scells l)[k * 2 + 1]? = some (.int .u32 (s.2 : Int))
  | [], k, s, h => by simp at h
  | a :: l, 0, s, h => by simp at h; subst h; exact ⟨rfl, rfl⟩
  | a :: l, k + 1, s, h => by
    have h' := scells_at l k s (by simpa using h)
    have e : scells (a :: l) = scell a ++ scells l := by simp [scells]
    have e1 : (scell a).length = 2 := rfl
    rw [e, List.getElem?_append_right (by rw [e1]; omega), List.getElem?_append_right (by rw [e1]; omega), e1]
    rw [show (k + 1) * 2 - 2 = k * 2 by omega, show (k + 1) * 2 + 1 - 2 = k * 2 + 1 by omega]
    exact h'
theorem scells_one (l : List (Int × Nat)) : ∀ v ∈ scells l, v.oneCell' = true := by
  intro v hv
  obtain ⟨s, _, hs⟩ := List.mem_flatMap.1 hv
  simp [scell] at hs
  rcases hs with rfl | rfl <;> rfl
theorem rd_set {w : World} {A : Option Addr} {n k : Nat} {l : List (Int × Nat)} {s : Int × Nat} (h : Rd w 2 A n (scells l)) (hk : l[k]? = some s) :
    ∃ b o, A = some ⟨b, o, none⟩ ∧ w.cell? ⟨b, o + k * 2, none⟩ = some (.int .i64 s.1) ∧ w.cell? ⟨b, o + k * 2 + 1, none⟩ = some (.int .u32 (s.2 : Int)) := by
  have hlt := (List.getElem?_eq_some_iff.1 hk).1
  have hn : l.length * 2 = n * 2 := by rw [← scells_length]; exact h.1
  obtain ⟨b, o, rfl, hc⟩ := h.2 (by omega)
  obtain ⟨h1, h2⟩ := scells_at l k s hk
  exact ⟨b, o, rfl, hc _ _ h1, hc _ _ h2⟩
theorem rd_set_len {w : World} {A : Option Addr} {n : Nat} {l : List (Int × Nat)} (h : Rd w 2 A n (scells l)) : l.length = n := by
  have := h.1
  rw [scells_length] at this
  omega
theorem infoS' : (Try.prog.info? 35).map (fun i => (i.zero, i.size, i.bytes)) = some (some (.agg #[.int .i64 0, .int .u32 0]), 2, 16) := by kernel_rfl
theorem ES : Elt Try.prog 24 35 (.agg #[.int .i64 0, .int .u32 0]) 2 16 := by
  obtain ⟨i0, hi, hz0, hz1, hz2⟩ := info_parts infoS'
  exact ⟨Try.underlying24, ⟨i0, hi, hz0, hz1, hz2⟩, rfl, by omega⟩
theorem scells_append (a b : List (Int × Nat)) : scells (a ++ b) = scells a ++ scells b := by simp [scells]
theorem rd_one_set {w : World} {g : Nat} {a : Int} {v : Nat} (h : Blk w g 35 [.int .i64 a, .int .u32 (v : Int)]) : Rd w 2 (some ⟨g, 0, none⟩) 1 (scells [(a, v)]) := by
  have := Rd.of_blk (n := 1) (size := 2) h (by simp)
  simpa [scells, scell] using this
theorem own_none (w : World) (b : Nat) (e : TypeId) (size : Nat) : w.ownsRow b e size (.slice none 0 0) 0 [] := World.ownsRow_nil _ _ _ _
theorem i64w_of {n : Int} (h : (Lit.int .i64 n).wf = true) : -9223372036854775808 ≤ n ∧ n ≤ 9223372036854775807 := by
  simpa [Lit.wf, IntKind.min, IntKind.max, IntKind.signed, IntKind.bits] using h
theorem HoldsT.flds {P : Program} {W : World} {d : Nat} {t : TypeId} {cs : List Value} {fs : Array Field} (ht : P.underlying t = some (.struct fs)) (h : HoldsT P W (d + 1) t cs) : cs.length = P.cellsOf t ∧ ∀ (i : Nat) (f : Field), fs[i]? = some f → HoldsT P W d f.type ((cs.drop f.offset).take (P.cellsOf f.type)) := by
  unfold HoldsT at h
  rw [ht] at h
  exact h
theorem fld1 {P : Program} {W : World} {d : Nat} {cs : List Value} {fs : Array Field} (h : ∀ (i : Nat) (f : Field), fs[i]? = some f → HoldsT P W d f.type ((cs.drop f.offset).take (P.cellsOf f.type))) (i : Nat) (t : TypeId) (o : Nat) (hf : (fs[i]?).map (fun f => (f.type, f.offset)) = some (t, o)) (hc : P.cellsOf t = 1) : HoldsT P W d t ((cs.drop o).take 1) := by
  cases hfi : fs[i]? with
  | none => rw [hfi] at hf; cases hf
  | some f =>
    rw [hfi] at hf
    simp only [Option.map_some, Option.some.injEq, Prod.mk.injEq] at hf
    obtain ⟨h1, h2⟩ := hf
    have := h i f hfi
    rw [h1, h2, hc] at this
    exact this
theorem c_int : Try.prog.cellsOf 3 = 1 := by kernel_rfl
theorem c_bool : Try.prog.cellsOf 4 = 1 := by kernel_rfl
theorem c_u32 : Try.prog.cellsOf 26 = 1 := by kernel_rfl
theorem c_set : Try.prog.cellsOf 35 = 2 := by kernel_rfl
def setOk (s : Int × Nat) : Prop := (-9223372036854775808 ≤ s.1 ∧ s.1 ≤ 9223372036854775807) ∧ s.2 < 4294967296
theorem u32_of' {n : Int} (h : (Lit.int .u32 n).wf = true) : 0 ≤ n ∧ n ≤ 4294967295 := by
  simpa [Lit.wf, IntKind.min, IntKind.max, IntKind.signed, IntKind.bits] using h
theorem set_cells {W : World} {d : Nat} {cs : List Value} (h : HoldsT Try.prog W (d + 2) 35 cs) : ∃ s, cs = scell s ∧ setOk s := by
  obtain ⟨hl, hf⟩ := HoldsT.flds Try.underlying35 h
  rw [c_set] at hl
  have g0 := fld1 hf 0 3 0 rfl c_int
  have g1 := fld1 hf 1 26 1 rfl c_u32
  match cs, hl with
  | [c0, c1], _ =>
    obtain ⟨a, rfl, ha⟩ := HoldsT.int (d := d) Try.underlying3 g0
    obtain ⟨b, rfl, hb⟩ := HoldsT.int (d := d) Try.underlying26 g1
    have hb2 := u32_of' hb
    refine ⟨(a, b.toNat), ?_, i64w_of ha, by show b.toNat < 4294967296; omega⟩
    unfold scell
    rw [Int.toNat_of_nonneg hb2.1]
theorem sets_of : ∀ (n : Nat) (vs : List Value), vs.length = n * 2 → (∀ i, i < n → ∃ s, (vs.drop (i * 2)).take 2 = scell s ∧ setOk s) → ∃ l : List (Int × Nat), vs = scells l ∧ ∀ s ∈ l, setOk s
  | 0, vs, h, _ => ⟨[], by have := List.eq_nil_of_length_eq_zero (l := vs) (by omega); rw [this]; rfl, fun s hs => by cases hs⟩
  | n + 1, vs, h, hp => by
    obtain ⟨s, hs, ok⟩ := hp 0 (by omega)
    obtain ⟨l, hl, hall⟩ := sets_of n (vs.drop 2) (by rw [List.length_drop]; omega) (fun i hi => by
      obtain ⟨s', h1, h2⟩ := hp (i + 1) (by omega)
      refine ⟨s', ?_, h2⟩
      rw [List.drop_drop, show 2 + i * 2 = (i + 1) * 2 by omega]
      exact h1)
    refine ⟨s :: l, ?_, fun x hx => by rcases List.mem_cons.1 hx with rfl | hx; exact ok; exact hall x hx⟩
    have e : scells (s :: l) = scell s ++ scells l := by simp [scells]
    rw [e, ← hl, ← hs]
    simp
theorem setts_arg {W : World} {d : Nat} {A : Option Addr} {n c : Nat} (h : HoldsT Try.prog W (d + 3) 24 [.slice A n c]) : ∃ l : List (Int × Nat), Rd W 2 A n (scells l) ∧ (∀ s ∈ l, setOk s) ∧ l.length = n ∧ n ≤ c ∧ c ≤ 140737488351232 := by
  obtain ⟨h1, h2, h3, vs, hr, hv⟩ := HoldsT.slice (d := d + 2) Try.underlying24 h
  rw [c_set] at hr hv
  have hrd := hr (by omega)
  obtain ⟨l, rfl, hall⟩ := sets_of n vs hrd.1 (fun i hi => set_cells (hv i hi))
  have hb : Try.prog.bytesOf 35 = 16 := by kernel_rfl
  rw [hb] at h3
  exact ⟨l, hrd, hall, rd_set_len hrd, h1, by omega⟩

/-- values that are handed in -/
def okV (v : Va) : Prop := (-9223372036854775808 ≤ v.tab ∧ v.tab ≤ 9223372036854775807) ∧ (-9223372036854775808 ≤ v.str ∧ v.str ≤ 9223372036854775807) ∧ (-9223372036854775808 ≤ v.win ∧ v.win ≤ 9223372036854775807) ∧ (-9223372036854775808 ≤ v.frm ∧ v.frm ≤ 9223372036854775807) ∧ (-9223372036854775808 ≤ v.lst ∧ v.lst ≤ 9223372036854775807)
theorem c_values : Try.prog.cellsOf 23 = 6 := by kernel_rfl
theorem values_arg {W : World} {d : Nat} {cs : List Value} (h : HoldsT Try.prog W (d + 2) 23 cs) : ∃ v : Va, cs = [.int .i64 v.tab, .bool v.push, .int .i64 v.str, .int .i64 v.win, .int .i64 v.frm, .int .i64 v.lst] ∧ okV v := by
  obtain ⟨hl, hf⟩ := HoldsT.flds Try.underlying23 h
  rw [c_values] at hl
  have g0 := fld1 hf 0 3 0 rfl c_int
  have g1 := fld1 hf 1 4 1 rfl c_bool
  have g2 := fld1 hf 2 3 2 rfl c_int
  have g3 := fld1 hf 3 3 3 rfl c_int
  have g4 := fld1 hf 4 3 4 rfl c_int
  have g5 := fld1 hf 5 3 5 rfl c_int
  match cs, hl with
  | [c0, c1, c2, c3, c4, c5], _ =>
    obtain ⟨a0, rfl, h0⟩ := HoldsT.int (d := d) Try.underlying3 g0
    obtain ⟨a1, rfl⟩ := HoldsT.bool (d := d) Try.underlying4 g1
    obtain ⟨a2, rfl, h2⟩ := HoldsT.int (d := d) Try.underlying3 g2
    obtain ⟨a3, rfl, h3⟩ := HoldsT.int (d := d) Try.underlying3 g3
    obtain ⟨a4, rfl, h4⟩ := HoldsT.int (d := d) Try.underlying3 g4
    obtain ⟨a5, rfl, h5⟩ := HoldsT.int (d := d) Try.underlying3 g5
    exact ⟨⟨a0, a1, a2, a3, a4, a5⟩, rfl, i64w_of h0, i64w_of h2, i64w_of h3, i64w_of h4, i64w_of h5⟩
theorem vals_neq (a : Va) (W : World) : (binOp .neq 23 (.agg #[.int .i64 a.tab, .bool a.push, .int .i64 a.str, .int .i64 a.win, .int .i64 a.frm, .int .i64 a.lst]) (.agg #[.int .i64 a.tab, .bool a.push, .int .i64 a.str, .int .i64 a.win, .int .i64 a.frm, .int .i64 a.lst])).run Try.prog W = .ok (.bool false) W := by
  rw [run_neq_struct, run_equalIn_agg _ _ _ _ _ (by kernel_rfl) (by kernel_rfl)]
  simp [Program.fieldsOf, Try.underlying23, Op.eqFields, go_sem]
theorem vals_eql (a : Va) (W : World) : (binOp .eql 23 (.agg #[.int .i64 a.tab, .bool a.push, .int .i64 a.str, .int .i64 a.win, .int .i64 a.frm, .int .i64 a.lst]) (.agg #[.int .i64 a.tab, .bool a.push, .int .i64 a.str, .int .i64 a.win, .int .i64 a.frm, .int .i64 a.lst])).run Try.prog W = .ok (.bool true) W := by
  rw [run_eql_struct, run_equalIn_agg _ _ _ _ _ (by kernel_rfl) (by kernel_rfl)]
  simp [Program.fieldsOf, Try.underlying23, Op.eqFields, go_sem]
theorem flt_neq (a : Ga) (W : World) : (binOp .neq 29 (.agg #[.bool a.is, .int .u32 a.code, .int .i64 0]) (.agg #[.bool a.is, .int .u32 a.code, .int .i64 0])).run Try.prog W = .ok (.bool false) W := by
  rw [run_neq_struct, run_equalIn_agg _ _ _ _ _ (by kernel_rfl) (by kernel_rfl)]
  simp [Program.fieldsOf, Try.underlying29, Op.eqFields, go_sem]
theorem flt_eql (a : Ga) (W : World) : (binOp .eql 29 (.agg #[.bool a.is, .int .u32 a.code, .int .i64 0]) (.agg #[.bool a.is, .int .u32 a.code, .int .i64 0])).run Try.prog W = .ok (.bool true) W := by
  rw [run_eql_struct, run_equalIn_agg _ _ _ _ _ (by kernel_rfl) (by kernel_rfl)]
  simp [Program.fieldsOf, Try.underlying29, Op.eqFields, go_sem]
theorem sett_neq (a : Int) (v : Int) (W : World) : (binOp .neq 35 (.agg #[.int .i64 a, .int .u32 v]) (.agg #[.int .i64 a, .int .u32 v])).run Try.prog W = .ok (.bool false) W := by
  rw [run_neq_struct, run_equalIn_agg _ _ _ _ _ (by kernel_rfl) (by kernel_rfl)]
  simp [Program.fieldsOf, Try.underlying35, Op.eqFields, go_sem]
section
open Go.ChangeShapes Go.WideShapes Go.ChangeAt
theorem opened_values {H : Type} {enc : TypeId × Value → H} {W : World} {base : Nat} {v : Value} {x : DataW H} {ps : List MemPlace} (hv : Value.okWide Try.prog W .any base 23 v)
    (h : DataW.Trod enc Try.prog W 0 (fun _ => true) true 23 v x ps) (hw : ∀ n ∈ x.weights Try.prog 23, n ≤ reachBytes) : ∃ a : Va, v = (.agg #[.int .i64 a.tab, .bool a.push, .int .i64 a.str, .int .i64 a.win, .int .i64 a.frm, .int .i64 a.lst]) := by
  obtain ⟨cs, rfl, _⟩ := okWide_struct Try.underlying23 hv
  obtain ⟨fuel, hf⟩ := h
  obtain ⟨a, ha, _⟩ := values_arg (d := 3) (holdsT_of_trod 5 (by simpa [Value.cells] using hf) hw)
  refine ⟨a, ?_⟩
  have : cs = cs.toList.toArray := by simp
  rw [this, ha]
theorem opened_sett {H : Type} {enc : TypeId × Value → H} {W : World} {base : Nat} {v : Value} {x : DataW H} {ps : List MemPlace} (hv : Value.okWide Try.prog W .any base 35 v)
    (h : DataW.Trod enc Try.prog W 0 (fun _ => true) true 35 v x ps) (hw : ∀ n ∈ x.weights Try.prog 35, n ≤ reachBytes) : ∃ (a : Int) (n : Nat), v = .agg #[.int .i64 a, .int .u32 (n : Int)] ∧ n < 4294967296 := by
  obtain ⟨cs, rfl, _⟩ := okWide_struct Try.underlying35 hv
  obtain ⟨fuel, hf⟩ := h
  obtain ⟨⟨a, n⟩, ha, _, hn⟩ := set_cells (d := 3) (holdsT_of_trod 5 (by simpa [Value.cells] using hf) hw)
  refine ⟨a, n, ?_, hn⟩
  have : cs = cs.toList.toArray := by simp
  rw [this, ha]
  rfl
theorem opened_setts {H : Type} {enc : TypeId × Value → H} {W : World} {base : Nat} {v : Value} {x : DataW H} {ps : List MemPlace} (hv : Value.okWide Try.prog W .any base 24 v)
    (h : DataW.Trod enc Try.prog W 0 (fun _ => true) true 24 v x ps) (hw : ∀ n ∈ x.weights Try.prog 24, n ≤ reachBytes) :
    ∃ (A : Option Addr) (n c : Nat) (l : List (Int × Nat)), v = .slice A n c ∧ (Rd W 2 A n (scells l) ∧ (∀ s ∈ l, setOk s) ∧ l.length = n ∧ n ≤ c ∧ c ≤ 140737488351232) := by
  obtain ⟨A, n, c, rfl, hs⟩ := opened_slice 9 Try.underlying24 hv h hw
  obtain ⟨l, hl⟩ := setts_arg (d := 6) hs
  exact ⟨A, n, c, l, rfl, hl⟩
end
theorem u32_nat {n : Int} (h : (Lit.int .u32 n).wf = true) : ∃ m : Nat, n = (m : Int) ∧ m < 4294967296 := by
  have := u32_of' h
  exact ⟨n.toNat, by omega, by omega⟩
end Go.Proofs.Ythdikinpociiaaa
