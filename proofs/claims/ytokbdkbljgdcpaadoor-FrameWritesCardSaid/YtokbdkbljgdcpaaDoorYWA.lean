/- Several texts in one: Shape, LwU, LwS, LwV. -/
import Derived.Test.YtokbdkbljgdcpaaDoorY1
import Derived.Test.YtokbdkbljgdcpaaDoorY2
import Derived.Test.YtokbdkbljgdcpaaDoorY3
import Derived.Laws.StructEq
import Derived.Test.YtokbdkbljgdcpaaDoorY11
import Derived.Deep.DeepCutAuto
/- What a reading of an argument says of its cells, by the program's own types: a slice of slices, of structs .. in one word. No condition; nothing of the program. -/
namespace Go.Own
open Go.RowKit Go.ChangeShapes Go.WideShapes Go.ChangeAt

/-- the cells cs read as a value of type t, d levels down -/
def HoldsT (P : Program) (W : World) : Nat → TypeId → List Value → Prop
  | 0, _, _ => True
  | d + 1, t, cs => match P.underlying t with
    | some (.int k) => ∃ n, cs = [.int k n] ∧ (Lit.int k n).wf = true
    | some .bool => ∃ b, cs = [.bool b]
    | some .string => ∃ s : ByteArray, cs = [.string s] ∧ s.size ≤ 140737488351232
    | some (.slice e) => ∃ (A : Option Addr) (len cap : Nat) (vs : List Value), cs = [.slice A len cap] ∧ len ≤ cap ∧ cap ≤ 9223372036854775807 ∧ cap * P.bytesOf e ≤ 140737488351232 ∧ (0 < P.cellsOf e → Rd W (P.cellsOf e) A len vs) ∧
        ∀ i, i < len → HoldsT P W d e ((vs.drop (i * P.cellsOf e)).take (P.cellsOf e))
    | some (.struct fs) => cs.length = P.cellsOf t ∧ ∀ (i : Nat) (f : Field), fs[i]? = some f → HoldsT P W d f.type ((cs.drop f.offset).take (P.cellsOf f.type))
    | _ => True

theorem weightsAll_mem {H : Type} {P : Program} {e : TypeId} : ∀ {l : List (DataW H)} {d : DataW H}, d ∈ l → ∀ n ∈ d.weights P e, n ∈ DataW.weightsAll P e l
  | x :: r, d, h, n, hn => by
    simp only [DataW.weightsAll, List.mem_append]
    rcases List.mem_cons.1 h with rfl | h
    · exact .inl hn
    · exact .inr (weightsAll_mem h n hn)
theorem add_add (a : Addr) (i j : Nat) : (a.add i).add j = a.add (i + j) := by
  unfold Addr.add
  by_cases hi : i = 0 <;> by_cases hj : j = 0 <;> simp [hi, hj, Nat.add_assoc]
theorem mapM_get {α β : Type} {f : α → Option β} : ∀ {l : List α} {r : List β}, l.mapM f = some r → r.length = l.length ∧ ∀ (i : Nat) (x : α), l[i]? = some x → f x = r[i]?
  | [], r, h => by
    simp at h
    subst h
    simp
  | a :: l, r, h => by
    simp only [List.mapM_cons, Option.pure_def, Option.bind_eq_bind, Option.bind_eq_some_iff, Option.some.injEq] at h
    obtain ⟨b, hb, r', hr, rfl⟩ := h
    obtain ⟨h1, h2⟩ := mapM_get hr
    refine ⟨by simp [h1], fun i x hi => ?_⟩
    cases i with
    | zero => simp at hi; subst hi; simpa using hb
    | succ i => simpa using h2 i x (by simpa using hi)
theorem cells_get {w : World} {a : Addr} {n : Nat} {l : List Value} (h : w.cells? 0 a n = some l) : l.length = n ∧ ∀ j, j < n → w.cell? (a.add j) = l[j]? := by
  simp only [World.cells?, Nat.zero_le, if_true] at h
  obtain ⟨h1, h2⟩ := mapM_get h
  exact ⟨by simpa using h1, fun j hj => h2 j j (by simp [hj])⟩

theorem rd_of_parts {W : World} {a : Addr} {c len : Nat} (hc : 0 < c) (part : Nat → List Value) (h : ∀ i, i < len → W.cells? 0 (a.add (i * c)) c = some (part i)) :
    ∃ vs, Rd W c (some a) len vs ∧ ∀ i, i < len → (vs.drop (i * c)).take c = part i := by
  have hp : ∀ i, i < len → (part i).length = c := fun i hi => (cells_get (h i hi)).1
  have key : ∀ m, m ≤ len → ∃ vs : List Value, vs.length = m * c ∧ (∀ i, i < m → (vs.drop (i * c)).take c = part i) ∧ ∀ j u, vs[j]? = some u → W.cell? (a.add j) = some u := by
    intro m
    induction m with
    | zero => intro _; exact ⟨[], by simp, fun i hi => by omega, fun j u hu => by simp at hu⟩
    | succ m ih =>
      intro hm
      obtain ⟨vs, h1, h2, h3⟩ := ih (by omega)
      have hlen := hp m (by omega)
      refine ⟨vs ++ part m, by rw [List.length_append, h1, hlen, Nat.succ_mul], fun i hi => ?_, fun j u hu => ?_⟩
      · rcases Nat.lt_or_ge i m with hlt | hge
        · have hb : i * c + c ≤ vs.length := by rw [h1, ← Nat.succ_mul]; exact Nat.mul_le_mul_right _ hlt
          rw [List.drop_append_of_le_length (by omega), List.take_append_of_le_length (by rw [List.length_drop]; omega)]
          exact h2 i hlt
        · obtain rfl : i = m := by omega
          rw [List.drop_append, List.drop_of_length_le (by omega), h1, Nat.sub_self, List.drop_zero, List.nil_append, List.take_of_length_le (by omega)]
      · rcases Nat.lt_or_ge j vs.length with hlt | hge
        · rw [List.getElem?_append_left hlt] at hu
          exact h3 j u hu
        · rw [List.getElem?_append_right hge] at hu
          have hj : j - vs.length < c := by
            rcases Nat.lt_or_ge (j - vs.length) c with hx | hx
            · exact hx
            · rw [List.getElem?_eq_none (by omega)] at hu; cases hu
          have := (cells_get (h m (by omega))).2 (j - vs.length) hj
          rw [add_add, hu] at this
          rw [← this]
          congr 2
          omega
  obtain ⟨vs, h1, h2, h3⟩ := key len (Nat.le_refl _)
  refine ⟨vs, ⟨h1, fun hn => ?_⟩, h2⟩
  have hl0 : 0 < vs.length := by rw [h1]; exact Nat.mul_pos hn hc
  have h0 := h3 0 vs[0] (List.getElem?_eq_getElem hl0)
  obtain ⟨b, o, spot⟩ := a
  have hspot : spot = none := by simpa [Addr.add] using World.cell?_spot h0
  subst hspot
  exact ⟨b, o, rfl, fun j u hu => by have := h3 j u hu; rwa [add_plain] at this⟩

theorem holdsT_of_trod {H : Type} {enc : TypeId × Value → H} {P : Program} {W : World} : ∀ (d : Nat) {t : TypeId} {cs : List Value} {fuel : Nat} {x : DataW H × List MemPlace},
    DataW.trod enc P W 0 (fun _ => true) true fuel t cs = some x → (∀ n ∈ x.1.weights P t, n ≤ reachBytes) → HoldsT P W d t cs
  | 0, _, _, _, _, _, _ => trivial
  | d + 1, t, cs, fuel, x, h, hw => by
    unfold HoldsT
    split
    · rename_i k ht
      obtain ⟨n, rfl, _, hn⟩ := DataW.trod_int ht h
      exact ⟨n, rfl, hn⟩
    · rename_i ht
      obtain ⟨b, rfl, _⟩ := DataW.trod_bool ht h
      exact ⟨b, rfl⟩
    · rename_i ht
      obtain ⟨s, rfl, rfl, hs⟩ := DataW.trod_string ht h
      refine ⟨s, rfl, ?_⟩
      have := hw s.data.toList.length (by simp [DataW.weights])
      simp only [reachBytes] at this
      have e : s.data.toList.length = s.size := by rw [Array.length_toList]; rfl
      omega
    · rename_i e ht
      rcases DataW.trod_slice ht h with ⟨rfl, rfl⟩ | ⟨a, len, cap, elems, rest, n, rfl, rfl, rfl, _, hl, hm, hel, hparts, hrest, _⟩
      · exact ⟨none, 0, 0, [], rfl, Nat.le_refl _, by omega, by omega, fun _ => Rd.nil _ _ _, fun i hi => by omega⟩
      · obtain ⟨hr1, _⟩ := hrest rfl
        have hsz := hw ((elems.length + rest.length) * P.bytesOf e) (by simp [DataW.weights, ht])
        simp only [reachBytes] at hsz
        have hcap : elems.length + rest.length = cap := by omega
        rw [hcap] at hsz
        have hpart : ∀ i, i < len → ∃ p y, W.cells? 0 (a.add (i * P.cellsOf e)) (P.cellsOf e) = some p ∧ elems[i]? = some y ∧ DataW.trod enc P W 0 (fun _ => true) true n e p = some y := by
          intro i hi
          have hy : elems[i]? = some elems[i] := List.getElem?_eq_getElem (by omega)
          have := hparts i hi
          rw [hy, Option.bind_eq_some_iff] at this
          obtain ⟨p, hp, hd⟩ := this
          exact ⟨p, _, hp, hy, hd⟩
        let part : Nat → List Value := fun i => (W.cells? 0 (a.add (i * P.cellsOf e)) (P.cellsOf e)).getD []
        have hp : ∀ i, i < len → W.cells? 0 (a.add (i * P.cellsOf e)) (P.cellsOf e) = some (part i) := fun i hi => by
          obtain ⟨p, _, hp, _⟩ := hpart i hi
          simp only [part, hp, Option.getD_some]
        have each : ∀ i, i < len → HoldsT P W d e (part i) := fun i hi => by
          obtain ⟨p, y, hp', hy, hd⟩ := hpart i hi
          have hpe : part i = p := by simp only [part, hp', Option.getD_some]
          rw [hpe]
          refine holdsT_of_trod d hd (fun m hm' => hw m ?_)
          simp only [DataW.weights, ht, List.mem_cons, List.mem_append]
          exact .inr (.inl (weightsAll_mem (List.mem_map.2 ⟨y, List.mem_of_getElem? hy, rfl⟩) m hm'))
        rcases Nat.eq_zero_or_pos (P.cellsOf e) with hc | hc
        · refine ⟨some a, len, cap, [], rfl, hl, by unfold maxLen at hm; omega, hsz, fun h => by omega, fun i hi => ?_⟩
          have := each i hi
          have hl0 := (cells_get (hp i hi)).1
          have e0 : part i = [] := List.eq_nil_of_length_eq_zero (by omega)
          rw [e0] at this
          simpa [hc] using this
        · obtain ⟨vs, hrd, hvs⟩ := rd_of_parts hc part hp
          exact ⟨some a, len, cap, vs, rfl, hl, by unfold maxLen at hm; omega, hsz, fun _ => hrd, fun i hi => by rw [hvs i hi]; exact each i hi⟩
    · rename_i fs ht
      obtain ⟨xs, n, rfl, rfl, hlen, hxs, hf⟩ := DataW.trod_struct ht h
      refine ⟨hlen, fun i f hif => ?_⟩
      have hi : i < fs.size := (Array.getElem?_eq_some_iff.1 hif).1
      have hx : xs[i]? = some xs[i] := List.getElem?_eq_getElem (by omega)
      have hd := hf i f hif
      rw [hx] at hd
      refine holdsT_of_trod d hd (fun m hm => hw m ?_)
      simp only [DataW.weights, ht]
      exact DataW.weights_mem_each (j := i) (t := f.type) (d := xs[i].1) (by simp [List.getElem?_map, hif]) (by simp [hx]) m hm
    · trivial

section
variable {P : Program} {W : World} {d : Nat} {t e : TypeId}
theorem weights_of {H : Type} {ts : List TypeId} {ds : List (DataW H)} (h : (DataW.weightsEach P ts ds).all (· ≤ reachBytes) = true) {j : Nat} {x : DataW H} (ht : ts[j]? = some t) (hd : ds[j]? = some x) : ∀ n ∈ x.weights P t, n ≤ reachBytes := fun n hn => by
  have := List.all_eq_true.1 h _ (DataW.weights_mem_each ht hd n hn)
  simpa using this
/-- an argument that is a slice -/
theorem opened_slice {H : Type} {enc : TypeId × Value → H} {base : Nat} {v : Value} {x : DataW H} {ps : List MemPlace} (dep : Nat) (ht : P.underlying t = some (.slice e)) (hv : Value.okWide P W .any base t v)
    (h : DataW.Trod enc P W 0 (fun _ => true) true t v x ps) (hw : ∀ n ∈ x.weights P t, n ≤ reachBytes) : ∃ A len cap, v = .slice A len cap ∧ HoldsT P W dep t [.slice A len cap] := by
  obtain ⟨A, len, cap, rfl⟩ := okWide_slice ht hv
  obtain ⟨fuel, hf⟩ := h
  exact ⟨A, len, cap, rfl, holdsT_of_trod dep (by simpa [Value.cells] using hf) hw⟩
theorem HoldsT.slice {A : Option Addr} {len cap : Nat} (ht : P.underlying t = some (.slice e)) (h : HoldsT P W (d + 1) t [.slice A len cap]) :
    len ≤ cap ∧ cap ≤ 9223372036854775807 ∧ cap * P.bytesOf e ≤ 140737488351232 ∧ ∃ vs, (0 < P.cellsOf e → Rd W (P.cellsOf e) A len vs) ∧ ∀ i, i < len → HoldsT P W d e ((vs.drop (i * P.cellsOf e)).take (P.cellsOf e)) := by
  unfold HoldsT at h
  rw [ht] at h
  obtain ⟨A', len', cap', vs, e1, h1, h2, h3, h4, h5⟩ := h
  simp only [List.cons.injEq, Value.slice.injEq, and_true] at e1
  obtain ⟨rfl, rfl, rfl⟩ := e1
  exact ⟨h1, h2, h3, vs, h4, h5⟩
/-- one element of one cell -/
theorem HoldsT.at_ {A : Option Addr} {len cap k : Nat} (ht : P.underlying t = some (.slice e)) (hc : P.cellsOf e = 1) (h : HoldsT P W (d + 1) t [.slice A len cap]) (hk : k < len) :
    ∃ b o v, A = some ⟨b, o, none⟩ ∧ W.cell? ⟨b, o + k, none⟩ = some v ∧ HoldsT P W d e [v] := by
  obtain ⟨_, _, _, vs, hr, hv⟩ := h.slice ht
  rw [hc] at hr
  obtain ⟨b, o, u, hA, hu, hcell⟩ := (hr (by omega)).at_ hk
  refine ⟨b, o, u, hA, hcell, ?_⟩
  have := hv k hk
  rw [hc, Nat.mul_one] at this
  have hlt : k < vs.length := by
    rcases Nat.lt_or_ge k vs.length with hx | hx
    · exact hx
    · rw [List.getElem?_eq_none hx] at hu; cases hu
  rw [List.drop_eq_getElem_cons hlt, List.take_succ_cons, List.take_zero] at this
  rw [List.getElem?_eq_getElem hlt] at hu
  cases hu
  exact this
theorem HoldsT.int {k : IntKind} {v : Value} (ht : P.underlying t = some (.int k)) (h : HoldsT P W (d + 1) t [v]) : ∃ n, v = .int k n ∧ (Lit.int k n).wf = true := by
  unfold HoldsT at h
  rw [ht] at h
  obtain ⟨n, e1, hn⟩ := h
  exact ⟨n, by simpa using e1, hn⟩
theorem HoldsT.bool {v : Value} (ht : P.underlying t = some .bool) (h : HoldsT P W (d + 1) t [v]) : ∃ b, v = .bool b := by
  unfold HoldsT at h
  rw [ht] at h
  obtain ⟨n, e1⟩ := h
  exact ⟨n, by simpa using e1⟩
theorem HoldsT.string {v : Value} (ht : P.underlying t = some .string) (h : HoldsT P W (d + 1) t [v]) : ∃ s : ByteArray, v = .string s ∧ s.size ≤ 140737488351232 := by
  unfold HoldsT at h
  rw [ht] at h
  obtain ⟨n, e1, hn⟩ := h
  exact ⟨n, by simpa using e1, hn⟩
theorem HoldsT.isSlice {v : Value} (ht : P.underlying t = some (.slice e)) (h : HoldsT P W (d + 1) t [v]) : ∃ A len cap, v = .slice A len cap := by
  unfold HoldsT at h
  rw [ht] at h
  obtain ⟨A, len, cap, _, e1, _⟩ := h
  exact ⟨A, len, cap, by simpa using e1⟩
/-- a slice of bytes -/
theorem HoldsT.bytes {A : Option Addr} {len cap : Nat} (ht : P.underlying t = some (.slice e)) (he : P.underlying e = some (.int .u8)) (hc : P.cellsOf e = 1) (h : HoldsT P W (d + 2) t [.slice A len cap]) :
    ∃ xs : List UInt8, Rd W 1 A len (xs.map BV) := by
  obtain ⟨_, _, _, vs, hr, hv⟩ := HoldsT.slice (d := d + 1) ht h
  rw [hc] at hr hv
  have hrd := hr (by omega)
  have hl : vs.length = len := by simpa using hrd.1
  have each : ∀ v ∈ vs, ∃ n, v = .int .u8 n ∧ (Lit.int .u8 n).wf = true := by
    intro v hm
    obtain ⟨i, hi, rfl⟩ := List.getElem_of_mem hm
    have := hv i (by omega)
    rw [Nat.mul_one, List.drop_eq_getElem_cons hi, List.take_succ_cons, List.take_zero] at this
    exact HoldsT.int he this
  have hb : ∀ (l : List Value), (∀ v ∈ l, ∃ n, v = .int .u8 n ∧ (Lit.int .u8 n).wf = true) → ∃ xs : List UInt8, l = xs.map BV := by
    intro l
    induction l with
    | nil => intro _; exact ⟨[], rfl⟩
    | cons v l ih =>
      intro hall
      obtain ⟨xs, rfl⟩ := ih (fun u hu => hall u (List.mem_cons_of_mem _ hu))
      obtain ⟨n, rfl, hn⟩ := hall v List.mem_cons_self
      refine ⟨UInt8.ofNat n.toNat :: xs, ?_⟩
      have hbd : 0 ≤ n ∧ n ≤ 255 := by simpa [Lit.wf, IntKind.min, IntKind.max, IntKind.signed, IntKind.bits] using hn
      rw [List.map_cons]
      congr 1
      simp only [BV]
      congr 1
      simp
      omega
  obtain ⟨xs, rfl⟩ := hb vs each
  exact ⟨xs, hrd⟩
end
end Go.Own

/- A frame that is handed in, by its type. -/
namespace Go.Proofs.YtokbdkbljgdcpaaDoor
open Go.RowKit Go.Own Go.Frm
set_option linter.unusedVariables false
set_option maxRecDepth 100000
theorem HoldsT.flds {P : Program} {W : World} {d : Nat} {t : TypeId} {cs : List Value} {fs : Array Field} (ht : P.underlying t = some (.struct fs)) (h : HoldsT P W (d + 1) t cs) : cs.length = P.cellsOf t ∧ ∀ (i : Nat) (f : Field), fs[i]? = some f → HoldsT P W d f.type ((cs.drop f.offset).take (P.cellsOf f.type)) := by
  unfold HoldsT at h
  rw [ht] at h
  exact h
theorem fld1 {P : Program} {W : World} {d : Nat} {cs : List Value} {fs : Array Field} (h : ∀ (i : Nat) (f : Field), fs[i]? = some f → HoldsT P W d f.type ((cs.drop f.offset).take (P.cellsOf f.type))) (i : Nat) (t : TypeId) (o : Nat) (hf : (fs[i]?).map (fun f => (f.type, f.offset)) = some (t, o)) (hc : P.cellsOf t = 1) : HoldsT P W d t ((cs.drop o).take 1) := by
  cases hfi : fs[i]? with
  | none => rw [hfi] at hf; cases hf
  | some f =>
    rw [hfi] at hf
    simp only [Option.map_some, Option.some.injEq, Prod.mk.injEq] at hf
    obtain ⟨h1, h2⟩ := hf
    have := h i f hfi
    rw [h1, h2, hc] at this
    exact this
theorem c_int : Tryd.prog.cellsOf 3 = 1 := by kernel_rfl
theorem c_bool : Tryd.prog.cellsOf 4 = 1 := by kernel_rfl
theorem c_bytes : Tryd.prog.cellsOf 22 = 1 := by kernel_rfl
theorem c_code : Tryd.prog.cellsOf 24 = 1 := by kernel_rfl
theorem c_setts : Tryd.prog.cellsOf 25 = 1 := by kernel_rfl
theorem c_u32 : Tryd.prog.cellsOf 23 = 1 := by kernel_rfl
theorem c_set : Tryd.prog.cellsOf 50 = 2 := by kernel_rfl
theorem c_frame : Tryd.prog.cellsOf 27 = 16 := by kernel_rfl
def setOk (s : Int × Nat) : Prop := (-9223372036854775808 ≤ s.1 ∧ s.1 ≤ 9223372036854775807) ∧ s.2 < 4294967296
theorem u32_of' {n : Int} (h : (Lit.int .u32 n).wf = true) : 0 ≤ n ∧ n ≤ 4294967295 := by
  simpa [Lit.wf, IntKind.min, IntKind.max, IntKind.signed, IntKind.bits] using h
theorem set_cells {W : World} {d : Nat} {cs : List Value} (h : HoldsT Tryd.prog W (d + 2) 50 cs) : ∃ s, cs = scell s ∧ setOk s := by
  obtain ⟨hl, hf⟩ := HoldsT.flds Tryd.underlying50 h
  rw [c_set] at hl
  have g0 := fld1 hf 0 3 0 rfl c_int
  have g1 := fld1 hf 1 23 1 rfl c_u32
  match cs, hl with
  | [c0, c1], _ =>
    obtain ⟨a, rfl, ha⟩ := HoldsT.int (d := d) Tryd.underlying3 g0
    obtain ⟨b, rfl, hb⟩ := HoldsT.int (d := d) Tryd.underlying23 g1
    have hb2 := u32_of' hb
    refine ⟨(a, b.toNat), ?_, i64_of ha, by show b.toNat < 4294967296; omega⟩
    unfold scell
    rw [Int.toNat_of_nonneg hb2.1]
theorem sets_of : ∀ (n : Nat) (vs : List Value), vs.length = n * 2 → (∀ i, i < n → ∃ s, (vs.drop (i * 2)).take 2 = scell s ∧ setOk s) → ∃ l : List (Int × Nat), vs = scells l ∧ ∀ s ∈ l, setOk s
  | 0, vs, h, _ => ⟨[], by have := List.eq_nil_of_length_eq_zero (l := vs) (by omega); rw [this]; rfl, fun s hs => by cases hs⟩
  | n + 1, vs, h, hp => by
    obtain ⟨s, hs, ok⟩ := hp 0 (by omega)
    obtain ⟨l, hl, hall⟩ := sets_of n (vs.drop 2) (by rw [List.length_drop]; omega) (fun i hi => by
      obtain ⟨s', h1, h2⟩ := hp (i + 1) (by omega)
      refine ⟨s', ?_, h2⟩
      rw [List.drop_drop, show 2 + i * 2 = (i + 1) * 2 by omega]
      exact h1)
    refine ⟨s :: l, ?_, fun x hx => by rcases List.mem_cons.1 hx with rfl | hx; exact ok; exact hall x hx⟩
    have e : scells (s :: l) = scell s ++ scells l := by simp [scells]
    rw [e, ← hl, ← hs]
    simp
theorem setts_arg {W : World} {d : Nat} {A : Option Addr} {n c : Nat} (h : HoldsT Tryd.prog W (d + 3) 25 [.slice A n c]) : ∃ l : List (Int × Nat), Rd W 2 A n (scells l) ∧ (∀ s ∈ l, setOk s) ∧ l.length = n ∧ n ≤ c ∧ c ≤ 140737488351232 := by
  obtain ⟨h1, h2, h3, vs, hr, hv⟩ := HoldsT.slice (d := d + 2) Tryd.underlying25 h
  rw [c_set] at hr hv
  have hrd := hr (by omega)
  obtain ⟨l, rfl, hall⟩ := sets_of n vs hrd.1 (fun i hi => set_cells (hv i hi))
  have hb : Tryd.prog.bytesOf 50 = 16 := by kernel_rfl
  rw [hb] at h3
  exact ⟨l, hrd, hall, rd_set_len hrd, h1, by omega⟩
/-- what is known of a frame that is handed in -/
structure FrArg (W : World) (cs : List Value) (f : Fm) (P : Option Addr) (pc : Nat) (B : Option Addr) (lc : Nat) : Prop where
  hcs : cs = frC f (.slice P f.pay.length pc) (.slice B f.list.length lc)
  pay : Rd W 1 P f.pay.length (f.pay.map BV)
  list : Rd W 2 B f.list.length (scells f.list)
  hpc : f.pay.length ≤ pc
  hpc2 : pc ≤ 140737488351232
  hlc : f.list.length ≤ lc
  hlc2 : lc ≤ 140737488351232
  ok : okF f
  kind : -9223372036854775808 ≤ f.kind ∧ f.kind ≤ 9223372036854775807
theorem frame_arg {W : World} {d : Nat} {cs : List Value} (h : HoldsT Tryd.prog W (d + 4) 27 cs) : ∃ f P pc B lc, FrArg W cs f P pc B lc := by
  obtain ⟨hl, hf⟩ := HoldsT.flds (d := d + 3) Tryd.underlying27 h
  rw [c_frame] at hl
  have g0 := fld1 hf 0 3 0 rfl c_int
  have g1 := fld1 hf 1 3 1 rfl c_int
  have g2 := fld1 hf 2 4 2 rfl c_bool
  have g3 := fld1 hf 3 4 3 rfl c_bool
  have g4 := fld1 hf 4 4 4 rfl c_bool
  have g5 := fld1 hf 5 4 5 rfl c_bool
  have g6 := fld1 hf 6 22 6 rfl c_bytes
  have g7 := fld1 hf 7 3 7 rfl c_int
  have g8 := fld1 hf 8 3 8 rfl c_int
  have g9 := fld1 hf 9 3 9 rfl c_int
  have g10 := fld1 hf 10 4 10 rfl c_bool
  have g11 := fld1 hf 11 3 11 rfl c_int
  have g12 := fld1 hf 12 24 12 rfl c_code
  have g13 := fld1 hf 13 25 13 rfl c_setts
  have g14 := fld1 hf 14 3 14 rfl c_int
  have g15 := fld1 hf 15 3 15 rfl c_int
  match cs, hl with
  | [c0, c1, c2, c3, c4, c5, c6, c7, c8, c9, c10, c11, c12, c13, c14, c15], _ =>
    obtain ⟨a0, rfl, h0⟩ := HoldsT.int (d := d + 2) Tryd.underlying3 g0
    obtain ⟨a1, rfl, h1⟩ := HoldsT.int (d := d + 2) Tryd.underlying3 g1
    obtain ⟨a2, rfl⟩ := HoldsT.bool (d := d + 2) Tryd.underlying4 g2
    obtain ⟨a3, rfl⟩ := HoldsT.bool (d := d + 2) Tryd.underlying4 g3
    obtain ⟨a4, rfl⟩ := HoldsT.bool (d := d + 2) Tryd.underlying4 g4
    obtain ⟨a5, rfl⟩ := HoldsT.bool (d := d + 2) Tryd.underlying4 g5
    obtain ⟨P, np, pc, rfl⟩ := HoldsT.isSlice (d := d + 2) Tryd.underlying22 g6
    obtain ⟨a7, rfl, h7⟩ := HoldsT.int (d := d + 2) Tryd.underlying3 g7
    obtain ⟨a8, rfl, h8⟩ := HoldsT.int (d := d + 2) Tryd.underlying3 g8
    obtain ⟨a9, rfl, h9⟩ := HoldsT.int (d := d + 2) Tryd.underlying3 g9
    obtain ⟨a10, rfl⟩ := HoldsT.bool (d := d + 2) Tryd.underlying4 g10
    obtain ⟨a11, rfl, h11⟩ := HoldsT.int (d := d + 2) Tryd.underlying3 g11
    obtain ⟨a12, rfl, h12⟩ := HoldsT.int (d := d + 2) Tryd.underlying24 g12
    obtain ⟨B, nl, lc, rfl⟩ := HoldsT.isSlice (d := d + 2) Tryd.underlying25 g13
    obtain ⟨a14, rfl, h14⟩ := HoldsT.int (d := d + 2) Tryd.underlying3 g14
    obtain ⟨a15, rfl, h15⟩ := HoldsT.int (d := d + 2) Tryd.underlying3 g15
    have hc := u32_of' h12
    obtain ⟨xs, hr⟩ := HoldsT.bytes (d := d + 1) Tryd.underlying22 Tryd.underlying5 (by kernel_rfl) g6
    obtain ⟨p1, p2, p3, _⟩ := HoldsT.slice (d := d + 2) Tryd.underlying22 g6
    have hb : Tryd.prog.bytesOf 5 = 1 := by kernel_rfl
    rw [hb] at p3
    have hxl : xs.length = np := by simpa using hr.1
    obtain ⟨l, hrl, hall, hll, l1, l2⟩ := setts_arg (d := d) g13
    subst hxl hll
    refine ⟨⟨a0, a1, a2, a3, a4, a5, xs, a7, a8, a9, a10, a11, a12.toNat, l, a14, a15⟩, P, pc, B, lc, ⟨?_, hr, hrl, p1, by omega, l1, l2, ⟨by show a12.toNat < 4294967296; omega, fun s hs => (hall s hs).2⟩, i64_of h0⟩⟩
    show _ = [_, _, _, _, _, _, _, _, _, _, _, _, _, _, _, _]
    simp only [Int.toNat_of_nonneg hc.1]
end Go.Proofs.YtokbdkbljgdcpaaDoor

/- Same: two frames that are the same. -/
namespace Go.Proofs.YtokbdkbljgdcpaaDoor
open Go.RowKit Go.Own Go.Frm
set_option linter.unusedVariables false
set_option maxRecDepth 100000
theorem set_neq (a : Int) (v : Int) (W : World) : (binOp .neq 50 (.agg #[.int .i64 a, .int .u32 v]) (.agg #[.int .i64 a, .int .u32 v])).run Tryd.prog W = .ok (.bool false) W := by
  rw [run_neq_struct, run_equalIn_agg _ _ _ _ _ (by kernel_rfl) (by kernel_rfl)]
  simp [Program.fieldsOf, Tryd.underlying50, Op.eqFields, go_sem]
set_option maxHeartbeats 4000000 in
theorem same_c (f : Fm) {w : World} {A B A' B' : Option Addr} {np nl c d c' d' : Nat} (hp : Rd w 1 A np (f.pay.map BV)) (hl : Rd w 2 B nl (scells f.list)) (hp' : Rd w 1 A' np (f.pay.map BV)) (hl' : Rd w 2 B' nl (scells f.list)) (hnl : nl ≤ 9223372036854775807) :
    Calls Tryd.prog 16 #[.agg #[.int .i64 f.kind, .int .i64 f.stream, .bool f.fin, .bool f.eh, .bool f.ack, .bool f.prio, .slice A np c, .int .i64 f.flags, .int .i64 f.pad, .int .i64 f.depend, .bool f.excl, .int .i64 f.weight, .int .u32 (f.code : Int), .slice B nl d, .int .i64 f.last, .int .i64 f.inc], .agg #[.int .i64 f.kind, .int .i64 f.stream, .bool f.fin, .bool f.eh, .bool f.ack, .bool f.prio, .slice A' np c', .int .i64 f.flags, .int .i64 f.pad, .int .i64 f.depend, .bool f.excl, .int .i64 f.weight, .int .u32 (f.code : Int), .slice B' nl d', .int .i64 f.last, .int .i64 f.inc]] w fun e w' => e = .returned (.bool true) ∧ Below w.heap.size w w' := by
  have hll := rd_set_len hl
  have b2 : Below w.heap.size w ((w.alloc (.cells #[.int .i64 f.kind, .int .i64 f.stream, .bool f.fin, .bool f.eh, .bool f.ack, .bool f.prio, .slice A np c, .int .i64 f.flags, .int .i64 f.pad, .int .i64 f.depend, .bool f.excl, .int .i64 f.weight, .int .u32 (f.code : Int), .slice B nl d, .int .i64 f.last, .int .i64 f.inc] 27)).alloc (.cells #[.int .i64 f.kind, .int .i64 f.stream, .bool f.fin, .bool f.eh, .bool f.ack, .bool f.prio, .slice A' np c', .int .i64 f.flags, .int .i64 f.pad, .int .i64 f.depend, .bool f.excl, .int .i64 f.weight, .int .u32 (f.code : Int), .slice B' nl d', .int .i64 f.last, .int .i64 f.inc] 27)) := ((Below.refl _ w).alloc (Nat.le_refl _) _).alloc (by simp) _
  have cv1 := run_conv_bytes (c := c) (src := 22) (dst := 9) Tryd.underlying22 Tryd.underlying5 Tryd.underlying9 (hp.below b2)
  have cv2 := run_conv_bytes (c := c') (src := 22) (dst := 9) Tryd.underlying22 Tryd.underlying5 Tryd.underlying9 (hp'.below b2)
  have B2 := Lib.hid b2
  have HL := Lib.hid hl
  have HL' := Lib.hid hl'
  have HLL := Lib.hid hll
  clear hp hl hp' hl' hll b2
  go_enter Tryd.func16, Tryd.ntmps16
  go_wp2
  go_loopg [5] nl (fun gh i w' => ∃ j k : Nat, gh + j = nl ∧ i = .int .i64 (j : Int) ∧ w' = ((w.alloc (.cells #[.int .i64 f.kind, .int .i64 f.stream, .bool f.fin, .bool f.eh, .bool f.ack, .bool f.prio, .slice A np c, .int .i64 f.flags, .int .i64 f.pad, .int .i64 f.depend, .bool f.excl, .int .i64 f.weight, .int .u32 (f.code : Int), .slice B nl d, .int .i64 f.last, .int .i64 f.inc] 27)).alloc (.cells #[.int .i64 f.kind, .int .i64 f.stream, .bool f.fin, .bool f.eh, .bool f.ack, .bool f.prio, .slice A' np c', .int .i64 f.flags, .int .i64 f.pad, .int .i64 f.depend, .bool f.excl, .int .i64 f.weight, .int .u32 (f.code : Int), .slice B' nl d', .int .i64 f.last, .int .i64 f.inc] 27)).drewN k)
  case atStart => exact ⟨0, 0, by omega, rfl, rfl⟩
  case round =>
    obtain ⟨j, k, hj, rfl, rfl⟩ := hrel
    cases gk with
    | succ g1 =>
      have k1 : (j : Int) < (nl : Int) := by omega
      have hjl : j < f.list.length := by rw [HLL.out]; omega
      have hat : f.list[j]? = some f.list[j] := List.getElem?_eq_getElem hjl
      obtain ⟨⟨s1, s2⟩, hs⟩ : ∃ s, f.list[j] = s := ⟨_, rfl⟩
      rw [hs] at hat
      obtain ⟨b, o, rfl, c0, c1⟩ := rd_set HL.out hat
      obtain ⟨b', o', rfl, c0', c1'⟩ := rd_set HL'.out hat
      have e0 := (B2.out.cell (World.block_lt_of_cell? _ _ c0)).trans c0
      have e1 := (B2.out.cell (World.block_lt_of_cell? _ _ c1)).trans c1
      have e0' := (B2.out.cell (World.block_lt_of_cell? _ _ c0')).trans c0'
      have e1' := (B2.out.cell (World.block_lt_of_cell? _ _ c1')).trans c1'
      have neq := fun W => set_neq s1 (s2 : Int) W
      have HJ := Lib.hid hj
      clear hat hs c0 c1 c0' c1' hj
      go_wp2
      go_quiet (fail)
      go_wp2
      go_roundg g1
      case measure => omega
      case rel => exact ⟨j + 1, _, by have := HJ.out; omega, by go_num, rfl⟩
    | zero =>
      obtain rfl : j = nl := by omega
      go_wp2
      go_ret
      exact ⟨rfl, below_drewN B2.out k⟩
end Go.Proofs.YtokbdkbljgdcpaaDoor

/- small: a frame of which no more is taken than the law looks at. -/
namespace Go.Proofs.YtokbdkbljgdcpaaDoor
open Go.RowKit Go.Own Go.Frm
set_option linter.unusedVariables false
set_option maxRecDepth 100000
def smF (f : Fm) : Fm := { f with pay := f.pay.take 3000, list := f.list.take 500 }
theorem own_lit0 (w : World) (e : TypeId) (size : Nat) : (w.alloc (.cells #[] e)).ownsRow w.heap.size e size (.slice (some ⟨w.heap.size, 0, none⟩) 0 0) 0 [] := by
  have h := own_of_blk (n := 0) (size := size) (cap := 0) (Blk.new w e []) (by simp) (Nat.le_refl _) (by unfold maxLen; omega)
  rw [List.take_nil] at h
  refine ⟨h.1, ?_⟩
  rcases h.2 with hn | ⟨g, cap, cur, hv, hb, rest⟩
  · exact .inl hn
  · refine .inr ⟨g, cap, cur, hv, ?_, rest⟩
    cases hv
    exact Nat.le_refl _
theorem scells_take (l : List (Int × Nat)) (k : Nat) : (scells l).take (min l.length k * 2) = scells (l.take k) := by
  induction l generalizing k with
  | nil => simp [scells]
  | cons a l ih =>
    cases k with
    | zero => simp [scells]
    | succ k =>
      have e : scells (a :: l) = scell a ++ scells l := by simp [scells]
      have e2 : scells ((a :: l).take (k + 1)) = scell a ++ scells (l.take k) := by simp [scells]
      have e1 : (scell a).length = 2 := rfl
      rw [e, e2, ← ih k, List.take_append, e1, List.take_of_length_le (by rw [e1]; simp; omega)]
      congr 2
      simp
      omega
theorem b3_size' (w : World) (o1 o2 : Obj) : ((w.alloc o1).alloc o2).heap.size = w.heap.size + 1 + 1 := by simp
def SmallQ (w : World) (f : Fm) (e : Ending) (w' : World) : Prop := ∃ A ca B cb, e = .returned (.agg #[.int .i64 f.kind, .int .i64 f.stream, .bool f.fin, .bool f.eh, .bool f.ack, .bool f.prio, .slice A f.pay.length ca, .int .i64 f.flags, .int .i64 f.pad, .int .i64 f.depend, .bool f.excl, .int .i64 f.weight, .int .u32 (f.code : Int), .slice B f.list.length cb, .int .i64 f.last, .int .i64 f.inc]) ∧ FrOwn w' w.heap.size f (.slice A f.pay.length ca) (.slice B f.list.length cb) ∧ Below w.heap.size w w'
set_option maxHeartbeats 4000000 in
theorem small_w (f : Fm) {w : World} {P B : Option Addr} {np pc nl lc : Nat} (hp : Rd w 1 P np (f.pay.map BV)) (hpc : np ≤ pc) (hpc2 : pc ≤ 9223372036854775807) (hl : Rd w 2 B nl (scells f.list)) (hlc : nl ≤ lc) (hlc2 : lc ≤ 9223372036854775807) :
    Calls Tryd.prog 13 #[.agg #[.int .i64 f.kind, .int .i64 f.stream, .bool f.fin, .bool f.eh, .bool f.ack, .bool f.prio, .slice P np pc, .int .i64 f.flags, .int .i64 f.pad, .int .i64 f.depend, .bool f.excl, .int .i64 f.weight, .int .u32 (f.code : Int), .slice B nl lc, .int .i64 f.last, .int .i64 f.inc]] w (SmallQ w (smF f)) := by
  obtain ⟨n, hn⟩ : ∃ n, min np 3000 = n := ⟨_, rfl⟩
  obtain ⟨m, hm⟩ : ∃ m, min nl 500 = m := ⟨_, rfl⟩
  have i1 : (if (np : Int) < 3000 then (np : Int) else 3000) = (n : Int) := by split <;> omega
  have i2 : (if (3000 : Int) < (np : Int) then (3000 : Int) else (np : Int)) = (n : Int) := by split <;> omega
  have i3 : (if np < 3000 then (np : Int) else 3000) = (n : Int) := by split <;> omega
  have i4 : (if 3000 < np then (3000 : Int) else (np : Int)) = (n : Int) := by split <;> omega
  have i5 : (if (np : Int) ≤ 3000 then (np : Int) else 3000) = (n : Int) := by split <;> omega
  have i6 : (if np ≤ 3000 then (np : Int) else 3000) = (n : Int) := by split <;> omega
  have j1 : (if (nl : Int) < 500 then (nl : Int) else 500) = (m : Int) := by split <;> omega
  have j2 : (if (500 : Int) < (nl : Int) then (500 : Int) else (nl : Int)) = (m : Int) := by split <;> omega
  have j3 : (if nl < 500 then (nl : Int) else 500) = (m : Int) := by split <;> omega
  have j4 : (if 500 < nl then (500 : Int) else (nl : Int)) = (m : Int) := by split <;> omega
  have j5 : (if (nl : Int) ≤ 500 then (nl : Int) else 500) = (m : Int) := by split <;> omega
  have j6 : (if nl ≤ 500 then (nl : Int) else 500) = (m : Int) := by split <;> omega
  have hn1 : n ≤ np := by omega
  have hn2 : n ≤ pc := by omega
  have hn3 : n ≤ 3000 := by omega
  have hm1 : m ≤ nl := by omega
  have hm2 : m ≤ lc := by omega
  have hm3 : m ≤ 500 := by omega
  have hnp : f.pay.length = np := by simpa using hp.1
  have hnl : f.list.length = nl := rd_set_len hl
  have hp2 := hp.take (k := n) hn1
  rw [Nat.mul_one, ← List.map_take] at hp2
  have hl2 := hl.take (k := m) hm1
  have ep : f.pay.take n = (smF f).pay := by
    show f.pay.take n = f.pay.take 3000
    rw [← hn, ← hnp, List.take_eq_take_iff]; omega
  have el : (scells f.list).take (m * 2) = scells (smF f).list := by
    show _ = scells (f.list.take 500)
    rw [← hm, ← hnl]
    exact scells_take f.list 500
  rw [ep] at hp2
  rw [el] at hl2
  have lp : (smF f).pay.length = n := by show (f.pay.take 3000).length = n; rw [List.length_take]; omega
  have ll : (smF f).list.length = m := by show (f.list.take 500).length = m; rw [List.length_take]; omega
  have bA : Below w.heap.size w ((w.alloc (.cells #[.int .i64 f.kind, .int .i64 f.stream, .bool f.fin, .bool f.eh, .bool f.ack, .bool f.prio, .slice P np pc, .int .i64 f.flags, .int .i64 f.pad, .int .i64 f.depend, .bool f.excl, .int .i64 f.weight, .int .u32 (f.code : Int), .slice B nl lc, .int .i64 f.last, .int .i64 f.inc] 27)).alloc (.cells #[.int .i64 0, .int .i64 0, .bool false, .bool false, .bool false, .bool false, .slice none 0 0, .int .i64 0, .int .i64 0, .int .i64 0, .bool false, .int .i64 0, .int .u32 0, .slice none 0 0, .int .i64 0, .int .i64 0] 27)) := ((Below.refl _ w).alloc (Nat.le_refl _) _).alloc (by simp) _
  have sA : ((w.alloc (.cells #[.int .i64 f.kind, .int .i64 f.stream, .bool f.fin, .bool f.eh, .bool f.ack, .bool f.prio, .slice P np pc, .int .i64 f.flags, .int .i64 f.pad, .int .i64 f.depend, .bool f.excl, .int .i64 f.weight, .int .u32 (f.code : Int), .slice B nl lc, .int .i64 f.last, .int .i64 f.inc] 27)).alloc (.cells #[.int .i64 0, .int .i64 0, .bool false, .bool false, .bool false, .bool false, .slice none 0 0, .int .i64 0, .int .i64 0, .int .i64 0, .bool false, .int .i64 0, .int .u32 0, .slice none 0 0, .int .i64 0, .int .i64 0] 27)).heap.size = w.heap.size + 1 + 1 := b3_size' w _ _
  have bB : Below w.heap.size w (((w.alloc (.cells #[.int .i64 f.kind, .int .i64 f.stream, .bool f.fin, .bool f.eh, .bool f.ack, .bool f.prio, .slice P np pc, .int .i64 f.flags, .int .i64 f.pad, .int .i64 f.depend, .bool f.excl, .int .i64 f.weight, .int .u32 (f.code : Int), .slice B nl lc, .int .i64 f.last, .int .i64 f.inc] 27)).alloc (.cells #[.int .i64 0, .int .i64 0, .bool false, .bool false, .bool false, .bool false, .slice none 0 0, .int .i64 0, .int .i64 0, .int .i64 0, .bool false, .int .i64 0, .int .u32 0, .slice none 0 0, .int .i64 0, .int .i64 0] 27)).alloc (.cells #[] 5)) := bA.alloc (by rw [sA]; omega) _
  have O1 : Hid ((((w.alloc (.cells #[.int .i64 f.kind, .int .i64 f.stream, .bool f.fin, .bool f.eh, .bool f.ack, .bool f.prio, .slice P np pc, .int .i64 f.flags, .int .i64 f.pad, .int .i64 f.depend, .bool f.excl, .int .i64 f.weight, .int .u32 (f.code : Int), .slice B nl lc, .int .i64 f.last, .int .i64 f.inc] 27)).alloc (.cells #[.int .i64 0, .int .i64 0, .bool false, .bool false, .bool false, .bool false, .slice none 0 0, .int .i64 0, .int .i64 0, .int .i64 0, .bool false, .int .i64 0, .int .u32 0, .slice none 0 0, .int .i64 0, .int .i64 0] 27)).alloc (.cells #[] 5)).ownsRow (w.heap.size + 1 + 1) 5 1 (.slice (some ⟨w.heap.size + 1 + 1, 0, none⟩) 0 0) 0 []) := by
    have h := own_lit0 ((w.alloc (.cells #[.int .i64 f.kind, .int .i64 f.stream, .bool f.fin, .bool f.eh, .bool f.ack, .bool f.prio, .slice P np pc, .int .i64 f.flags, .int .i64 f.pad, .int .i64 f.depend, .bool f.excl, .int .i64 f.weight, .int .u32 (f.code : Int), .slice B nl lc, .int .i64 f.last, .int .i64 f.inc] 27)).alloc (.cells #[.int .i64 0, .int .i64 0, .bool false, .bool false, .bool false, .bool false, .slice none 0 0, .int .i64 0, .int .i64 0, .int .i64 0, .bool false, .int .i64 0, .int .u32 0, .slice none 0 0, .int .i64 0, .int .i64 0] 27)) 5 1
    rw [sA] at h
    exact h
  have R1 : Hid (Rd (((w.alloc (.cells #[.int .i64 f.kind, .int .i64 f.stream, .bool f.fin, .bool f.eh, .bool f.ack, .bool f.prio, .slice P np pc, .int .i64 f.flags, .int .i64 f.pad, .int .i64 f.depend, .bool f.excl, .int .i64 f.weight, .int .u32 (f.code : Int), .slice B nl lc, .int .i64 f.last, .int .i64 f.inc] 27)).alloc (.cells #[.int .i64 0, .int .i64 0, .bool false, .bool false, .bool false, .bool false, .slice none 0 0, .int .i64 0, .int .i64 0, .int .i64 0, .bool false, .int .i64 0, .int .u32 0, .slice none 0 0, .int .i64 0, .int .i64 0] 27)).alloc (.cells #[] 5)) 1 P n ((smF f).pay.map BV)) := hp2.below bB
  have K1 : Hid (Blk (((w.alloc (.cells #[.int .i64 f.kind, .int .i64 f.stream, .bool f.fin, .bool f.eh, .bool f.ack, .bool f.prio, .slice P np pc, .int .i64 f.flags, .int .i64 f.pad, .int .i64 f.depend, .bool f.excl, .int .i64 f.weight, .int .u32 (f.code : Int), .slice B nl lc, .int .i64 f.last, .int .i64 f.inc] 27)).alloc (.cells #[.int .i64 0, .int .i64 0, .bool false, .bool false, .bool false, .bool false, .slice none 0 0, .int .i64 0, .int .i64 0, .int .i64 0, .bool false, .int .i64 0, .int .u32 0, .slice none 0 0, .int .i64 0, .int .i64 0] 27)).alloc (.cells #[] 5)) w.heap.size 27 [.int .i64 f.kind, .int .i64 f.stream, .bool f.fin, .bool f.eh, .bool f.ack, .bool f.prio, .slice P np pc, .int .i64 f.flags, .int .i64 f.pad, .int .i64 f.depend, .bool f.excl, .int .i64 f.weight, .int .u32 (f.code : Int), .slice B nl lc, .int .i64 f.last, .int .i64 f.inc]) := ((Blk.new w 27 [.int .i64 f.kind, .int .i64 f.stream, .bool f.fin, .bool f.eh, .bool f.ack, .bool f.prio, .slice P np pc, .int .i64 f.flags, .int .i64 f.pad, .int .i64 f.depend, .bool f.excl, .int .i64 f.weight, .int .u32 (f.code : Int), .slice B nl lc, .int .i64 f.last, .int .i64 f.inc]).alloc _).alloc _
  have K2 : Hid (Blk (((w.alloc (.cells #[.int .i64 f.kind, .int .i64 f.stream, .bool f.fin, .bool f.eh, .bool f.ack, .bool f.prio, .slice P np pc, .int .i64 f.flags, .int .i64 f.pad, .int .i64 f.depend, .bool f.excl, .int .i64 f.weight, .int .u32 (f.code : Int), .slice B nl lc, .int .i64 f.last, .int .i64 f.inc] 27)).alloc (.cells #[.int .i64 0, .int .i64 0, .bool false, .bool false, .bool false, .bool false, .slice none 0 0, .int .i64 0, .int .i64 0, .int .i64 0, .bool false, .int .i64 0, .int .u32 0, .slice none 0 0, .int .i64 0, .int .i64 0] 27)).alloc (.cells #[] 5)) (w.heap.size + 1) 27 [.int .i64 0, .int .i64 0, .bool false, .bool false, .bool false, .bool false, .slice none 0 0, .int .i64 0, .int .i64 0, .int .i64 0, .bool false, .int .i64 0, .int .u32 0, .slice none 0 0, .int .i64 0, .int .i64 0]) := by
    have h : Blk ((w.alloc (.cells #[.int .i64 f.kind, .int .i64 f.stream, .bool f.fin, .bool f.eh, .bool f.ack, .bool f.prio, .slice P np pc, .int .i64 f.flags, .int .i64 f.pad, .int .i64 f.depend, .bool f.excl, .int .i64 f.weight, .int .u32 (f.code : Int), .slice B nl lc, .int .i64 f.last, .int .i64 f.inc] 27)).alloc (.cells #[.int .i64 0, .int .i64 0, .bool false, .bool false, .bool false, .bool false, .slice none 0 0, .int .i64 0, .int .i64 0, .int .i64 0, .bool false, .int .i64 0, .int .u32 0, .slice none 0 0, .int .i64 0, .int .i64 0] 27)) (w.alloc (.cells #[.int .i64 f.kind, .int .i64 f.stream, .bool f.fin, .bool f.eh, .bool f.ack, .bool f.prio, .slice P np pc, .int .i64 f.flags, .int .i64 f.pad, .int .i64 f.depend, .bool f.excl, .int .i64 f.weight, .int .u32 (f.code : Int), .slice B nl lc, .int .i64 f.last, .int .i64 f.inc] 27)).heap.size 27 [.int .i64 0, .int .i64 0, .bool false, .bool false, .bool false, .bool false, .slice none 0 0, .int .i64 0, .int .i64 0, .int .i64 0, .bool false, .int .i64 0, .int .u32 0, .slice none 0 0, .int .i64 0, .int .i64 0] := Blk.new _ _ _
    have e : (w.alloc (.cells #[.int .i64 f.kind, .int .i64 f.stream, .bool f.fin, .bool f.eh, .bool f.ack, .bool f.prio, .slice P np pc, .int .i64 f.flags, .int .i64 f.pad, .int .i64 f.depend, .bool f.excl, .int .i64 f.weight, .int .u32 (f.code : Int), .slice B nl lc, .int .i64 f.last, .int .i64 f.inc] 27)).heap.size = w.heap.size + 1 := by simp
    rw [e] at h
    exact h.alloc _
  have hs1 : Hid (w.heap.size + 1 + 1 ≤ (((w.alloc (.cells #[.int .i64 f.kind, .int .i64 f.stream, .bool f.fin, .bool f.eh, .bool f.ack, .bool f.prio, .slice P np pc, .int .i64 f.flags, .int .i64 f.pad, .int .i64 f.depend, .bool f.excl, .int .i64 f.weight, .int .u32 (f.code : Int), .slice B nl lc, .int .i64 f.last, .int .i64 f.inc] 27)).alloc (.cells #[.int .i64 0, .int .i64 0, .bool false, .bool false, .bool false, .bool false, .slice none 0 0, .int .i64 0, .int .i64 0, .int .i64 0, .bool false, .int .i64 0, .int .u32 0, .slice none 0 0, .int .i64 0, .int .i64 0] 27)).alloc (.cells #[] 5)).heap.size) := by show w.heap.size + 1 + 1 ≤ _; rw [← sA]; simp
  have BB := Lib.hid bB
  have LP := Lib.hid lp
  have LL := Lib.hid ll
  have RL := Lib.hid hl2
  clear hp hl hp2 hl2 ep el lp ll bA bB sA hn hm hnp hnl
  go_enter Tryd.func13, Tryd.ntmps13
  go_upto_region 3 with (first
    | (at_builtin
       refine wpList_append_rd rfl (.tmp 3) (.tmp 10) 22 rfl EB (.slice (some ⟨w.heap.size + 1 + 1, 0, none⟩) 0 0) 0 [] rfl O1.out P n pc ((smF f).pay.map BV) rfl R1.out (BV_one _) (by omega) (by unfold maxLen; omega) hs1.out ?_
       intro A6 c6 w6 ho6 hf6 h26
       simp only [Nat.zero_add, List.nil_append] at ho6
       have hne : ∀ i, i ≤ w.heap.size + 1 → ¬ some i = (Value.slice (some ⟨w.heap.size + 1 + 1, 0, none⟩) 0 0).ownBlock := fun i hi e => by have e2 : some i = some (w.heap.size + 1 + 1) := e; injection e2 with e3; omega
       have k1 := K1.out.fr hf6 (hne _ (by omega))
       have k2 := K2.out.fr hf6 (hne _ (by omega))
       have b6 : Below w.heap.size w w6 := BB.out.trans (hf6.below (Nat.le_trans (by omega) hs1.out) (fun i _ e => by have e2 : some i = some (w.heap.size + 1 + 1) := e; injection e2 with e3; omega))
       have f6 := Fr.setCell (S := (· = w.heap.size)) (Fr.refl (· = w.heap.size) w6) (p := ⟨w.heap.size, 6, none⟩) (.inl rfl) (.slice A6 n c6)
       have hlt6 : w.heap.size + 1 + 1 ≤ w6.heap.size := Nat.le_trans hs1.out hf6.size
       have B6 : Hid (Below w.heap.size w ((w6.setCell ⟨w.heap.size, 6, none⟩ (.slice A6 n c6)).alloc (.cells #[] 50))) := (b6.trans (f6.below b6.size (fun i _ e => by omega))).alloc (by simp; omega) _
       have e6 : (w6.setCell ⟨w.heap.size, 6, none⟩ (.slice A6 n c6)).heap.size = w6.heap.size := by simp
       have O2 : Hid (((w6.setCell ⟨w.heap.size, 6, none⟩ (.slice A6 n c6)).alloc (.cells #[] 50)).ownsRow w6.heap.size 50 2 (.slice (some ⟨w6.heap.size, 0, none⟩) 0 0) 0 []) := by
         have h := own_lit0 (w6.setCell ⟨w.heap.size, 6, none⟩ (.slice A6 n c6)) 50 2
         rw [e6] at h
         exact h
       have R2 : Hid (Rd ((w6.setCell ⟨w.heap.size, 6, none⟩ (.slice A6 n c6)).alloc (.cells #[] 50)) 2 B m (scells (smF f).list)) := RL.out.below B6.out
       have P2 : Hid (((w6.setCell ⟨w.heap.size, 6, none⟩ (.slice A6 n c6)).alloc (.cells #[] 50)).ownsRow (w.heap.size + 1 + 1) 5 1 (.slice A6 n c6) n ((smF f).pay.map BV)) := own_fr (S := fun _ => False) (own_fr ho6 f6 (fun g hg e => by have := (ho6.lt g hg).1; omega)) ((Fr.refl _ _).alloc _) (fun _ _ h => h)
       have K3 : Hid (Blk ((w6.setCell ⟨w.heap.size, 6, none⟩ (.slice A6 n c6)).alloc (.cells #[] 50)) w.heap.size 27 [.int .i64 f.kind, .int .i64 f.stream, .bool f.fin, .bool f.eh, .bool f.ack, .bool f.prio, .slice A6 n c6, .int .i64 f.flags, .int .i64 f.pad, .int .i64 f.depend, .bool f.excl, .int .i64 f.weight, .int .u32 (f.code : Int), .slice B nl lc, .int .i64 f.last, .int .i64 f.inc]) := (k1.set_ 6 (.slice A6 n c6)).alloc _
       have K4 : Hid (Blk ((w6.setCell ⟨w.heap.size, 6, none⟩ (.slice A6 n c6)).alloc (.cells #[] 50)) (w.heap.size + 1) 27 [.int .i64 0, .int .i64 0, .bool false, .bool false, .bool false, .bool false, .slice none 0 0, .int .i64 0, .int .i64 0, .int .i64 0, .bool false, .int .i64 0, .int .u32 0, .slice none 0 0, .int .i64 0, .int .i64 0]) := (k2.fr f6 (fun e => by omega)).alloc _
       have hs2 : Hid (w6.heap.size ≤ ((w6.setCell ⟨w.heap.size, 6, none⟩ (.slice A6 n c6)).alloc (.cells #[] 50)).heap.size) := by show w6.heap.size ≤ _; simp
       have H6 := Lib.hid hlt6
       have HPB : Hid (∀ g, (Value.slice A6 n c6).ownBlock = some g → w.heap.size + 1 + 1 ≤ g ∧ g < w6.heap.size) := fun g hg => ho6.lt g hg
       have z6 := k1.cell 6
       have z13 := k1.cell 13
       have y6 := k1.frozen 6
       have l6 := k1.lt
       simp only [List.getElem?_cons_zero, List.getElem?_cons_succ] at z6 z13
       clear ho6 hf6 h26 hne k1 k2 b6 f6 hlt6 e6)
    | (at_builtin
       refine wpList_append_rd rfl (.tmp 13) (.tmp 20) 25 rfl ES (.slice (some ⟨w6.heap.size, 0, none⟩) 0 0) 0 [] rfl O2.out B m lc (scells (smF f).list) rfl R2.out (scells_one _) (by omega) (by unfold maxLen; omega) hs2.out ?_
       intro A8 c8 w8 ho8 hf8 h28
       simp only [Nat.zero_add, List.nil_append] at ho8
       have own2 : ∀ i, some i = (Value.slice (some ⟨w6.heap.size, 0, none⟩) 0 0).ownBlock → i = w6.heap.size := fun i e => by have e2 : some i = some w6.heap.size := e; injection e2
       have hl6 := H6.out
       have k3 := K3.out.fr hf8 (fun e => by have := own2 _ e; omega)
       have k4 := K4.out.fr hf8 (fun e => by have := own2 _ e; omega)
       have p3 := own_fr P2.out hf8 (fun g hg e => by have := own2 _ e; have := HPB.out g hg; omega)
       have b8 : Below w.heap.size w w8 := B6.out.trans (hf8.below B6.out.size (fun i _ e => by have := own2 _ e; omega))
       have f8 := Fr.setCell (S := (· = w.heap.size)) (Fr.refl (· = w.heap.size) w8) (p := ⟨w.heap.size, 13, none⟩) (.inl rfl) (.slice A8 m c8)
       have K5 : Hid (Blk (w8.setCell ⟨w.heap.size, 13, none⟩ (.slice A8 m c8)) w.heap.size 27 [.int .i64 f.kind, .int .i64 f.stream, .bool f.fin, .bool f.eh, .bool f.ack, .bool f.prio, .slice A6 n c6, .int .i64 f.flags, .int .i64 f.pad, .int .i64 f.depend, .bool f.excl, .int .i64 f.weight, .int .u32 (f.code : Int), .slice A8 m c8, .int .i64 f.last, .int .i64 f.inc]) := k3.set_ 13 (.slice A8 m c8)
       have K6 : Hid (Blk (w8.setCell ⟨w.heap.size, 13, none⟩ (.slice A8 m c8)) (w.heap.size + 1) 27 zero16) := k4.fr f8 (fun e => by omega)
       have P5 : Hid ((w8.setCell ⟨w.heap.size, 13, none⟩ (.slice A8 m c8)).ownsRow (w.heap.size + 1 + 1) 5 1 (.slice A6 n c6) n ((smF f).pay.map BV)) := own_fr p3 f8 (fun g hg e => by have := HPB.out g hg; omega)
       have P6 : Hid ((w8.setCell ⟨w.heap.size, 13, none⟩ (.slice A8 m c8)).ownsRow w6.heap.size 50 2 (.slice A8 m c8) m (scells (smF f).list)) := own_fr ho8 f8 (fun g hg e => by have := (ho8.lt g hg).1; omega)
       have B8 : Hid (Below w.heap.size w (w8.setCell ⟨w.heap.size, 13, none⟩ (.slice A8 m c8))) := b8.trans (f8.below b8.size (fun i _ e => by omega))
       have z13 := k3.cell 13
       have y13 := k3.frozen 13
       have l8 := k3.lt
       simp only [List.getElem?_cons_zero, List.getElem?_cons_succ] at z13
       clear ho8 hf8 h28 own2 hl6 k3 k4 p3 b8 f8))
  generalize (w8.setCell ⟨w.heap.size, 13, none⟩ (.slice A8 m c8)) = w9 at K5 K6 P5 P6 B8 ⊢
  have z0 := K5.out.cell 0
  have z1 := K5.out.cell 1
  have z2 := K5.out.cell 2
  have z3 := K5.out.cell 3
  have z4 := K5.out.cell 4
  have z5 := K5.out.cell 5
  have z6 := K5.out.cell 6
  have z7 := K5.out.cell 7
  have z8 := K5.out.cell 8
  have z9 := K5.out.cell 9
  have z10 := K5.out.cell 10
  have z11 := K5.out.cell 11
  have z12 := K5.out.cell 12
  have z13 := K5.out.cell 13
  have z14 := K5.out.cell 14
  have z15 := K5.out.cell 15
  simp only [List.getElem?_cons_zero, List.getElem?_cons_succ] at z0 z1 z2 z3 z4 z5 z6 z7 z8 z9 z10 z11 z12 z13 z14 z15
  obtain ⟨r0, r1, r2, r3, r4, r5, r6, r7, r8, r9, r10, r11, r12, r13, r14, r15⟩ := cells16 K6.out
  have yf := fun i => K6.out.frozen i
  have l9 := K6.out.lt
  go_wp2
  obtain ⟨S1, S2⟩ := store16 K6.out (.int .i64 f.kind) (.int .i64 f.stream) (.bool f.fin) (.bool f.eh) (.bool f.ack) (.bool f.prio) (.slice A6 n c6) (.int .i64 f.flags) (.int .i64 f.pad) (.int .i64 f.depend) (.bool f.excl) (.int .i64 f.weight) (.int .u32 (f.code : Int)) (.slice A8 m c8) (.int .i64 f.last) (.int .i64 f.inc)
  refine bodyPost_ret (res_frame (p := 2) rfl rfl rfl S1) rfl ⟨A6, c6, A8, c8, ?_, ?_, ?_⟩
  · rw [LP.out, LL.out]; rfl
  · unfold FrOwn
    rw [LP.out, LL.out]
    have hl6 := H6.out
    refine ⟨A6, c6, A8, c8, rfl, rfl, own_lower (own_fr P5.out S2 (fun g hg e => ?_)) (by omega), own_lower (own_fr P6.out S2 (fun g hg e => ?_)) (by omega)⟩
    · have h1 := (P5.out.lt g hg).1
      have e : g = w.heap.size + 1 := e
      omega
    · have h1 := (P6.out.lt g hg).1
      have e : g = w.heap.size + 1 := e
      omega
  · exact B8.out.trans (S2.below B8.out.size (fun i _ e => by have e : i = w.heap.size + 1 := e; omega))
theorem small_c (f : Fm) {w : World} {P B : Option Addr} {np pc nl lc : Nat} (hp : Rd w 1 P np (f.pay.map BV)) (hpc : np ≤ pc) (hpc2 : pc ≤ 140737488351232) (hl : Rd w 2 B nl (scells f.list)) (hlc : nl ≤ lc) (hlc2 : lc ≤ 140737488351232) :
    Calls Tryd.prog 13 #[.agg #[.int .i64 f.kind, .int .i64 f.stream, .bool f.fin, .bool f.eh, .bool f.ack, .bool f.prio, .slice P np pc, .int .i64 f.flags, .int .i64 f.pad, .int .i64 f.depend, .bool f.excl, .int .i64 f.weight, .int .u32 (f.code : Int), .slice B nl lc, .int .i64 f.last, .int .i64 f.inc]] w (SmallQ w (smF f)) :=
  small_w f hp hpc (by omega) hl hlc (by omega)
end Go.Proofs.YtokbdkbljgdcpaaDoor
