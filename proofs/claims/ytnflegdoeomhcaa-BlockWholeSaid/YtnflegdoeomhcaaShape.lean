/- What a reading of an argument says of its cells, by the program's own types: a slice of slices, of structs .. in one word. No condition; nothing of the program. -/
import Derived.Test.YtnflegdoeomhcaaBase
namespace Go.Own
open Go.RowKit Go.ChangeShapes Go.WideShapes Go.ChangeAt

/-- the cells cs read as a value of type t, d levels down -/
def HoldsT (P : Program) (W : World) : Nat → TypeId → List Value → Prop
  | 0, _, _ => True
  | d + 1, t, cs => match P.underlying t with
    | some (.int k) => ∃ n, cs = [.int k n] ∧ (Lit.int k n).wf = true
    | some .bool => ∃ b, cs = [.bool b]
    | some .string => ∃ s : ByteArray, cs = [.string s] ∧ s.size ≤ 140737488351232
    | some (.slice e) => ∃ (A : Option Addr) (len cap : Nat) (vs : List Value), cs = [.slice A len cap] ∧ len ≤ cap ∧ cap ≤ 9223372036854775807 ∧ cap * P.bytesOf e ≤ 140737488351232 ∧ (0 < P.cellsOf e → Rd W (P.cellsOf e) A len vs) ∧
        ∀ i, i < len → HoldsT P W d e ((vs.drop (i * P.cellsOf e)).take (P.cellsOf e))
    | some (.struct fs) => cs.length = P.cellsOf t ∧ ∀ (i : Nat) (f : Field), fs[i]? = some f → HoldsT P W d f.type ((cs.drop f.offset).take (P.cellsOf f.type))
    | _ => True

theorem weightsAll_mem {H : Type} {P : Program} {e : TypeId} : ∀ {l : List (DataW H)} {d : DataW H}, d ∈ l → ∀ n ∈ d.weights P e, n ∈ DataW.weightsAll P e l
  | x :: r, d, h, n, hn => by
    simp only [DataW.weightsAll, List.mem_append]
    rcases List.mem_cons.1 h with rfl | h
    · exact .inl hn
    · exact .inr (weightsAll_mem h n hn)
theorem add_add (a : Addr) (i j : Nat) : (a.add i).add j = a.add (i + j) := by
  unfold Addr.add
  by_cases hi : i = 0 <;> by_cases hj : j = 0 <;> simp [hi, hj, Nat.add_assoc]
theorem mapM_get {α β : Type} {f : α → Option β} : ∀ {l : List α} {r : List β}, l.mapM f = some r → r.length = l.length ∧ ∀ (i : Nat) (x : α), l[i]? = some x → f x = r[i]?
  | [], r, h => by
    simp at h
    subst h
    simp
  | a :: l, r, h => by
    simp only [List.mapM_cons, Option.pure_def, Option.bind_eq_bind, Option.bind_eq_some_iff, Option.some.injEq] at h
    obtain ⟨b, hb, r', hr, rfl⟩ := h
    obtain ⟨h1, h2⟩ := mapM_get hr
    refine ⟨by simp [h1], fun i x hi => ?_⟩
    cases i with
    | zero => simp at hi; subst hi; simpa using hb
    | succ i => simpa using h2 i x (by simpa using hi)
theorem cells_get {w : World} {a : Addr} {n : Nat} {l : List Value} (h : w.cells? 0 a n = some l) : l.length = n ∧ ∀ j, j < n → w.cell? (a.add j) = l[j]? := by
  simp only [World.cells?, Nat.zero_le, if_true] at h
  obtain ⟨h1, h2⟩ := mapM_get h
  exact ⟨by simpa using h1, fun j hj => h2 j j (by simp [hj])⟩

theorem rd_of_parts {W : World} {a : Addr} {c len : Nat} (hc : 0 < c) (part : Nat → List Value) (h : ∀ i, i < len → W.cells? 0 (a.add (i * c)) c = some (part i)) :
    ∃ vs, Rd W c (some a) len vs ∧ ∀ i, i < len → (vs.drop (i * c)).take c = part i := by
  have hp : ∀ i, i < len → (part i).length = c := fun i hi => (cells_get (h i hi)).1
  have key : ∀ m, m ≤ len → ∃ vs : List Value, vs.length = m * c ∧ (∀ i, i < m → (vs.drop (i * c)).take c = part i) ∧ ∀ j u, vs[j]? = some u → W.cell? (a.add j) = some u := by
    intro m
    induction m with
    | zero => intro _; exact ⟨[], by simp, fun i hi => by omega, fun j u hu => by simp at hu⟩
    | succ m ih =>
      intro hm
      obtain ⟨vs, h1, h2, h3⟩ := ih (by omega)
      have hlen := hp m (by omega)
      refine ⟨vs ++ part m, by rw [List.length_append, h1, hlen, Nat.succ_mul], fun i hi => ?_, fun j u hu => ?_⟩
      · rcases Nat.lt_or_ge i m with hlt | hge
        · have hb : i * c + c ≤ vs.length := by rw [h1, ← Nat.succ_mul]; exact Nat.mul_le_mul_right _ hlt
          rw [List.drop_append_of_le_length (by omega), List.take_append_of_le_length (by rw [List.length_drop]; omega)]
          exact h2 i hlt
        · obtain rfl : i = m := by omega
          rw [List.drop_append, List.drop_of_length_le (by omega), h1, Nat.sub_self, List.drop_zero, List.nil_append, List.take_of_length_le (by omega)]
      · rcases Nat.lt_or_ge j vs.length with hlt | hge
        · rw [List.getElem?_append_left hlt] at hu
          exact h3 j u hu
        · rw [List.getElem?_append_right hge] at hu
          have hj : j - vs.length < c := by
            rcases Nat.lt_or_ge (j - vs.length) c with hx | hx
            · exact hx
            · rw [List.getElem?_eq_none (by omega)] at hu; cases hu
          have := (cells_get (h m (by omega))).2 (j - vs.length) hj
          rw [add_add, hu] at this
          rw [← this]
          congr 2
          omega
  obtain ⟨vs, h1, h2, h3⟩ := key len (Nat.le_refl _)
  refine ⟨vs, ⟨h1, fun hn => ?_⟩, h2⟩
  have hl0 : 0 < vs.length := by rw [h1]; exact Nat.mul_pos hn hc
  have h0 := h3 0 vs[0] (List.getElem?_eq_getElem hl0)
  obtain ⟨b, o, spot⟩ := a
  have hspot : spot = none := by simpa [Addr.add] using World.cell?_spot h0
  subst hspot
  exact ⟨b, o, rfl, fun j u hu => by have := h3 j u hu; rwa [add_plain] at this⟩

theorem holdsT_of_trod {H : Type} {enc : TypeId × Value → H} {P : Program} {W : World} : ∀ (d : Nat) {t : TypeId} {cs : List Value} {fuel : Nat} {x : DataW H × List MemPlace},
    DataW.trod enc P W 0 (fun _ => true) true fuel t cs = some x → (∀ n ∈ x.1.weights P t, n ≤ reachBytes) → HoldsT P W d t cs
  | 0, _, _, _, _, _, _ => trivial
  | d + 1, t, cs, fuel, x, h, hw => by
    unfold HoldsT
    split
    · rename_i k ht
      obtain ⟨n, rfl, _, hn⟩ := DataW.trod_int ht h
      exact ⟨n, rfl, hn⟩
    · rename_i ht
      obtain ⟨b, rfl, _⟩ := DataW.trod_bool ht h
      exact ⟨b, rfl⟩
    · rename_i ht
      obtain ⟨s, rfl, rfl, hs⟩ := DataW.trod_string ht h
      refine ⟨s, rfl, ?_⟩
      have := hw s.data.toList.length (by simp [DataW.weights])
      simp only [reachBytes] at this
      have e : s.data.toList.length = s.size := by rw [Array.length_toList]; rfl
      omega
    · rename_i e ht
      rcases DataW.trod_slice ht h with ⟨rfl, rfl⟩ | ⟨a, len, cap, elems, rest, n, rfl, rfl, rfl, _, hl, hm, hel, hparts, hrest, _⟩
      · exact ⟨none, 0, 0, [], rfl, Nat.le_refl _, by omega, by omega, fun _ => Rd.nil _ _ _, fun i hi => by omega⟩
      · obtain ⟨hr1, _⟩ := hrest rfl
        have hsz := hw ((elems.length + rest.length) * P.bytesOf e) (by simp [DataW.weights, ht])
        simp only [reachBytes] at hsz
        have hcap : elems.length + rest.length = cap := by omega
        rw [hcap] at hsz
        have hpart : ∀ i, i < len → ∃ p y, W.cells? 0 (a.add (i * P.cellsOf e)) (P.cellsOf e) = some p ∧ elems[i]? = some y ∧ DataW.trod enc P W 0 (fun _ => true) true n e p = some y := by
          intro i hi
          have hy : elems[i]? = some elems[i] := List.getElem?_eq_getElem (by omega)
          have := hparts i hi
          rw [hy, Option.bind_eq_some_iff] at this
          obtain ⟨p, hp, hd⟩ := this
          exact ⟨p, _, hp, hy, hd⟩
        let part : Nat → List Value := fun i => (W.cells? 0 (a.add (i * P.cellsOf e)) (P.cellsOf e)).getD []
        have hp : ∀ i, i < len → W.cells? 0 (a.add (i * P.cellsOf e)) (P.cellsOf e) = some (part i) := fun i hi => by
          obtain ⟨p, _, hp, _⟩ := hpart i hi
          simp only [part, hp, Option.getD_some]
        have each : ∀ i, i < len → HoldsT P W d e (part i) := fun i hi => by
          obtain ⟨p, y, hp', hy, hd⟩ := hpart i hi
          have hpe : part i = p := by simp only [part, hp', Option.getD_some]
          rw [hpe]
          refine holdsT_of_trod d hd (fun m hm' => hw m ?_)
          simp only [DataW.weights, ht, List.mem_cons, List.mem_append]
          exact .inr (.inl (weightsAll_mem (List.mem_map.2 ⟨y, List.mem_of_getElem? hy, rfl⟩) m hm'))
        rcases Nat.eq_zero_or_pos (P.cellsOf e) with hc | hc
        · refine ⟨some a, len, cap, [], rfl, hl, by unfold maxLen at hm; omega, hsz, fun h => by omega, fun i hi => ?_⟩
          have := each i hi
          have hl0 := (cells_get (hp i hi)).1
          have e0 : part i = [] := List.eq_nil_of_length_eq_zero (by omega)
          rw [e0] at this
          simpa [hc] using this
        · obtain ⟨vs, hrd, hvs⟩ := rd_of_parts hc part hp
          exact ⟨some a, len, cap, vs, rfl, hl, by unfold maxLen at hm; omega, hsz, fun _ => hrd, fun i hi => by rw [hvs i hi]; exact each i hi⟩
    · rename_i fs ht
      obtain ⟨xs, n, rfl, rfl, hlen, hxs, hf⟩ := DataW.trod_struct ht h
      refine ⟨hlen, fun i f hif => ?_⟩
      have hi : i < fs.size := (Array.getElem?_eq_some_iff.1 hif).1
      have hx : xs[i]? = some xs[i] := List.getElem?_eq_getElem (by omega)
      have hd := hf i f hif
      rw [hx] at hd
      refine holdsT_of_trod d hd (fun m hm => hw m ?_)
      simp only [DataW.weights, ht]
      exact DataW.weights_mem_each (j := i) (t := f.type) (d := xs[i].1) (by simp [List.getElem?_map, hif]) (by simp [hx]) m hm
    · trivial

section
variable {P : Program} {W : World} {d : Nat} {t e : TypeId}
theorem weights_of {H : Type} {ts : List TypeId} {ds : List (DataW H)} (h : (DataW.weightsEach P ts ds).all (· ≤ reachBytes) = true) {j : Nat} {x : DataW H} (ht : ts[j]? = some t) (hd : ds[j]? = some x) : ∀ n ∈ x.weights P t, n ≤ reachBytes := fun n hn => by
  have := List.all_eq_true.1 h _ (DataW.weights_mem_each ht hd n hn)
  simpa using this
/-- an argument that is a slice -/
theorem opened_slice {H : Type} {enc : TypeId × Value → H} {base : Nat} {v : Value} {x : DataW H} {ps : List MemPlace} (dep : Nat) (ht : P.underlying t = some (.slice e)) (hv : Value.okWide P W .any base t v)
    (h : DataW.Trod enc P W 0 (fun _ => true) true t v x ps) (hw : ∀ n ∈ x.weights P t, n ≤ reachBytes) : ∃ A len cap, v = .slice A len cap ∧ HoldsT P W dep t [.slice A len cap] := by
  obtain ⟨A, len, cap, rfl⟩ := okWide_slice ht hv
  obtain ⟨fuel, hf⟩ := h
  exact ⟨A, len, cap, rfl, holdsT_of_trod dep (by simpa [Value.cells] using hf) hw⟩
theorem HoldsT.slice {A : Option Addr} {len cap : Nat} (ht : P.underlying t = some (.slice e)) (h : HoldsT P W (d + 1) t [.slice A len cap]) :
    len ≤ cap ∧ cap ≤ 9223372036854775807 ∧ cap * P.bytesOf e ≤ 140737488351232 ∧ ∃ vs, (0 < P.cellsOf e → Rd W (P.cellsOf e) A len vs) ∧ ∀ i, i < len → HoldsT P W d e ((vs.drop (i * P.cellsOf e)).take (P.cellsOf e)) := by
  unfold HoldsT at h
  rw [ht] at h
  obtain ⟨A', len', cap', vs, e1, h1, h2, h3, h4, h5⟩ := h
  simp only [List.cons.injEq, Value.slice.injEq, and_true] at e1
  obtain ⟨rfl, rfl, rfl⟩ := e1
  exact ⟨h1, h2, h3, vs, h4, h5⟩
/-- one element of one cell -/
theorem HoldsT.at_ {A : Option Addr} {len cap k : Nat} (ht : P.underlying t = some (.slice e)) (hc : P.cellsOf e = 1) (h : HoldsT P W (d + 1) t [.slice A len cap]) (hk : k < len) :
    ∃ b o v, A = some ⟨b, o, none⟩ ∧ W.cell? ⟨b, o + k, none⟩ = some v ∧ HoldsT P W d e [v] := by
  obtain ⟨_, _, _, vs, hr, hv⟩ := h.slice ht
  rw [hc] at hr
  obtain ⟨b, o, u, hA, hu, hcell⟩ := (hr (by omega)).at_ hk
  refine ⟨b, o, u, hA, hcell, ?_⟩
  have := hv k hk
  rw [hc, Nat.mul_one] at this
  have hlt : k < vs.length := by
    rcases Nat.lt_or_ge k vs.length with hx | hx
    · exact hx
    · rw [List.getElem?_eq_none hx] at hu; cases hu
  rw [List.drop_eq_getElem_cons hlt, List.take_succ_cons, List.take_zero] at this
  rw [List.getElem?_eq_getElem hlt] at hu
  cases hu
  exact this
theorem HoldsT.int {k : IntKind} {v : Value} (ht : P.underlying t = some (.int k)) (h : HoldsT P W (d + 1) t [v]) : ∃ n, v = .int k n ∧ (Lit.int k n).wf = true := by
  unfold HoldsT at h
  rw [ht] at h
  obtain ⟨n, e1, hn⟩ := h
  exact ⟨n, by simpa using e1, hn⟩
theorem HoldsT.bool {v : Value} (ht : P.underlying t = some .bool) (h : HoldsT P W (d + 1) t [v]) : ∃ b, v = .bool b := by
  unfold HoldsT at h
  rw [ht] at h
  obtain ⟨n, e1⟩ := h
  exact ⟨n, by simpa using e1⟩
theorem HoldsT.string {v : Value} (ht : P.underlying t = some .string) (h : HoldsT P W (d + 1) t [v]) : ∃ s : ByteArray, v = .string s ∧ s.size ≤ 140737488351232 := by
  unfold HoldsT at h
  rw [ht] at h
  obtain ⟨n, e1, hn⟩ := h
  exact ⟨n, by simpa using e1, hn⟩
theorem HoldsT.isSlice {v : Value} (ht : P.underlying t = some (.slice e)) (h : HoldsT P W (d + 1) t [v]) : ∃ A len cap, v = .slice A len cap := by
  unfold HoldsT at h
  rw [ht] at h
  obtain ⟨A, len, cap, _, e1, _⟩ := h
  exact ⟨A, len, cap, by simpa using e1⟩
/-- a slice of bytes -/
theorem HoldsT.bytes {A : Option Addr} {len cap : Nat} (ht : P.underlying t = some (.slice e)) (he : P.underlying e = some (.int .u8)) (hc : P.cellsOf e = 1) (h : HoldsT P W (d + 2) t [.slice A len cap]) :
    ∃ xs : List UInt8, Rd W 1 A len (xs.map BV) := by
  obtain ⟨_, _, _, vs, hr, hv⟩ := HoldsT.slice (d := d + 1) ht h
  rw [hc] at hr hv
  have hrd := hr (by omega)
  have hl : vs.length = len := by simpa using hrd.1
  have each : ∀ v ∈ vs, ∃ n, v = .int .u8 n ∧ (Lit.int .u8 n).wf = true := by
    intro v hm
    obtain ⟨i, hi, rfl⟩ := List.getElem_of_mem hm
    have := hv i (by omega)
    rw [Nat.mul_one, List.drop_eq_getElem_cons hi, List.take_succ_cons, List.take_zero] at this
    exact HoldsT.int he this
  have hb : ∀ (l : List Value), (∀ v ∈ l, ∃ n, v = .int .u8 n ∧ (Lit.int .u8 n).wf = true) → ∃ xs : List UInt8, l = xs.map BV := by
    intro l
    induction l with
    | nil => intro _; exact ⟨[], rfl⟩
    | cons v l ih =>
      intro hall
      obtain ⟨xs, rfl⟩ := ih (fun u hu => hall u (List.mem_cons_of_mem _ hu))
      obtain ⟨n, rfl, hn⟩ := hall v List.mem_cons_self
      refine ⟨UInt8.ofNat n.toNat :: xs, ?_⟩
      have hbd : 0 ≤ n ∧ n ≤ 255 := by simpa [Lit.wf, IntKind.min, IntKind.max, IntKind.signed, IntKind.bits] using hn
      rw [List.map_cons]
      congr 1
      simp only [BV]
      congr 1
      simp
      omega
  obtain ⟨xs, rfl⟩ := hb vs each
  exact ⟨xs, hrd⟩
end
end Go.Own
