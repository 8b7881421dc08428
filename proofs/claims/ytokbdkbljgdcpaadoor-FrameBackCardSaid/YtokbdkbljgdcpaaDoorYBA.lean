/- Several texts in one: Shape, LwF, LwI, FrmU, FrmV, LwN, LwP, LwS. -/
import Derived.Test.YtokbdkbljgdcpaaDoorY1
import Derived.Test.YtokbdkbljgdcpaaDoorY47
import Derived.Test.YtokbdkbljgdcpaaDoorY48
import Derived.Laws.OwnMore
import Derived.Deep.Cut
import Derived.Deep.LoopGhost
import Derived.Test.YtokbdkbljgdcpaaDoorY2
import Derived.Test.YtokbdkbljgdcpaaDoorY3
import Derived.Laws.StructEq
/- What a reading of an argument says of its cells, by the program's own types: a slice of slices, of structs .. in one word. No condition; nothing of the program. -/
namespace Go.Own
open Go.RowKit Go.ChangeShapes Go.WideShapes Go.ChangeAt

/-- the cells cs read as a value of type t, d levels down -/
def HoldsT (P : Program) (W : World) : Nat → TypeId → List Value → Prop
  | 0, _, _ => True
  | d + 1, t, cs => match P.underlying t with
    | some (.int k) => ∃ n, cs = [.int k n] ∧ (Lit.int k n).wf = true
    | some .bool => ∃ b, cs = [.bool b]
    | some .string => ∃ s : ByteArray, cs = [.string s] ∧ s.size ≤ 140737488351232
    | some (.slice e) => ∃ (A : Option Addr) (len cap : Nat) (vs : List Value), cs = [.slice A len cap] ∧ len ≤ cap ∧ cap ≤ 9223372036854775807 ∧ cap * P.bytesOf e ≤ 140737488351232 ∧ (0 < P.cellsOf e → Rd W (P.cellsOf e) A len vs) ∧
        ∀ i, i < len → HoldsT P W d e ((vs.drop (i * P.cellsOf e)).take (P.cellsOf e))
    | some (.struct fs) => cs.length = P.cellsOf t ∧ ∀ (i : Nat) (f : Field), fs[i]? = some f → HoldsT P W d f.type ((cs.drop f.offset).take (P.cellsOf f.type))
    | _ => True

theorem weightsAll_mem {H : Type} {P : Program} {e : TypeId} : ∀ {l : List (DataW H)} {d : DataW H}, d ∈ l → ∀ n ∈ d.weights P e, n ∈ DataW.weightsAll P e l
  | x :: r, d, h, n, hn => by
    simp only [DataW.weightsAll, List.mem_append]
    rcases List.mem_cons.1 h with rfl | h
    · exact .inl hn
    · exact .inr (weightsAll_mem h n hn)
theorem add_add (a : Addr) (i j : Nat) : (a.add i).add j = a.add (i + j) := by
  unfold Addr.add
  by_cases hi : i = 0 <;> by_cases hj : j = 0 <;> simp [hi, hj, Nat.add_assoc]
theorem mapM_get {α β : Type} {f : α → Option β} : ∀ {l : List α} {r : List β}, l.mapM f = some r → r.length = l.length ∧ ∀ (i : Nat) (x : α), l[i]? = some x → f x = r[i]?
  | [], r, h => by
    simp at h
    subst h
    simp
  | a :: l, r, h => by
    simp only [List.mapM_cons, Option.pure_def, Option.bind_eq_bind, Option.bind_eq_some_iff, Option.some.injEq] at h
    obtain ⟨b, hb, r', hr, rfl⟩ := h
    obtain ⟨h1, h2⟩ := mapM_get hr
    refine ⟨by simp [h1], fun i x hi => ?_⟩
    cases i with
    | zero => simp at hi; subst hi; simpa using hb
    | succ i => simpa using h2 i x (by simpa using hi)
theorem cells_get {w : World} {a : Addr} {n : Nat} {l : List Value} (h : w.cells? 0 a n = some l) : l.length = n ∧ ∀ j, j < n → w.cell? (a.add j) = l[j]? := by
  simp only [World.cells?, Nat.zero_le, if_true] at h
  obtain ⟨h1, h2⟩ := mapM_get h
  exact ⟨by simpa using h1, fun j hj => h2 j j (by simp [hj])⟩

theorem rd_of_parts {W : World} {a : Addr} {c len : Nat} (hc : 0 < c) (part : Nat → List Value) (h : ∀ i, i < len → W.cells? 0 (a.add (i * c)) c = some (part i)) :
    ∃ vs, Rd W c (some a) len vs ∧ ∀ i, i < len → (vs.drop (i * c)).take c = part i := by
  have hp : ∀ i, i < len → (part i).length = c := fun i hi => (cells_get (h i hi)).1
  have key : ∀ m, m ≤ len → ∃ vs : List Value, vs.length = m * c ∧ (∀ i, i < m → (vs.drop (i * c)).take c = part i) ∧ ∀ j u, vs[j]? = some u → W.cell? (a.add j) = some u := by
    intro m
    induction m with
    | zero => intro _; exact ⟨[], by simp, fun i hi => by omega, fun j u hu => by simp at hu⟩
    | succ m ih =>
      intro hm
      obtain ⟨vs, h1, h2, h3⟩ := ih (by omega)
      have hlen := hp m (by omega)
      refine ⟨vs ++ part m, by rw [List.length_append, h1, hlen, Nat.succ_mul], fun i hi => ?_, fun j u hu => ?_⟩
      · rcases Nat.lt_or_ge i m with hlt | hge
        · have hb : i * c + c ≤ vs.length := by rw [h1, ← Nat.succ_mul]; exact Nat.mul_le_mul_right _ hlt
          rw [List.drop_append_of_le_length (by omega), List.take_append_of_le_length (by rw [List.length_drop]; omega)]
          exact h2 i hlt
        · obtain rfl : i = m := by omega
          rw [List.drop_append, List.drop_of_length_le (by omega), h1, Nat.sub_self, List.drop_zero, List.nil_append, List.take_of_length_le (by omega)]
      · rcases Nat.lt_or_ge j vs.length with hlt | hge
        · rw [List.getElem?_append_left hlt] at hu
          exact h3 j u hu
        · rw [List.getElem?_append_right hge] at hu
          have hj : j - vs.length < c := by
            rcases Nat.lt_or_ge (j - vs.length) c with hx | hx
            · exact hx
            · rw [List.getElem?_eq_none (by omega)] at hu; cases hu
          have := (cells_get (h m (by omega))).2 (j - vs.length) hj
          rw [add_add, hu] at this
          rw [← this]
          congr 2
          omega
  obtain ⟨vs, h1, h2, h3⟩ := key len (Nat.le_refl _)
  refine ⟨vs, ⟨h1, fun hn => ?_⟩, h2⟩
  have hl0 : 0 < vs.length := by rw [h1]; exact Nat.mul_pos hn hc
  have h0 := h3 0 vs[0] (List.getElem?_eq_getElem hl0)
  obtain ⟨b, o, spot⟩ := a
  have hspot : spot = none := by simpa [Addr.add] using World.cell?_spot h0
  subst hspot
  exact ⟨b, o, rfl, fun j u hu => by have := h3 j u hu; rwa [add_plain] at this⟩

theorem holdsT_of_trod {H : Type} {enc : TypeId × Value → H} {P : Program} {W : World} : ∀ (d : Nat) {t : TypeId} {cs : List Value} {fuel : Nat} {x : DataW H × List MemPlace},
    DataW.trod enc P W 0 (fun _ => true) true fuel t cs = some x → (∀ n ∈ x.1.weights P t, n ≤ reachBytes) → HoldsT P W d t cs
  | 0, _, _, _, _, _, _ => trivial
  | d + 1, t, cs, fuel, x, h, hw => by
    unfold HoldsT
    split
    · rename_i k ht
      obtain ⟨n, rfl, _, hn⟩ := DataW.trod_int ht h
      exact ⟨n, rfl, hn⟩
    · rename_i ht
      obtain ⟨b, rfl, _⟩ := DataW.trod_bool ht h
      exact ⟨b, rfl⟩
    · rename_i ht
      obtain ⟨s, rfl, rfl, hs⟩ := DataW.trod_string ht h
      refine ⟨s, rfl, ?_⟩
      have := hw s.data.toList.length (by simp [DataW.weights])
      simp only [reachBytes] at this
      have e : s.data.toList.length = s.size := by rw [Array.length_toList]; rfl
      omega
    · rename_i e ht
      rcases DataW.trod_slice ht h with ⟨rfl, rfl⟩ | ⟨a, len, cap, elems, rest, n, rfl, rfl, rfl, _, hl, hm, hel, hparts, hrest, _⟩
      · exact ⟨none, 0, 0, [], rfl, Nat.le_refl _, by omega, by omega, fun _ => Rd.nil _ _ _, fun i hi => by omega⟩
      · obtain ⟨hr1, _⟩ := hrest rfl
        have hsz := hw ((elems.length + rest.length) * P.bytesOf e) (by simp [DataW.weights, ht])
        simp only [reachBytes] at hsz
        have hcap : elems.length + rest.length = cap := by omega
        rw [hcap] at hsz
        have hpart : ∀ i, i < len → ∃ p y, W.cells? 0 (a.add (i * P.cellsOf e)) (P.cellsOf e) = some p ∧ elems[i]? = some y ∧ DataW.trod enc P W 0 (fun _ => true) true n e p = some y := by
          intro i hi
          have hy : elems[i]? = some elems[i] := List.getElem?_eq_getElem (by omega)
          have := hparts i hi
          rw [hy, Option.bind_eq_some_iff] at this
          obtain ⟨p, hp, hd⟩ := this
          exact ⟨p, _, hp, hy, hd⟩
        let part : Nat → List Value := fun i => (W.cells? 0 (a.add (i * P.cellsOf e)) (P.cellsOf e)).getD []
        have hp : ∀ i, i < len → W.cells? 0 (a.add (i * P.cellsOf e)) (P.cellsOf e) = some (part i) := fun i hi => by
          obtain ⟨p, _, hp, _⟩ := hpart i hi
          simp only [part, hp, Option.getD_some]
        have each : ∀ i, i < len → HoldsT P W d e (part i) := fun i hi => by
          obtain ⟨p, y, hp', hy, hd⟩ := hpart i hi
          have hpe : part i = p := by simp only [part, hp', Option.getD_some]
          rw [hpe]
          refine holdsT_of_trod d hd (fun m hm' => hw m ?_)
          simp only [DataW.weights, ht, List.mem_cons, List.mem_append]
          exact .inr (.inl (weightsAll_mem (List.mem_map.2 ⟨y, List.mem_of_getElem? hy, rfl⟩) m hm'))
        rcases Nat.eq_zero_or_pos (P.cellsOf e) with hc | hc
        · refine ⟨some a, len, cap, [], rfl, hl, by unfold maxLen at hm; omega, hsz, fun h => by omega, fun i hi => ?_⟩
          have := each i hi
          have hl0 := (cells_get (hp i hi)).1
          have e0 : part i = [] := List.eq_nil_of_length_eq_zero (by omega)
          rw [e0] at this
          simpa [hc] using this
        · obtain ⟨vs, hrd, hvs⟩ := rd_of_parts hc part hp
          exact ⟨some a, len, cap, vs, rfl, hl, by unfold maxLen at hm; omega, hsz, fun _ => hrd, fun i hi => by rw [hvs i hi]; exact each i hi⟩
    · rename_i fs ht
      obtain ⟨xs, n, rfl, rfl, hlen, hxs, hf⟩ := DataW.trod_struct ht h
      refine ⟨hlen, fun i f hif => ?_⟩
      have hi : i < fs.size := (Array.getElem?_eq_some_iff.1 hif).1
      have hx : xs[i]? = some xs[i] := List.getElem?_eq_getElem (by omega)
      have hd := hf i f hif
      rw [hx] at hd
      refine holdsT_of_trod d hd (fun m hm => hw m ?_)
      simp only [DataW.weights, ht]
      exact DataW.weights_mem_each (j := i) (t := f.type) (d := xs[i].1) (by simp [List.getElem?_map, hif]) (by simp [hx]) m hm
    · trivial

section
variable {P : Program} {W : World} {d : Nat} {t e : TypeId}
theorem weights_of {H : Type} {ts : List TypeId} {ds : List (DataW H)} (h : (DataW.weightsEach P ts ds).all (· ≤ reachBytes) = true) {j : Nat} {x : DataW H} (ht : ts[j]? = some t) (hd : ds[j]? = some x) : ∀ n ∈ x.weights P t, n ≤ reachBytes := fun n hn => by
  have := List.all_eq_true.1 h _ (DataW.weights_mem_each ht hd n hn)
  simpa using this
/-- an argument that is a slice -/
theorem opened_slice {H : Type} {enc : TypeId × Value → H} {base : Nat} {v : Value} {x : DataW H} {ps : List MemPlace} (dep : Nat) (ht : P.underlying t = some (.slice e)) (hv : Value.okWide P W .any base t v)
    (h : DataW.Trod enc P W 0 (fun _ => true) true t v x ps) (hw : ∀ n ∈ x.weights P t, n ≤ reachBytes) : ∃ A len cap, v = .slice A len cap ∧ HoldsT P W dep t [.slice A len cap] := by
  obtain ⟨A, len, cap, rfl⟩ := okWide_slice ht hv
  obtain ⟨fuel, hf⟩ := h
  exact ⟨A, len, cap, rfl, holdsT_of_trod dep (by simpa [Value.cells] using hf) hw⟩
theorem HoldsT.slice {A : Option Addr} {len cap : Nat} (ht : P.underlying t = some (.slice e)) (h : HoldsT P W (d + 1) t [.slice A len cap]) :
    len ≤ cap ∧ cap ≤ 9223372036854775807 ∧ cap * P.bytesOf e ≤ 140737488351232 ∧ ∃ vs, (0 < P.cellsOf e → Rd W (P.cellsOf e) A len vs) ∧ ∀ i, i < len → HoldsT P W d e ((vs.drop (i * P.cellsOf e)).take (P.cellsOf e)) := by
  unfold HoldsT at h
  rw [ht] at h
  obtain ⟨A', len', cap', vs, e1, h1, h2, h3, h4, h5⟩ := h
  simp only [List.cons.injEq, Value.slice.injEq, and_true] at e1
  obtain ⟨rfl, rfl, rfl⟩ := e1
  exact ⟨h1, h2, h3, vs, h4, h5⟩
/-- one element of one cell -/
theorem HoldsT.at_ {A : Option Addr} {len cap k : Nat} (ht : P.underlying t = some (.slice e)) (hc : P.cellsOf e = 1) (h : HoldsT P W (d + 1) t [.slice A len cap]) (hk : k < len) :
    ∃ b o v, A = some ⟨b, o, none⟩ ∧ W.cell? ⟨b, o + k, none⟩ = some v ∧ HoldsT P W d e [v] := by
  obtain ⟨_, _, _, vs, hr, hv⟩ := h.slice ht
  rw [hc] at hr
  obtain ⟨b, o, u, hA, hu, hcell⟩ := (hr (by omega)).at_ hk
  refine ⟨b, o, u, hA, hcell, ?_⟩
  have := hv k hk
  rw [hc, Nat.mul_one] at this
  have hlt : k < vs.length := by
    rcases Nat.lt_or_ge k vs.length with hx | hx
    · exact hx
    · rw [List.getElem?_eq_none hx] at hu; cases hu
  rw [List.drop_eq_getElem_cons hlt, List.take_succ_cons, List.take_zero] at this
  rw [List.getElem?_eq_getElem hlt] at hu
  cases hu
  exact this
theorem HoldsT.int {k : IntKind} {v : Value} (ht : P.underlying t = some (.int k)) (h : HoldsT P W (d + 1) t [v]) : ∃ n, v = .int k n ∧ (Lit.int k n).wf = true := by
  unfold HoldsT at h
  rw [ht] at h
  obtain ⟨n, e1, hn⟩ := h
  exact ⟨n, by simpa using e1, hn⟩
theorem HoldsT.bool {v : Value} (ht : P.underlying t = some .bool) (h : HoldsT P W (d + 1) t [v]) : ∃ b, v = .bool b := by
  unfold HoldsT at h
  rw [ht] at h
  obtain ⟨n, e1⟩ := h
  exact ⟨n, by simpa using e1⟩
theorem HoldsT.string {v : Value} (ht : P.underlying t = some .string) (h : HoldsT P W (d + 1) t [v]) : ∃ s : ByteArray, v = .string s ∧ s.size ≤ 140737488351232 := by
  unfold HoldsT at h
  rw [ht] at h
  obtain ⟨n, e1, hn⟩ := h
  exact ⟨n, by simpa using e1, hn⟩
theorem HoldsT.isSlice {v : Value} (ht : P.underlying t = some (.slice e)) (h : HoldsT P W (d + 1) t [v]) : ∃ A len cap, v = .slice A len cap := by
  unfold HoldsT at h
  rw [ht] at h
  obtain ⟨A, len, cap, _, e1, _⟩ := h
  exact ⟨A, len, cap, by simpa using e1⟩
/-- a slice of bytes -/
theorem HoldsT.bytes {A : Option Addr} {len cap : Nat} (ht : P.underlying t = some (.slice e)) (he : P.underlying e = some (.int .u8)) (hc : P.cellsOf e = 1) (h : HoldsT P W (d + 2) t [.slice A len cap]) :
    ∃ xs : List UInt8, Rd W 1 A len (xs.map BV) := by
  obtain ⟨_, _, _, vs, hr, hv⟩ := HoldsT.slice (d := d + 1) ht h
  rw [hc] at hr hv
  have hrd := hr (by omega)
  have hl : vs.length = len := by simpa using hrd.1
  have each : ∀ v ∈ vs, ∃ n, v = .int .u8 n ∧ (Lit.int .u8 n).wf = true := by
    intro v hm
    obtain ⟨i, hi, rfl⟩ := List.getElem_of_mem hm
    have := hv i (by omega)
    rw [Nat.mul_one, List.drop_eq_getElem_cons hi, List.take_succ_cons, List.take_zero] at this
    exact HoldsT.int he this
  have hb : ∀ (l : List Value), (∀ v ∈ l, ∃ n, v = .int .u8 n ∧ (Lit.int .u8 n).wf = true) → ∃ xs : List UInt8, l = xs.map BV := by
    intro l
    induction l with
    | nil => intro _; exact ⟨[], rfl⟩
    | cons v l ih =>
      intro hall
      obtain ⟨xs, rfl⟩ := ih (fun u hu => hall u (List.mem_cons_of_mem _ hu))
      obtain ⟨n, rfl, hn⟩ := hall v List.mem_cons_self
      refine ⟨UInt8.ofNat n.toNat :: xs, ?_⟩
      have hbd : 0 ≤ n ∧ n ≤ 255 := by simpa [Lit.wf, IntKind.min, IntKind.max, IntKind.signed, IntKind.bits] using hn
      rw [List.map_cons]
      congr 1
      simp only [BV]
      congr 1
      simp
      omega
  obtain ⟨xs, rfl⟩ := hb vs each
  exact ⟨xs, hrd⟩
end
end Go.Own

/- head9; a parser's answers, named. -/
namespace Go.Proofs.YtokbdkbljgdcpaaDoor
open Go.RowKit Go.Own Go.Frm
set_option linter.unusedVariables false
set_option maxRecDepth 100000
section
variable {w w0 : World} {L : List Ob} {p m : Nat}
/-- Next, its answer named -/
theorem next_n {f : Fm} {b : Bool} {c : Nat} {z : Int} {ok : Bool} {st st' : Pst} (s : St (fun _ => False) w0 w (PFo p m st :: L)) (hG : Gl w0) (h : nextP m st = (⟨f, ⟨b, c, z⟩, ok⟩, st')) :
    Calls Tryd.prog 21 #[.pointer (some ⟨p, 0, none⟩)] w fun e w' => ∃ pv lv, e = .returned (.tuple #[.agg #[.int .i64 f.kind, .int .i64 f.stream, .bool f.fin, .bool f.eh, .bool f.ack, .bool f.prio, pv, .int .i64 f.flags, .int .i64 f.pad, .int .i64 f.depend, .bool f.excl, .int .i64 f.weight, .int .u32 (f.code : Int), lv, .int .i64 f.last, .int .i64 f.inc], .agg #[.bool b, .int .u32 (c : Int), .int .i64 z], .bool ok]) ∧ FrOwn w' w.heap.size f pv lv ∧ St (fun _ => False) w0 w' (PFo p m st' :: L) ∧ w.heap.size ≤ w'.heap.size := by
  refine (next_s s hG).mono ?_
  rintro e w' ⟨pv, lv, rfl, ho, hs, hz⟩
  rw [h] at hs ho ⊢
  exact ⟨pv, lv, rfl, ho, hs, hz⟩
theorem feed_own_n {st : Pst} (s : St (fun _ => False) w0 w (PFo p m st :: L)) {base n : Nat} {v : Value} {xs : List Value} (hm : SLo base 5 1 v n xs ∈ L) {B : Option Addr} {nb cb : Nat} {ys : List UInt8} (hv : ∀ a, B = some a → v.ownBlock = some a.block) (hr : Rd w 1 B nb (ys.map BV)) (hnc : nb ≤ cb) (hcb : cb ≤ 9223372036854775807) (q : Nat) (hq : feedN m st nb = q) (st' : Pst) (hst : feedP m st ys = st') :
    Calls Tryd.prog 23 #[.pointer (some ⟨p, 0, none⟩), .slice B nb cb] w fun e w' => e = .returned (.int .i64 (q : Int)) ∧ St (fun _ => False) w0 w' (PFo p m st' :: L) := by
  have h := feed_own s hm hv hr hnc hcb
  rw [hq, hst] at h
  exact h
end
theorem be3 (n : Nat) : be n 3 = [UInt8.ofNat (n / 65536), UInt8.ofNat (n / 256), UInt8.ofNat n] := by
  simp [be, Nat.div_div_eq_div_mul]
theorem be4 (n : Nat) : be n 4 = [UInt8.ofNat (n / 16777216), UInt8.ofNat (n / 65536), UInt8.ofNat (n / 256), UInt8.ofNat n] := by
  simp [be, Nat.div_div_eq_div_mul]
theorem bvn (x : Nat) (y : Int) (h : y = ((x % 256 : Nat) : Int)) : BV (UInt8.ofNat x) = .int .u8 y := by
  subst h
  show Value.int .u8 _ = _
  simp
set_option maxHeartbeats 1000000 in
theorem head9_c (n k fl s : Nat) (hn : n < 16777216) (hk : k < 256) (hf : fl < 256) (hs : s < 2147483648) (w : World) :
    Calls Tryd.prog 28 #[.int .i64 (n : Int), .int .i64 (k : Int), .int .i64 (fl : Int), .int .i64 (s : Int)] w fun e w' => ∃ g, e = .returned (.slice (some ⟨g, 0, none⟩) 9 9) ∧ w'.ownsRow w.heap.size 5 1 (.slice (some ⟨g, 0, none⟩) 9 9) 9 ((headB n k fl s).map BV) ∧ Below w.heap.size w w' := by
  go_enter Tryd.func28, Tryd.ntmps28
  go_wp2
  go_ret
  have e : (headB n k fl s).map BV = [.int .u8 ((n : Int) / 65536), .int .u8 ((n : Int) / 256 % 256), .int .u8 ((n : Int) % 256), .int .u8 (k : Int), .int .u8 (fl : Int), .int .u8 ((s : Int) / 16777216), .int .u8 ((s : Int) / 65536 % 256), .int .u8 ((s : Int) / 256 % 256), .int .u8 ((s : Int) % 256)] := by
    simp only [headB, be3, be4, be1, List.map_cons, List.map_nil, List.cons_append, List.nil_append]
    rw [bvn (n / 65536) ((n : Int) / 65536) (by omega), bvn (n / 256) ((n : Int) / 256 % 256) (by omega), bvn n ((n : Int) % 256) (by omega), bvn k (k : Int) (by omega), bvn fl (fl : Int) (by omega), bvn (s / 16777216) ((s : Int) / 16777216) (by omega), bvn (s / 65536) ((s : Int) / 65536 % 256) (by omega), bvn (s / 256) ((s : Int) / 256 % 256) (by omega), bvn s ((s : Int) % 256) (by omega)]
  refine ⟨w.heap.size, rfl, ?_, (Below.refl _ _).alloc (Nat.le_refl _) _⟩
  rw [e]
  exact World.ownsRow_lit w _ 9 (Nat.le_refl _) (by unfold maxLen; omega) rfl
end Go.Proofs.YtokbdkbljgdcpaaDoor

/- The law FrameHeld. -/
namespace Go.Proofs.YtokbdkbljgdcpaaDoor
open Go.RowKit Go.Own Go.Frm
set_option linter.unusedVariables false
set_option maxRecDepth 100000
section
variable {w w0 : World} {L : List Ob} {p m : Nat}
theorem feed_in_n {st : Pst} (s : St (fun _ => False) w0 w (PFo p m st :: L)) {B : Option Addr} {nb cb : Nat} {ys : List UInt8} (hr : Rd w0 1 B nb (ys.map BV)) (hnc : nb ≤ cb) (hcb : cb ≤ 9223372036854775807) (q : Nat) (hq : feedN m st nb = q) (st' : Pst) (hst : feedP m st ys = st') :
    Calls Tryd.prog 23 #[.pointer (some ⟨p, 0, none⟩), .slice B nb cb] w fun e w' => e = .returned (.int .i64 (q : Int)) ∧ St (fun _ => False) w0 w' (PFo p m st' :: L) := by
  have h := feed_in0 s hr hnc hcb
  rw [hq, hst] at h
  exact h
theorem size_n {st : Pst} (s : St (fun _ => False) w0 w (PFo p m st :: L)) (n : Nat) (hn : st.held.length = n) : Calls Tryd.prog 25 #[.pointer (some ⟨p, 0, none⟩)] w fun e w' => e = .returned (.int .i64 (n : Int)) ∧ w' = w := by
  have h := size_s s
  rw [hn] at h
  exact h
theorem par_ok {st : Pst} (s : St (fun _ => False) w0 w (PFo p m st :: L)) : st.ok ∧ st.held.length ≤ 16777224 ∧ 16384 ≤ m ∧ m ≤ 16777215 := by
  obtain ⟨F, hF, _⟩ := s.focus0
  exact hF.ok
end
theorem rd_lt {W : World} {A : Option Addr} {n : Nat} {xs : List UInt8} (h : Rd W 1 A n (xs.map BV)) (hn : 0 < n) : ∀ a, A = some a → a.block < W.heap.size := by
  intro a ha
  have hl : xs.length = n := by simpa using h.1
  obtain ⟨b, o, hA, hc⟩ := h.2 hn
  rw [ha] at hA
  cases hA
  have := hc 0 (BV xs[0]) (by simp [List.getElem?_eq_getElem (show 0 < xs.length by omega)])
  exact World.block_lt_of_cell? _ _ this
/-- what the law's step i sees -/
theorem byt_at {W : World} {A : Option Addr} {n c i : Nat} (h : HoldsT Tryd.prog W 3 62 [.slice A n c]) (hi : i < n) :
    ∃ (b o : Nat) (B : Option Addr) (nb cb : Nat) (ys : List UInt8), A = some ⟨b, o, none⟩ ∧ W.cell? ⟨b, o + i, none⟩ = some (.slice B nb cb) ∧ Rd W 1 B nb (ys.map BV) ∧ nb ≤ cb ∧ cb ≤ 140737488351232 := by
  obtain ⟨b, o, v, rfl, hc, hv⟩ := HoldsT.at_ (d := 2) Tryd.underlying62 (by kernel_rfl) h hi
  obtain ⟨B, nb, cb, rfl⟩ := HoldsT.isSlice (d := 1) Tryd.underlying22 hv
  obtain ⟨ys, hr⟩ := HoldsT.bytes (d := 0) Tryd.underlying22 Tryd.underlying5 (by kernel_rfl) hv
  obtain ⟨h1, h2, h3, _⟩ := HoldsT.slice (d := 1) Tryd.underlying22 hv
  have hb : Tryd.prog.bytesOf 5 = 1 := by kernel_rfl
  rw [hb] at h3
  exact ⟨b, o, B, nb, cb, ys, rfl, hc, hr, h1, by omega⟩
theorem bool_at {W : World} {A : Option Addr} {n c i : Nat} (h : HoldsT Tryd.prog W 3 67 [.slice A n c]) (hi : i < n) : ∃ (b o : Nat) (v : Bool), A = some ⟨b, o, none⟩ ∧ W.cell? ⟨b, o + i, none⟩ = some (.bool v) := by
  obtain ⟨b, o, v, rfl, hc, hv⟩ := HoldsT.at_ (d := 2) Tryd.underlying67 (by kernel_rfl) h hi
  obtain ⟨x, rfl⟩ := HoldsT.bool (d := 1) Tryd.underlying4 hv
  exact ⟨b, o, x, rfl, hc⟩
end Go.Proofs.YtokbdkbljgdcpaaDoor

/- Frames: two turns take more than Max octets, so that a few turns are enough. Nothing of the program. -/
namespace Go.Frm
set_option linter.unusedVariables false
theorem drain_le (m : Nat) : ∀ (n : Nat) (st : Pst), st.held.length < n → (drain m st).2.held.length ≤ st.held.length
  | 0, _, h => absurd h (by omega)
  | n + 1, st, h => by
    cases hn : (nextP m st).1.ok with
    | false => rw [drain_no m st hn]; exact Nat.le_refl _
    | true =>
      obtain ⟨_, h2, _⟩ := next_less m st hn
      rw [drain_yes m st hn]
      have := drain_le m n (nextP m st).2 (by omega)
      show (drain m (nextP m st).2).2.held.length ≤ _
      omega
/-- behind what is less than a frame as much as there is room for: less than that room is held then -/
theorem drain_full (m : Nat) (ys zs : List UInt8) (D : Dry m ⟨ys, false⟩) (h : (ys ++ zs).length = m + 9) : (drain m ⟨ys ++ zs, false⟩).2.held.length + ys.length < m + 9 := by
  have hy : ys.length < m + 9 := by
    rcases (next_no m _ D.no).2 with h | h
    · cases h
    · exact h
  rcases next_ways m ⟨ys ++ zs, false⟩ with ⟨h1, e⟩ | ⟨_, h9, h1, e⟩ | ⟨_, h9, h1, h2, e⟩ | ⟨_, h9, h1, e⟩
  · rcases h1 with h1 | h1
    · cases h1
    · simp only at h1; omega
  · have hn : (nextP m ⟨ys ++ zs, false⟩).1.ok = true := by rw [e]
    rw [drain_yes m _ hn, e]
    show (drain m ⟨[], true⟩).2.held.length + ys.length < m + 9
    rw [drain_no m _ (done_ok m _ rfl)]
    simpa using hy
  · simp only at h1 h2; omega
  · have hn : (nextP m ⟨ys ++ zs, false⟩).1.ok = true := by rw [e]; rfl
    rw [drain_yes m _ hn]
    show (drain m (nextP m ⟨ys ++ zs, false⟩).2).2.held.length + ys.length < m + 9
    have hle := drain_le m _ (nextP m ⟨ys ++ zs, false⟩).2 (Nat.lt_succ_self _)
    have hlen : (nextP m ⟨ys ++ zs, false⟩).2.held.length + (9 + hdN (ys ++ zs)) ≤ m + 9 := by
      rw [e]
      simp only [settle]
      simp only at h9
      generalize parseP (hdK (ys ++ zs)) (hdF (ys ++ zs)) (hdS (ys ++ zs)) (((ys ++ zs).drop 9).take (hdN (ys ++ zs))) = o
      cases (o.2.is && o.2.stream == 0)
      · simp only [cond_false, List.length_drop]; omega
      · simp only [cond_true, List.length_nil]; omega
    have hys : ys.length < 9 + hdN (ys ++ zs) := by
      by_cases h9y : ys.length < 9
      · omega
      · obtain ⟨a1, _⟩ := hd_app ys zs (by omega)
        rw [a1]
        have hno := D.no
        rcases next_ways m ⟨ys, false⟩ with ⟨h1, e⟩ | ⟨_, _, _, e⟩ | ⟨_, _, _, h2, e⟩ | ⟨_, _, _, e⟩
        · rcases h1 with h1 | h1
          · cases h1
          · simp only at h1; omega
        · rw [e] at hno; cases hno
        · exact h2
        · rw [e] at hno; cases hno
    omega
theorem turn_succ (m n : Nat) (st : Pst) (b : List UInt8) : turnP m (n + 1) st b = bif decide (b.length - feedN m st b.length = 0) || decide (feedN m st b.length = 0) then drain m (feedP m st b)
    else ((drain m (feedP m st b)).1 ++ (turnP m n (drain m (feedP m st b)).2 (b.drop (feedN m st b.length))).1, (turnP m n (drain m (feedP m st b)).2 (b.drop (feedN m st b.length))).2) := rfl
/-- a turn that isn't the last one -/
theorem turn_more {m : Nat} {st : Pst} {b : List UInt8} (D : Dry m st) (h : (decide (b.length - feedN m st b.length = 0) || decide (feedN m st b.length = 0)) = false) :
    st.done = false ∧ feedN m st b.length = m + 9 - st.held.length ∧ m + 9 - st.held.length < b.length ∧ st.held.length < m + 9 ∧ Dry m (drain m (feedP m st b)).2 ∧ (feedP m st b).done = false ∧ (feedP m st b).held.length = m + 9 ∧ feedP m st b = ⟨st.held ++ b.take (feedN m st b.length), false⟩ := by
  simp only [Bool.or_eq_false_iff, decide_eq_false_iff_not] at h
  have hd : st.done = false := by
    cases hd : st.done with
    | false => rfl
    | true => exfalso; apply h.2; unfold feedN; rw [hd]; rfl
  have e0 : feedN m st b.length = min b.length (m + 9 - st.held.length) := by unfold feedN; rw [hd]; rfl
  have hl : st.held.length < m + 9 := by
    rcases (next_no m st D.no).2 with h | h
    · rw [hd] at h; cases h
    · exact h
  have ef : feedP m st b = ⟨st.held ++ b.take (feedN m st b.length), false⟩ := by unfold feedP; rw [hd]
  refine ⟨hd, by omega, by omega, hl, ?_, by rw [ef], ?_, ef⟩
  · exact drain_dry m _ _ (Nat.lt_succ_self _) (by rw [ef]; intro h; cases h)
  · rw [ef]
    simp only [List.length_append, List.length_take]
    omega
theorem turn_enough (m : Nat) : ∀ (j n : Nat) (st : Pst) (b : List UInt8), Dry m st → (st.done = false → b.length ≤ (m + 9 - st.held.length) + j * (m + 9)) → 2 * j + 1 ≤ n → turnP m n st b = turnP m (b.length + 1) st b := by
  intro j
  induction j with
  | zero =>
    intro n st b D hb hn
    obtain ⟨n, rfl⟩ : ∃ k, n = k + 1 := ⟨n - 1, by omega⟩
    rw [turn_succ, turn_succ]
    cases hc : (decide (b.length - feedN m st b.length = 0) || decide (feedN m st b.length = 0)) with
    | true => rfl
    | false =>
      obtain ⟨hd, h1, h2, h3, _⟩ := turn_more D hc
      have := hb hd
      omega
  | succ j ih =>
    intro n st b D hb hn
    obtain ⟨n, rfl⟩ : ∃ k, n = k + 2 := ⟨n - 2, by omega⟩
    rw [turn_succ, turn_succ m b.length]
    cases hc : (decide (b.length - feedN m st b.length = 0) || decide (feedN m st b.length = 0)) with
    | true => rfl
    | false =>
      obtain ⟨hd, h1, h2, h3, h4, h5, h6, h7⟩ := turn_more D hc
      have hbb := hb hd
      rw [Nat.succ_mul] at hbb
      suffices h : turnP m (n + 1) (drain m (feedP m st b)).2 (b.drop (feedN m st b.length)) = turnP m b.length (drain m (feedP m st b)).2 (b.drop (feedN m st b.length)) by rw [h]
      generalize hst1 : (drain m (feedP m st b)).2 = st1 at *
      generalize hb1 : b.drop (feedN m st b.length) = b1 at *
      have hb1l : b1.length = b.length - (m + 9 - st.held.length) := by rw [← hb1, List.length_drop, h1]
      rw [turn_spec m b.length st1 b1 (by omega) h4, ← turn_spec m (b1.length + 1) st1 b1 (by omega) h4]
      rw [turn_succ, turn_succ m b1.length]
      cases hc1 : (decide (b1.length - feedN m st1 b1.length = 0) || decide (feedN m st1 b1.length = 0)) with
      | true => rfl
      | false =>
        obtain ⟨k0, k1, k2, k3, k4, k5, k6, k7⟩ := turn_more h4 hc1
        suffices h : turnP m n (drain m (feedP m st1 b1)).2 (b1.drop (feedN m st1 b1.length)) = turnP m b1.length (drain m (feedP m st1 b1)).2 (b1.drop (feedN m st1 b1.length)) by rw [h]
        have hfull : (drain m (feedP m st1 b1)).2.held.length + st1.held.length < m + 9 := by
          rw [k7]
          refine drain_full m st1.held _ ?_ ?_
          · have := Pst.eta k0
            rw [← this]; exact h4
          · rw [k7] at k6; exact k6
        generalize hst2 : (drain m (feedP m st1 b1)).2 = st2 at *
        generalize hb2 : b1.drop (feedN m st1 b1.length) = b2 at *
        have hb2l : b2.length = b1.length - (m + 9 - st1.held.length) := by rw [← hb2, List.length_drop, k1]
        rw [turn_spec m b1.length st2 b2 (by omega) k4, ← turn_spec m (b2.length + 1) st2 b2 (by omega) k4]
        refine ih n st2 b2 k4 (fun _ => ?_) (by omega)
        generalize j * (m + 9) = q at *
        omega
/-- forty thousand turns are enough -/
theorem turn_many (m n : Nat) (st : Pst) (b : List UInt8) (D : Dry m st) (hb : b.length ≤ 300000000) (hm : 16384 ≤ m) (hn : 39999 ≤ n) : turnP m n st b = turnP m (b.length + 1) st b := by
  have h : b.length ≤ 19999 * (m + 9) := by omega
  exact turn_enough m 19999 n st b D (fun _ => Nat.le_trans h (Nat.le_add_left _ _)) hn
/-- as many frames are told as there is room for -/
theorem drain_many (m : Nat) : ∀ (n : Nat) (st : Pst), st.held.length < 9 * n → drainP m n st = drain m st
  | 0, _, h => absurd h (by omega)
  | n + 1, st, h => by
    cases hn : (nextP m st).1.ok with
    | false => rw [drain_no m st hn]; unfold drainP; rw [hn]; rfl
    | true =>
      obtain ⟨_, h2, _⟩ := next_less m st hn
      rw [drain_yes m st hn]
      unfold drainP
      rw [hn, cond_true, drain_many m n (nextP m st).2 (by omega)]
end Go.Frm

/- Frames: what is told, each by itself. Nothing of the program. -/
namespace Go.Frm
set_option linter.unusedVariables false
/-- each that is told: a frame that may be, or a fault without one; behind one of the connection nothing is told -/
theorem drain_at (m : Nat) : ∀ (n : Nat) (st : Pst), st.held.length < n → ∀ (i : Nat) (f : Fm) (x : Flt), (drain m st).1[i]? = some (f, x) →
    (x = noF ∧ mayB f = true ∧ okF f ∧ (body f).length ≤ m) ∨ (x.is = true ∧ f = zeroF ∧ x.code ≠ 0 ∧ (x.stream = 0 → i + 1 = (drain m st).1.length ∧ (drain m st).2.held = []))
  | 0, _, h => absurd h (by omega)
  | n + 1, st, h => by
    intro i f x hi
    cases hn : (nextP m st).1.ok with
    | false => rw [drain_no m st hn] at hi; simp at hi
    | true =>
      obtain ⟨_, h2, _⟩ := next_less m st hn
      rw [drain_yes m st hn] at hi ⊢
      cases i with
      | zero =>
        simp at hi
        obtain ⟨rfl, rfl⟩ := hi
        rcases next_may m st hn with ⟨a, b, c, d, _⟩ | ⟨a, b, c, d⟩
        · exact .inl ⟨a, b, c, d⟩
        · refine .inr ⟨a, b, c, fun h0 => ?_⟩
          have hd := d h0
          have e2 := drain_no m (nextP m st).2 (done_ok m _ (by rw [hd]))
          simp only [e2]
          exact ⟨rfl, by rw [hd]⟩
      | succ i =>
        simp only [List.getElem?_cons_succ] at hi
        rcases drain_at m n (nextP m st).2 (by omega) i f x hi with h | ⟨a, b, c, d⟩
        · exact .inl h
        · refine .inr ⟨a, b, c, fun h0 => ?_⟩
          obtain ⟨d1, d2⟩ := d h0
          refine ⟨?_, d2⟩
          simp only [List.length_cons]
          omega
theorem pay_le (f : Fm) : f.pay.length ≤ (body f).length ∧ f.list.length ≤ (body f).length := by
  rw [body_len, mustB_len]
  omega
theorem writeP_ok (f : Fm) (h : mayB f = true) (hb : (body f).length ≤ 16777215) : writeP f = (wr f, 0) := by
  unfold writeP
  rw [h, decide_eq_true hb]; rfl
end Go.Frm

/- A parser that was there before, among other things: Feed, Next, Size; frames that were told, as a thing. -/
namespace Go.Proofs.YtokbdkbljgdcpaaDoor
open Go.RowKit Go.Own Go.Frm
set_option linter.unusedVariables false
set_option maxRecDepth 100000
section
variable {w w0 : World} {L : List Ob} {p m : Nat} {S : Nat → Prop}
theorem feed_S {st : Pst} (s : St S w0 w (PFo p m st :: L)) {B : Option Addr} {nb cb : Nat} {ys : List UInt8} (hr : Rd w 1 B nb (ys.map BV)) (hnc : nb ≤ cb) (hcb : cb ≤ 9223372036854775807) (q : Nat) (hq : feedN m st nb = q) (st' : Pst) (hst : feedP m st ys = st') :
    Calls Tryd.prog 23 #[.pointer (some ⟨p, 0, none⟩), .slice B nb cb] w fun e w' => e = .returned (.int .i64 (q : Int)) ∧ St S w0 w' (PFo p m st' :: L) := by
  subst hq hst
  obtain ⟨F, hF, _, hlo, hback⟩ := s.focus0
  refine (feed_c0 hF hr hnc hcb).mono ?_
  rintro e w' ⟨rfl, s'⟩
  exact ⟨rfl, by have := hback w' _ [] s'; simpa only [List.append_nil, List.nil_append] using this⟩
theorem next_S {f : Fm} {b : Bool} {c : Nat} {z : Int} {ok : Bool} {st st' : Pst} (s : St S w0 w (PFo p m st :: L)) (hG : Gl w0) (g1 : ¬ S 1) (g2 : ¬ S 0) (h : nextP m st = (⟨f, ⟨b, c, z⟩, ok⟩, st')) :
    Calls Tryd.prog 21 #[.pointer (some ⟨p, 0, none⟩)] w fun e w' => ∃ pv lv, e = .returned (.tuple #[.agg #[.int .i64 f.kind, .int .i64 f.stream, .bool f.fin, .bool f.eh, .bool f.ack, .bool f.prio, pv, .int .i64 f.flags, .int .i64 f.pad, .int .i64 f.depend, .bool f.excl, .int .i64 f.weight, .int .u32 (f.code : Int), lv, .int .i64 f.last, .int .i64 f.inc], .agg #[.bool b, .int .u32 (c : Int), .int .i64 z], .bool ok]) ∧ FrOwn w' w.heap.size f pv lv ∧ St S w0 w' (PFo p m st' :: L) ∧ w.heap.size ≤ w'.heap.size := by
  obtain ⟨F, hF, _, hlo, hback⟩ := s.focus0
  have hp := hG.pos
  refine (next_c (hG.fr s.fr g1 g2) hF (fun h => ?_) (fun h => ?_)).mono ?_
  · rcases hlo _ h with h | h
    · exact g1 h
    · omega
  · rcases hlo _ h with h | h
    · exact g2 h
    · omega
  · rintro e w' ⟨pv, lv, F', rfl, ho, hF', hsub, hfr⟩
    rw [h] at ho hF' ⊢
    exact ⟨pv, lv, rfl, ho, by have := hback w' _ [] (St.changed (framed_PFo p m _) hF' (fun i hi => .inl (hsub i hi)) hfr); simpa only [List.append_nil] using this, hfr.size⟩
theorem par_S {st : Pst} (s : St S w0 w (PFo p m st :: L)) : st.ok ∧ st.held.length ≤ 16777224 ∧ 16384 ≤ m ∧ m ≤ 16777215 := by
  obtain ⟨F, hF, _⟩ := s.focus0
  exact hF.ok
end
/-- two things at the end become one -/
theorem St.merge {w0 w : World} {S : Nat → Prop} {A B C : Ob} (L1 : List Ob) (s : St S w0 w (L1 ++ [A, B])) (hC : Framed C) (h : ∀ w F1 F2, A w F1 → B w F2 → C w (fun i => F1 i ∨ F2 i)) : St S w0 w (L1 ++ [C]) := by
  obtain ⟨⟨T, hT, hTS⟩, hf⟩ := s
  obtain ⟨G, H, hG, hH, hGH, rfl⟩ := hT.app
  obtain ⟨F1, G1, hA, h1, ⟨F2, G2, hB, h2, hG2, hd2, rfl⟩, hd, rfl⟩ := hH
  rw [Own.Sep] at hG2
  subst hG2
  refine ⟨⟨_, Sep.mk_app (H := fun i => (F1 i ∨ F2 i) ∨ False) hG ⟨fun i => F1 i ∨ F2 i, fun _ => False, hC, h _ _ _ h1 h2, rfl, fun _ _ h => h, rfl⟩ (fun i hi hn => hGH i hi ?_), fun i hi => hTS i ?_⟩, hf⟩
  · rcases hn with (hn | hn) | hn
    · exact .inl hn
    · exact .inr (.inl hn)
    · exact hn.elim
  · rcases hi with hi | (hi | hi) | hi
    · exact .inl hi
    · exact .inr (.inl hi)
    · exact .inr (.inr (.inl hi))
    · exact hi.elim
/-- what was told: a frame with its payload and list, a fault -/
structure Tl where
  f : Fm
  pv : Value
  lv : Value
  x : Flt
def tls (l : List Tl) : List (Fm × Flt) := l.map fun t => (t.f, t.x)
def fcells (l : List Tl) : List Value := l.flatMap fun t => frC t.f t.pv t.lv
def xcells (l : List Tl) : List Value := l.flatMap fun t => [.bool t.x.is, .int .u32 (t.x.code : Int), .int .i64 t.x.stream]
/-- frames' payloads and lists -/
def FrsO (l : List Tl) : Ob := fun w F => (∀ t ∈ l, FrOwn w 0 t.f t.pv t.lv) ∧ F = fun i => ∃ t ∈ l, t.pv.ownBlock = some i ∨ t.lv.ownBlock = some i
theorem FrOwn.at0 {w : World} {b : Nat} {f : Fm} {pv lv : Value} (h : FrOwn w b f pv lv) : FrOwn w 0 f pv lv := by
  obtain ⟨A, c, B, d, h1, h2, h3, h4⟩ := h
  exact ⟨A, c, B, d, h1, h2, own_lower h3 (Nat.zero_le _), own_lower h4 (Nat.zero_le _)⟩
theorem framed_FrsO (l : List Tl) : Framed (FrsO l) := by
  refine ⟨fun w F h i hi => ?_, fun w w' F S h hf hn => ?_⟩
  · obtain ⟨h, rfl⟩ := h
    obtain ⟨t, ht, hi⟩ := hi
    obtain ⟨A, c, B, d, _, _, h3, h4⟩ := h t ht
    rcases hi with hi | hi
    · exact own_lt h3 hi
    · exact own_lt h4 hi
  · obtain ⟨h, rfl⟩ := h
    refine ⟨fun t ht => ?_, rfl⟩
    obtain ⟨A, c, B, d, h1, h2, h3, h4⟩ := h t ht
    exact ⟨A, c, B, d, h1, h2, own_fr h3 hf (fun g hg => hn g ⟨t, ht, .inl hg⟩), own_fr h4 hf (fun g hg => hn g ⟨t, ht, .inr hg⟩)⟩
theorem frs_nil (w : World) : FrsO [] w (fun _ => False) := ⟨fun _ h => (by cases h), by funext i; simp⟩
theorem frs_snoc (l : List Tl) (t : Tl) (w : World) (F1 F2 : Nat → Prop) (h1 : FrsO l w F1) (h2 : FrsO [t] w F2) : FrsO (l ++ [t]) w (fun i => F1 i ∨ F2 i) := by
  obtain ⟨h1, rfl⟩ := h1
  obtain ⟨h2, rfl⟩ := h2
  refine ⟨fun u hu => ?_, ?_⟩
  · rcases List.mem_append.1 hu with h | h
    · exact h1 u h
    · exact h2 u h
  · funext i
    simp only [List.mem_append, eq_iff_iff]
    constructor
    · rintro (⟨u, hu, h⟩ | ⟨u, hu, h⟩)
      · exact ⟨u, .inl hu, h⟩
      · exact ⟨u, .inr hu, h⟩
    · rintro ⟨u, hu | hu, h⟩
      · exact .inl ⟨u, hu, h⟩
      · exact .inr ⟨u, hu, h⟩
section
variable {w w0 : World} {L : List Ob} {p m : Nat} {S : Nat → Prop}
/-- Next: what it tells is a thing of its own -/
theorem next_T {f : Fm} {b : Bool} {c : Nat} {z : Int} {ok : Bool} {st st' : Pst} (s : St S w0 w (PFo p m st :: L)) (hG : Gl w0) (g1 : ¬ S 1) (g2 : ¬ S 0) (h : nextP m st = (⟨f, ⟨b, c, z⟩, ok⟩, st')) :
    Calls Tryd.prog 21 #[.pointer (some ⟨p, 0, none⟩)] w fun e w' => ∃ A ca B cb, e = .returned (.tuple #[.agg #[.int .i64 f.kind, .int .i64 f.stream, .bool f.fin, .bool f.eh, .bool f.ack, .bool f.prio, .slice A f.pay.length ca, .int .i64 f.flags, .int .i64 f.pad, .int .i64 f.depend, .bool f.excl, .int .i64 f.weight, .int .u32 (f.code : Int), .slice B f.list.length cb, .int .i64 f.last, .int .i64 f.inc], .agg #[.bool b, .int .u32 (c : Int), .int .i64 z], .bool ok]) ∧ St S w0 w' (PFo p m st' :: (L ++ [FrsO [⟨f, .slice A f.pay.length ca, .slice B f.list.length cb, ⟨b, c, z⟩⟩]])) := by
  obtain ⟨F, hF, hfr, hlo, hback⟩ := s.focus0
  have hp := hG.pos
  refine (next_c (hG.fr s.fr g1 g2) hF (fun h => ?_) (fun h => ?_)).mono ?_
  · rcases hlo _ h with h | h
    · exact g1 h
    · omega
  · rcases hlo _ h with h | h
    · exact g2 h
    · omega
  · rintro e w' ⟨pv, lv, F', rfl, ho, hF', hsub, hfr'⟩
    rw [h] at ho hF' ⊢
    obtain ⟨A, ca, B, cb, rfl, rfl, h3, h4⟩ := ho
    refine ⟨A, ca, B, cb, rfl, hback w' _ _ ⟨⟨_, ⟨F', _, framed_PFo p m _, hF', ⟨fun i => ∃ t ∈ [(⟨f, .slice A f.pay.length ca, .slice B f.list.length cb, ⟨b, c, z⟩⟩ : Tl)], t.pv.ownBlock = some i ∨ t.lv.ownBlock = some i, _, framed_FrsO _, ⟨fun t ht => ?_, rfl⟩, rfl, fun _ _ h => h, rfl⟩, fun i hi hn => ?_, rfl⟩, fun i hi => ?_⟩, hfr'⟩⟩
    · rw [List.mem_singleton] at ht; subst ht
      exact ⟨A, ca, B, cb, rfl, rfl, own_lower h3 (Nat.zero_le _), own_lower h4 (Nat.zero_le _)⟩
    · have hlt := hfr.lt _ _ hF i (hsub i hi)
      rcases hn with ⟨t, ht, hn⟩ | hn
      · rw [List.mem_singleton] at ht; subst ht
        rcases hn with hn | hn
        · have := (h3.lt i hn).1; omega
        · have := (h4.lt i hn).1; omega
      · exact hn
    · rcases hi with hi | ⟨t, ht, hn⟩ | hi
      · exact .inl (hsub i hi)
      · rw [List.mem_singleton] at ht; subst ht
        rcases hn with hn | hn
        · exact .inr (h3.lt i hn).1
        · exact .inr (h4.lt i hn).1
      · exact hi.elim
end
/-- a frame that was told goes to the others -/
theorem St.frs {w0 w : World} {S : Nat → Prop} (L1 : List Ob) {l : List Tl} {t : Tl} (s : St S w0 w (L1 ++ [FrsO l, FrsO [t]])) : St S w0 w (L1 ++ [FrsO (l ++ [t])]) := St.merge L1 s (framed_FrsO _) (frs_snoc l t)
theorem infoFr : (Tryd.prog.info? 27).map (fun i => (i.zero, i.size, i.bytes)) = some (some (.agg #[.int .i64 0, .int .i64 0, .bool false, .bool false, .bool false, .bool false, .slice none 0 0, .int .i64 0, .int .i64 0, .int .i64 0, .bool false, .int .i64 0, .int .u32 0, .slice none 0 0, .int .i64 0, .int .i64 0]), 16, 136) := by kernel_rfl
theorem EFr : Elt Tryd.prog 57 27 (.agg #[.int .i64 0, .int .i64 0, .bool false, .bool false, .bool false, .bool false, .slice none 0 0, .int .i64 0, .int .i64 0, .int .i64 0, .bool false, .int .i64 0, .int .u32 0, .slice none 0 0, .int .i64 0, .int .i64 0]) 16 136 := by
  obtain ⟨i0, hi, hz0, hz1, hz2⟩ := info_parts infoFr
  exact ⟨Tryd.underlying57, ⟨i0, hi, hz0, hz1, hz2⟩, rfl, by omega⟩
theorem infoFt : (Tryd.prog.info? 46).map (fun i => (i.zero, i.size, i.bytes)) = some (some (.agg #[.bool false, .int .u32 0, .int .i64 0]), 3, 16) := by kernel_rfl
theorem EFt : Elt Tryd.prog 59 46 (.agg #[.bool false, .int .u32 0, .int .i64 0]) 3 16 := by
  obtain ⟨i0, hi, hz0, hz1, hz2⟩ := info_parts infoFt
  exact ⟨Tryd.underlying59, ⟨i0, hi, hz0, hz1, hz2⟩, rfl, by omega⟩
theorem fcells_app (a : List Tl) (t : Tl) : fcells (a ++ [t]) = fcells a ++ frC t.f t.pv t.lv := by simp [fcells]
theorem xcells_app (a : List Tl) (t : Tl) : xcells (a ++ [t]) = xcells a ++ [.bool t.x.is, .int .u32 (t.x.code : Int), .int .i64 t.x.stream] := by simp [xcells]
theorem tls_app (a : List Tl) (t : Tl) : tls (a ++ [t]) = tls a ++ [(t.f, t.x)] := by simp [tls]
theorem frC_one (f : Fm) (A B : Option Addr) (n c k d : Nat) : ∀ v ∈ frC f (.slice A n c) (.slice B k d), v.oneCell' = true := by
  intro v hv
  simp at hv
  rcases hv with rfl | rfl | rfl | rfl | rfl | rfl | rfl | rfl | rfl | rfl | rfl | rfl | rfl | rfl | rfl | rfl <;> rfl
theorem ft_one (b : Bool) (c : Nat) (z : Int) : ∀ v ∈ [Value.bool b, .int .u32 (c : Int), .int .i64 z], v.oneCell' = true := by
  intro v hv
  simp at hv
  rcases hv with rfl | rfl | rfl <;> rfl
end Go.Proofs.YtokbdkbljgdcpaaDoor

/- pieces: octets cut at raw places. -/
namespace Go.Proofs.YtokbdkbljgdcpaaDoor
open Go.RowKit Go.Own Go.Frm
set_option linter.unusedVariables false
set_option maxRecDepth 100000
def IntsAt (w : World) (C : Option Addr) (n : Nat) : Prop := ∀ i, i < n → ∃ (b o : Nat) (z : Int), C = some ⟨b, o, none⟩ ∧ w.cell? ⟨b, o + i, none⟩ = some (.int .i64 z) ∧ -9223372036854775808 ≤ z ∧ z ≤ 9223372036854775807
/-- slices of one row of octets -/
def PcOf (w : World) (B : Option Addr) (vs : List Value) (bs : List (List UInt8)) : Prop := vs.length = bs.length ∧ ∀ (i : Nat) (ys : List UInt8), bs[i]? = some ys → ∃ (Bi : Option Addr) (ni ci : Nat), vs[i]? = some (Value.slice Bi ni ci) ∧ Rd w 1 Bi ni (ys.map BV) ∧ ni ≤ ci ∧ ci ≤ 9223372036854775807 ∧ (∀ a : Addr, Bi = some a → ∃ a0 : Addr, B = some a0 ∧ a.block = a0.block)
theorem pcOf_snoc {w : World} {B Bi : Option Addr} {vs : List Value} {bs : List (List UInt8)} {ys : List UInt8} {ni ci : Nat} (h : PcOf w B vs bs) (hr : Rd w 1 Bi ni (ys.map BV)) (h1 : ni ≤ ci) (h2 : ci ≤ 9223372036854775807) (hB : ∀ a, Bi = some a → ∃ a0, B = some a0 ∧ a.block = a0.block) : PcOf w B (vs ++ [.slice Bi ni ci]) (bs ++ [ys]) := by
  refine ⟨by simp [h.1], fun i zs hi => ?_⟩
  by_cases hl : i < bs.length
  · rw [List.getElem?_append_left hl] at hi
    obtain ⟨B', n', c', e, rest⟩ := h.2 i zs hi
    exact ⟨B', n', c', by rw [List.getElem?_append_left (by rw [h.1]; exact hl)]; exact e, rest⟩
  · rw [List.getElem?_append_right (by omega)] at hi
    have hz : i - bs.length = 0 := by
      have := (List.getElem?_eq_some_iff.1 hi).1
      simp at this; omega
    rw [hz] at hi
    simp at hi
    subst hi
    exact ⟨Bi, ni, ci, by rw [List.getElem?_append_right (by rw [h.1]; omega), h.1, hz]; rfl, hr, h1, h2, hB⟩
theorem infoBs : (Tryd.prog.info? 22).map (fun i => (i.zero, i.size, i.bytes)) = some (some (.slice none 0 0), 1, 24) := by kernel_rfl
theorem EBs : Elt Tryd.prog 62 22 (.slice none 0 0) 1 24 := by
  obtain ⟨i0, hi, hz0, hz1, hz2⟩ := info_parts infoBs
  exact ⟨Tryd.underlying62, ⟨i0, hi, hz0, hz1, hz2⟩, rfl, by omega⟩
theorem sl_one (B : Option Addr) (n c : Nat) : ∀ v ∈ [Value.slice B n c], v.oneCell' = true := by
  intro v hv
  simp at hv; subst hv; rfl
theorem addr_tail {B A : Option Addr} {cb k : Nat} (hA : (if cb = k then B else Option.map (fun x => x.add k) B) = A) : ∀ a, A = some a → ∃ a0, B = some a0 ∧ a.block = a0.block := by
  subst hA
  intro a ha
  split at ha
  · exact ⟨a, ha, rfl⟩
  · cases B with
    | none => cases ha
    | some x => cases ha; exact ⟨x, rfl, by simp only [Addr.add]; split <;> rfl⟩
theorem rd_tail {w : World} {B : Option Addr} {nb cb k : Nat} {ys : List UInt8} (h : Rd w 1 B nb (ys.map BV)) (hk : k ≤ nb) (hc : nb ≤ cb) {A : Option Addr} (hA : (if cb = k then B else Option.map (fun x => x.add k) B) = A) : Rd w 1 A (nb - k) ((ys.drop k).map BV) := by
  subst hA
  have := h.drop hk hc
  rw [Nat.mul_one, ← List.map_drop] at this
  exact this
def PieQ (w : World) (B : Option Addr) (ys : List UInt8) (e : Ending) (w' : World) : Prop := ∃ A n c vs bs, e = .returned (.slice A n c) ∧ w'.ownsRow w.heap.size 22 1 (.slice A n c) n vs ∧ Below w.heap.size w w' ∧ bs.flatten = ys ∧ n ≤ 101 ∧ bs.length = n ∧ PcOf w B vs bs
section
variable {w : World}
set_option maxHeartbeats 4000000 in
theorem pieces_c {B : Option Addr} {nb cb : Nat} {ys : List UInt8} (hr : Rd w 1 B nb (ys.map BV)) (hnb : nb ≤ cb) (hcb : cb ≤ 9223372036854775807) (hnb2 : nb ≤ 140737488355328) {C : Option Addr} {nc cc : Nat} (hc : IntsAt w C nc) :
    Calls Tryd.prog 27 #[.slice B nb cb, .slice C nc cc] w (PieQ w B ys) := by
  have HR := Lib.hid hr
  have HC := Lib.hid hc
  clear hr hc
  go_enter Tryd.func27, Tryd.ntmps27
  go_wp2
  go_loopg [0, 5, 6] 100 (fun gh bv v i w' => ∃ (j nk ck : Nat) (A : Option Addr) (c : Nat) (Bk : Option Addr) (vs : List Value) (bs : List (List UInt8)) (zs : List UInt8), gh + j = 100 ∧ i = .int .i64 (j : Int) ∧ bv = .slice Bk nk ck ∧ v = .slice A j c ∧ nk ≤ ck ∧ nk ≤ nb ∧ ck ≤ 9223372036854775807 ∧ bs.flatten ++ zs = ys ∧ bs.length = j ∧ PcOf w B vs bs ∧ Rd w 1 Bk nk (zs.map BV) ∧ (∀ a : Addr, Bk = some a → ∃ a0 : Addr, B = some a0 ∧ a.block = a0.block) ∧ w'.ownsRow w.heap.size 22 1 (.slice A j c) j vs ∧ Below w.heap.size w w')
  case atStart => exact ⟨0, nb, cb, none, 0, B, [], [], ys, by omega, rfl, rfl, rfl, hnb, Nat.le_refl _, hcb, rfl, rfl, ⟨rfl, fun i ys h => by simp at h⟩, HR.out, fun a h => ⟨a, h, rfl⟩, own_none _ _ _ _, Below.refl _ _⟩
  case round =>
    obtain ⟨j, nk, ck, A, c, Bk, vs, bs, zs, hj, rfl, rfl, rfl, hnk, hnkb, hck, hfl, hbl, hpc, hrk, hBk, how, hbw⟩ := hrel
    have hzl : zs.length = nk := by simpa using hrk.1
    by_cases hgo : j < nc ∧ j < 100 ∧ 0 < nk
    · obtain ⟨h1, h2, h3⟩ := hgo
      cases gk with
      | zero => omega
      | succ g1 =>
        have k1 : (j : Int) < (nc : Int) := by omega
        have k2 : (j : Int) < 100 := by omega
        have k3 : (0 : Int) < (nk : Int) := by omega
        obtain ⟨b, o, z, rfl, hcell, hz1, hz2⟩ := HC.out j h1
        have hc1 := (hbw.cell (World.block_lt_of_cell? _ _ hcell)).trans hcell
        have hcl := World.block_lt_of_cell? _ _ hc1
        obtain ⟨y, hy⟩ : ∃ y : Int, (if z < 0 then -(z + 1) else z) = y := ⟨_, rfl⟩
        have hy0 : 0 ≤ y ∧ y ≤ 9223372036854775807 := by rw [← hy]; split <;> omega
        obtain ⟨nk1, hnk1⟩ : ∃ x, nk + 1 = x := ⟨_, rfl⟩
        have wn1 : IntKind.i64.wrap ((nk : Int) + 1) = (nk1 : Int) := by rw [IntKind.wrap_i64]; omega
        have hnz : ¬ (nk1 : Int) = 0 := by omega
        obtain ⟨k, hk⟩ : ∃ k : Nat, (y % (nk1 : Int)).toNat = k := ⟨_, rfl⟩
        have hm0 := Int.emod_nonneg y hnz
        have hm1 := Int.emod_lt_of_pos y (show (0 : Int) < (nk1 : Int) by omega)
        have e1 : y % (nk1 : Int) = (k : Int) := by omega
        have e2 : y.tmod (nk1 : Int) = (k : Int) := by rw [Int.tmod_eq_emod_of_nonneg hy0.1]; exact e1
        have hkn : k ≤ nk := by omega
        have hkc : k ≤ ck := by omega
        have kn' : (k : Int) ≤ (nk : Int) := by omega
        have kc' : (k : Int) ≤ (ck : Int) := by omega
        obtain ⟨Ah, hAh⟩ : ∃ Ah, (if ck = k then Bk else Option.map (fun x => x.add k) Bk) = Ah := ⟨_, rfl⟩
        have hr1 := rd_tail hrk hkn hnk hAh
        have hb1 := addr_tail hAh
        have hr2 := hrk.take (k := k) hkn
        rw [Nat.mul_one, ← List.map_take] at hr2
        have hpc2 := pcOf_snoc hpc hr2 hkc hck hBk
        have hal : Fr (fun _ => False) wr (wr.alloc (.cells #[.slice Bk k ck] 22)) := (Fr.refl _ _).alloc _
        have O4 := Lib.hid (own_fr (S := fun _ => False) how hal (fun _ _ h => h))
        have X4 : Hid (Rd (wr.alloc (.cells #[.slice Bk k ck] 22)) 1 (some ⟨wr.heap.size, 0, none⟩) 1 [.slice Bk k ck]) := Rd.of_blk (n := 1) (size := 1) (Blk.new wr 22 [.slice Bk k ck]) (by simp)
        have B4 := Lib.hid (hbw.alloc hbw.size (.cells #[.slice Bk k ck] 22))
        have hs4 : Hid (w.heap.size ≤ (wr.alloc (.cells #[.slice Bk k ck] 22)).heap.size) := B4.out.size
        have HAh := Lib.hid hAh
        have HPC := Lib.hid hpc2
        have HR1 := Lib.hid hr1
        have HFL := Lib.hid hfl
        have HBL := Lib.hid hbl
        have HBK := Lib.hid hBk
        have HB1 := Lib.hid hb1
        have HY := Lib.hid hy
        have HJ := Lib.hid hj
        have HE1 := Lib.hid e1
        clear hm0 hm1 hr1 hb1 hr2 hpc2 hal hpc hrk hBk how hbw hfl hbl hcell hj hzl hnk1 hk
        by_cases hz : z < 0
        · have w1 : IntKind.i64.wrap (z + 1) = z + 1 := by rw [IntKind.wrap_i64]; omega
          have hye : -(z + 1) = y := by rw [← HY.out, if_pos hz]
          have w2 : IntKind.i64.wrap (-(z + 1)) = y := by rw [IntKind.wrap_i64]; omega
          clear hye
          go_wp2_with (first
            | (at_builtin
               refine wpList_append_rd rfl (.tmp 37) (.tmp 41) 62 rfl EBs (.slice A j c) j vs rfl O4.out (some ⟨wr.heap.size, 0, none⟩) 1 1 [.slice Bk k ck] rfl X4.out (sl_one _ _ _) (by omega) (by unfold maxLen; omega) hs4.out ?_
               intro A6 c6 w6 ho6 hf6 h26
               have O6 := Lib.hid ho6
               have B6 := Lib.hid (B4.out.trans (hf6.below hs4.out (fun i _ e => (O4.out.lt i e.symm).1)))
               clear ho6 hf6 h26))
          go_roundg g1
          case measure => omega
          case rel => exact ⟨j + 1, nk - k, ck - k, A6, c6, Ah, _, bs ++ [zs.take k], zs.drop k, by have := HJ.out; omega, by go_num, by go_num, rfl, by omega, by omega, by omega, by rw [List.flatten_append, List.flatten_singleton, List.append_assoc, List.take_append_drop]; exact HFL.out, by simp [HBL.out], HPC.out, HR1.out, fun a ha => by obtain ⟨a1, h1, h2⟩ := HB1.out a ha; obtain ⟨a0, h3, h4⟩ := HBK.out a1 h1; exact ⟨a0, h3, h2.trans h4⟩, O6.out, B6.out⟩
        · have hye : z = y := by rw [← HY.out, if_neg hz]
          subst hye
          go_wp2_with (first
            | (at_builtin
               refine wpList_append_rd rfl (.tmp 37) (.tmp 41) 62 rfl EBs (.slice A j c) j vs rfl O4.out (some ⟨wr.heap.size, 0, none⟩) 1 1 [.slice Bk k ck] rfl X4.out (sl_one _ _ _) (by omega) (by unfold maxLen; omega) hs4.out ?_
               intro A6 c6 w6 ho6 hf6 h26
               have O6 := Lib.hid ho6
               have B6 := Lib.hid (B4.out.trans (hf6.below hs4.out (fun i _ e => (O4.out.lt i e.symm).1)))
               clear ho6 hf6 h26))
          go_roundg g1
          case measure => omega
          case rel => exact ⟨j + 1, nk - k, ck - k, A6, c6, Ah, _, bs ++ [zs.take k], zs.drop k, by have := HJ.out; omega, by go_num, by go_num, rfl, by omega, by omega, by omega, by rw [List.flatten_append, List.flatten_singleton, List.append_assoc, List.take_append_drop]; exact HFL.out, by simp [HBL.out], HPC.out, HR1.out, fun a ha => by obtain ⟨a1, h1, h2⟩ := HB1.out a ha; obtain ⟨a0, h3, h4⟩ := HBK.out a1 h1; exact ⟨a0, h3, h2.trans h4⟩, O6.out, B6.out⟩
    · have hpc2 := pcOf_snoc hpc hrk hnk hck hBk
      have hal : Fr (fun _ => False) wr (wr.alloc (.cells #[.slice Bk nk ck] 22)) := (Fr.refl _ _).alloc _
      have O4 := Lib.hid (own_fr (S := fun _ => False) how hal (fun _ _ h => h))
      have X4 : Hid (Rd (wr.alloc (.cells #[.slice Bk nk ck] 22)) 1 (some ⟨wr.heap.size, 0, none⟩) 1 [.slice Bk nk ck]) := Rd.of_blk (n := 1) (size := 1) (Blk.new wr 22 [.slice Bk nk ck]) (by simp)
      have B4 := Lib.hid (hbw.alloc hbw.size (.cells #[.slice Bk nk ck] 22))
      have hs4 : Hid (w.heap.size ≤ (wr.alloc (.cells #[.slice Bk nk ck] 22)).heap.size) := B4.out.size
      have HPC := Lib.hid hpc2
      have HFL : Hid ((bs ++ [zs]).flatten = ys) := by rw [List.flatten_append, List.flatten_singleton]; exact hfl
      have HBL : Hid ((bs ++ [zs]).length = j + 1) := by show (bs ++ [zs]).length = j + 1; simp [hbl]
      have HJ1 : Hid (j + 1 ≤ 101) := by show j + 1 ≤ 101; omega
      have hways : ¬ j < nc ∨ (j < nc ∧ ¬ j < 100) ∨ (j < nc ∧ j < 100 ∧ nk = 0) := by omega
      have hj100 : j ≤ 100 := by omega
      clear hpc2 hpc hal hrk hBk how hbw hfl hbl hzl hgo hj
      rcases hways with h1 | ⟨h1, h2⟩ | ⟨h1, h2, rfl⟩
      · have k1 : ¬ (j : Int) < (nc : Int) := by omega
        go_wp2_with (first
            | (at_builtin
               refine wpList_append_rd rfl (.tmp 46) (.tmp 48) 62 rfl EBs (.slice A j c) j vs rfl O4.out (some ⟨wr.heap.size, 0, none⟩) 1 1 [.slice Bk nk ck] rfl X4.out (sl_one _ _ _) (by omega) (by unfold maxLen; omega) hs4.out ?_
               intro A6 c6 w6 ho6 hf6 h26
               have O6 := Lib.hid ho6
               have B6 := Lib.hid (B4.out.trans (hf6.below hs4.out (fun i _ e => (O4.out.lt i e.symm).1)))
               clear ho6 hf6 h26))
        go_ret
        exact ⟨A6, j + 1, c6, _, _, rfl, O6.out, B6.out, HFL.out, HJ1.out, HBL.out, HPC.out⟩
      · have k1 : (j : Int) < (nc : Int) := by omega
        have k2 : ¬ (j : Int) < 100 := by omega
        go_wp2_with (first
            | (at_builtin
               refine wpList_append_rd rfl (.tmp 46) (.tmp 48) 62 rfl EBs (.slice A j c) j vs rfl O4.out (some ⟨wr.heap.size, 0, none⟩) 1 1 [.slice Bk nk ck] rfl X4.out (sl_one _ _ _) (by omega) (by unfold maxLen; omega) hs4.out ?_
               intro A6 c6 w6 ho6 hf6 h26
               have O6 := Lib.hid ho6
               have B6 := Lib.hid (B4.out.trans (hf6.below hs4.out (fun i _ e => (O4.out.lt i e.symm).1)))
               clear ho6 hf6 h26))
        go_ret
        exact ⟨A6, j + 1, c6, _, _, rfl, O6.out, B6.out, HFL.out, HJ1.out, HBL.out, HPC.out⟩
      · have k1 : (j : Int) < (nc : Int) := by omega
        have k2 : (j : Int) < 100 := by omega
        go_wp2_with (first
            | (at_builtin
               refine wpList_append_rd rfl (.tmp 46) (.tmp 48) 62 rfl EBs (.slice A j c) j vs rfl O4.out (some ⟨wr.heap.size, 0, none⟩) 1 1 [.slice Bk 0 ck] rfl X4.out (sl_one _ _ _) (by omega) (by unfold maxLen; omega) hs4.out ?_
               intro A6 c6 w6 ho6 hf6 h26
               have O6 := Lib.hid ho6
               have B6 := Lib.hid (B4.out.trans (hf6.below hs4.out (fun i _ e => (O4.out.lt i e.symm).1)))
               clear ho6 hf6 h26))
        go_ret
        exact ⟨A6, j + 1, c6, _, _, rfl, O6.out, B6.out, HFL.out, HJ1.out, HBL.out, HPC.out⟩
end
end Go.Proofs.YtokbdkbljgdcpaaDoor

/- Same: two frames that are the same. -/
namespace Go.Proofs.YtokbdkbljgdcpaaDoor
open Go.RowKit Go.Own Go.Frm
set_option linter.unusedVariables false
set_option maxRecDepth 100000
theorem set_neq (a : Int) (v : Int) (W : World) : (binOp .neq 50 (.agg #[.int .i64 a, .int .u32 v]) (.agg #[.int .i64 a, .int .u32 v])).run Tryd.prog W = .ok (.bool false) W := by
  rw [run_neq_struct, run_equalIn_agg _ _ _ _ _ (by kernel_rfl) (by kernel_rfl)]
  simp [Program.fieldsOf, Tryd.underlying50, Op.eqFields, go_sem]
set_option maxHeartbeats 4000000 in
theorem same_c (f : Fm) {w : World} {A B A' B' : Option Addr} {np nl c d c' d' : Nat} (hp : Rd w 1 A np (f.pay.map BV)) (hl : Rd w 2 B nl (scells f.list)) (hp' : Rd w 1 A' np (f.pay.map BV)) (hl' : Rd w 2 B' nl (scells f.list)) (hnl : nl ≤ 9223372036854775807) :
    Calls Tryd.prog 16 #[.agg #[.int .i64 f.kind, .int .i64 f.stream, .bool f.fin, .bool f.eh, .bool f.ack, .bool f.prio, .slice A np c, .int .i64 f.flags, .int .i64 f.pad, .int .i64 f.depend, .bool f.excl, .int .i64 f.weight, .int .u32 (f.code : Int), .slice B nl d, .int .i64 f.last, .int .i64 f.inc], .agg #[.int .i64 f.kind, .int .i64 f.stream, .bool f.fin, .bool f.eh, .bool f.ack, .bool f.prio, .slice A' np c', .int .i64 f.flags, .int .i64 f.pad, .int .i64 f.depend, .bool f.excl, .int .i64 f.weight, .int .u32 (f.code : Int), .slice B' nl d', .int .i64 f.last, .int .i64 f.inc]] w fun e w' => e = .returned (.bool true) ∧ Below w.heap.size w w' := by
  have hll := rd_set_len hl
  have b2 : Below w.heap.size w ((w.alloc (.cells #[.int .i64 f.kind, .int .i64 f.stream, .bool f.fin, .bool f.eh, .bool f.ack, .bool f.prio, .slice A np c, .int .i64 f.flags, .int .i64 f.pad, .int .i64 f.depend, .bool f.excl, .int .i64 f.weight, .int .u32 (f.code : Int), .slice B nl d, .int .i64 f.last, .int .i64 f.inc] 27)).alloc (.cells #[.int .i64 f.kind, .int .i64 f.stream, .bool f.fin, .bool f.eh, .bool f.ack, .bool f.prio, .slice A' np c', .int .i64 f.flags, .int .i64 f.pad, .int .i64 f.depend, .bool f.excl, .int .i64 f.weight, .int .u32 (f.code : Int), .slice B' nl d', .int .i64 f.last, .int .i64 f.inc] 27)) := ((Below.refl _ w).alloc (Nat.le_refl _) _).alloc (by simp) _
  have cv1 := run_conv_bytes (c := c) (src := 22) (dst := 9) Tryd.underlying22 Tryd.underlying5 Tryd.underlying9 (hp.below b2)
  have cv2 := run_conv_bytes (c := c') (src := 22) (dst := 9) Tryd.underlying22 Tryd.underlying5 Tryd.underlying9 (hp'.below b2)
  have B2 := Lib.hid b2
  have HL := Lib.hid hl
  have HL' := Lib.hid hl'
  have HLL := Lib.hid hll
  clear hp hl hp' hl' hll b2
  go_enter Tryd.func16, Tryd.ntmps16
  go_wp2
  go_loopg [5] nl (fun gh i w' => ∃ j k : Nat, gh + j = nl ∧ i = .int .i64 (j : Int) ∧ w' = ((w.alloc (.cells #[.int .i64 f.kind, .int .i64 f.stream, .bool f.fin, .bool f.eh, .bool f.ack, .bool f.prio, .slice A np c, .int .i64 f.flags, .int .i64 f.pad, .int .i64 f.depend, .bool f.excl, .int .i64 f.weight, .int .u32 (f.code : Int), .slice B nl d, .int .i64 f.last, .int .i64 f.inc] 27)).alloc (.cells #[.int .i64 f.kind, .int .i64 f.stream, .bool f.fin, .bool f.eh, .bool f.ack, .bool f.prio, .slice A' np c', .int .i64 f.flags, .int .i64 f.pad, .int .i64 f.depend, .bool f.excl, .int .i64 f.weight, .int .u32 (f.code : Int), .slice B' nl d', .int .i64 f.last, .int .i64 f.inc] 27)).drewN k)
  case atStart => exact ⟨0, 0, by omega, rfl, rfl⟩
  case round =>
    obtain ⟨j, k, hj, rfl, rfl⟩ := hrel
    cases gk with
    | succ g1 =>
      have k1 : (j : Int) < (nl : Int) := by omega
      have hjl : j < f.list.length := by rw [HLL.out]; omega
      have hat : f.list[j]? = some f.list[j] := List.getElem?_eq_getElem hjl
      obtain ⟨⟨s1, s2⟩, hs⟩ : ∃ s, f.list[j] = s := ⟨_, rfl⟩
      rw [hs] at hat
      obtain ⟨b, o, rfl, c0, c1⟩ := rd_set HL.out hat
      obtain ⟨b', o', rfl, c0', c1'⟩ := rd_set HL'.out hat
      have e0 := (B2.out.cell (World.block_lt_of_cell? _ _ c0)).trans c0
      have e1 := (B2.out.cell (World.block_lt_of_cell? _ _ c1)).trans c1
      have e0' := (B2.out.cell (World.block_lt_of_cell? _ _ c0')).trans c0'
      have e1' := (B2.out.cell (World.block_lt_of_cell? _ _ c1')).trans c1'
      have neq := fun W => set_neq s1 (s2 : Int) W
      have HJ := Lib.hid hj
      clear hat hs c0 c1 c0' c1' hj
      go_wp2
      go_quiet (fail)
      go_wp2
      go_roundg g1
      case measure => omega
      case rel => exact ⟨j + 1, _, by have := HJ.out; omega, by go_num, rfl⟩
    | zero =>
      obtain rfl : j = nl := by omega
      go_wp2
      go_ret
      exact ⟨rfl, below_drewN B2.out k⟩
end Go.Proofs.YtokbdkbljgdcpaaDoor
