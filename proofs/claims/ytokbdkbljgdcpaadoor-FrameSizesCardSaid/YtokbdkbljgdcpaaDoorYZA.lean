/- Several texts in one: Shape, LwF, LwG, LwI, LwK, LwL0. -/
import Derived.Test.YtokbdkbljgdcpaaDoorY1
import Derived.Test.YtokbdkbljgdcpaaDoorY47
import Derived.Test.YtokbdkbljgdcpaaDoorY48
import Derived.Laws.OwnMore
import Derived.Deep.Cut
import Derived.Deep.LoopGhost
import Derived.Deep.DeepCutAuto
/- What a reading of an argument says of its cells, by the program's own types: a slice of slices, of structs .. in one word. No condition; nothing of the program. -/
namespace Go.Own
open Go.RowKit Go.ChangeShapes Go.WideShapes Go.ChangeAt

/-- the cells cs read as a value of type t, d levels down -/
def HoldsT (P : Program) (W : World) : Nat → TypeId → List Value → Prop
  | 0, _, _ => True
  | d + 1, t, cs => match P.underlying t with
    | some (.int k) => ∃ n, cs = [.int k n] ∧ (Lit.int k n).wf = true
    | some .bool => ∃ b, cs = [.bool b]
    | some .string => ∃ s : ByteArray, cs = [.string s] ∧ s.size ≤ 140737488351232
    | some (.slice e) => ∃ (A : Option Addr) (len cap : Nat) (vs : List Value), cs = [.slice A len cap] ∧ len ≤ cap ∧ cap ≤ 9223372036854775807 ∧ cap * P.bytesOf e ≤ 140737488351232 ∧ (0 < P.cellsOf e → Rd W (P.cellsOf e) A len vs) ∧
        ∀ i, i < len → HoldsT P W d e ((vs.drop (i * P.cellsOf e)).take (P.cellsOf e))
    | some (.struct fs) => cs.length = P.cellsOf t ∧ ∀ (i : Nat) (f : Field), fs[i]? = some f → HoldsT P W d f.type ((cs.drop f.offset).take (P.cellsOf f.type))
    | _ => True

theorem weightsAll_mem {H : Type} {P : Program} {e : TypeId} : ∀ {l : List (DataW H)} {d : DataW H}, d ∈ l → ∀ n ∈ d.weights P e, n ∈ DataW.weightsAll P e l
  | x :: r, d, h, n, hn => by
    simp only [DataW.weightsAll, List.mem_append]
    rcases List.mem_cons.1 h with rfl | h
    · exact .inl hn
    · exact .inr (weightsAll_mem h n hn)
theorem add_add (a : Addr) (i j : Nat) : (a.add i).add j = a.add (i + j) := by
  unfold Addr.add
  by_cases hi : i = 0 <;> by_cases hj : j = 0 <;> simp [hi, hj, Nat.add_assoc]
theorem mapM_get {α β : Type} {f : α → Option β} : ∀ {l : List α} {r : List β}, l.mapM f = some r → r.length = l.length ∧ ∀ (i : Nat) (x : α), l[i]? = some x → f x = r[i]?
  | [], r, h => by
    simp at h
    subst h
    simp
  | a :: l, r, h => by
    simp only [List.mapM_cons, Option.pure_def, Option.bind_eq_bind, Option.bind_eq_some_iff, Option.some.injEq] at h
    obtain ⟨b, hb, r', hr, rfl⟩ := h
    obtain ⟨h1, h2⟩ := mapM_get hr
    refine ⟨by simp [h1], fun i x hi => ?_⟩
    cases i with
    | zero => simp at hi; subst hi; simpa using hb
    | succ i => simpa using h2 i x (by simpa using hi)
theorem cells_get {w : World} {a : Addr} {n : Nat} {l : List Value} (h : w.cells? 0 a n = some l) : l.length = n ∧ ∀ j, j < n → w.cell? (a.add j) = l[j]? := by
  simp only [World.cells?, Nat.zero_le, if_true] at h
  obtain ⟨h1, h2⟩ := mapM_get h
  exact ⟨by simpa using h1, fun j hj => h2 j j (by simp [hj])⟩

theorem rd_of_parts {W : World} {a : Addr} {c len : Nat} (hc : 0 < c) (part : Nat → List Value) (h : ∀ i, i < len → W.cells? 0 (a.add (i * c)) c = some (part i)) :
    ∃ vs, Rd W c (some a) len vs ∧ ∀ i, i < len → (vs.drop (i * c)).take c = part i := by
  have hp : ∀ i, i < len → (part i).length = c := fun i hi => (cells_get (h i hi)).1
  have key : ∀ m, m ≤ len → ∃ vs : List Value, vs.length = m * c ∧ (∀ i, i < m → (vs.drop (i * c)).take c = part i) ∧ ∀ j u, vs[j]? = some u → W.cell? (a.add j) = some u := by
    intro m
    induction m with
    | zero => intro _; exact ⟨[], by simp, fun i hi => by omega, fun j u hu => by simp at hu⟩
    | succ m ih =>
      intro hm
      obtain ⟨vs, h1, h2, h3⟩ := ih (by omega)
      have hlen := hp m (by omega)
      refine ⟨vs ++ part m, by rw [List.length_append, h1, hlen, Nat.succ_mul], fun i hi => ?_, fun j u hu => ?_⟩
      · rcases Nat.lt_or_ge i m with hlt | hge
        · have hb : i * c + c ≤ vs.length := by rw [h1, ← Nat.succ_mul]; exact Nat.mul_le_mul_right _ hlt
          rw [List.drop_append_of_le_length (by omega), List.take_append_of_le_length (by rw [List.length_drop]; omega)]
          exact h2 i hlt
        · obtain rfl : i = m := by omega
          rw [List.drop_append, List.drop_of_length_le (by omega), h1, Nat.sub_self, List.drop_zero, List.nil_append, List.take_of_length_le (by omega)]
      · rcases Nat.lt_or_ge j vs.length with hlt | hge
        · rw [List.getElem?_append_left hlt] at hu
          exact h3 j u hu
        · rw [List.getElem?_append_right hge] at hu
          have hj : j - vs.length < c := by
            rcases Nat.lt_or_ge (j - vs.length) c with hx | hx
            · exact hx
            · rw [List.getElem?_eq_none (by omega)] at hu; cases hu
          have := (cells_get (h m (by omega))).2 (j - vs.length) hj
          rw [add_add, hu] at this
          rw [← this]
          congr 2
          omega
  obtain ⟨vs, h1, h2, h3⟩ := key len (Nat.le_refl _)
  refine ⟨vs, ⟨h1, fun hn => ?_⟩, h2⟩
  have hl0 : 0 < vs.length := by rw [h1]; exact Nat.mul_pos hn hc
  have h0 := h3 0 vs[0] (List.getElem?_eq_getElem hl0)
  obtain ⟨b, o, spot⟩ := a
  have hspot : spot = none := by simpa [Addr.add] using World.cell?_spot h0
  subst hspot
  exact ⟨b, o, rfl, fun j u hu => by have := h3 j u hu; rwa [add_plain] at this⟩

theorem holdsT_of_trod {H : Type} {enc : TypeId × Value → H} {P : Program} {W : World} : ∀ (d : Nat) {t : TypeId} {cs : List Value} {fuel : Nat} {x : DataW H × List MemPlace},
    DataW.trod enc P W 0 (fun _ => true) true fuel t cs = some x → (∀ n ∈ x.1.weights P t, n ≤ reachBytes) → HoldsT P W d t cs
  | 0, _, _, _, _, _, _ => trivial
  | d + 1, t, cs, fuel, x, h, hw => by
    unfold HoldsT
    split
    · rename_i k ht
      obtain ⟨n, rfl, _, hn⟩ := DataW.trod_int ht h
      exact ⟨n, rfl, hn⟩
    · rename_i ht
      obtain ⟨b, rfl, _⟩ := DataW.trod_bool ht h
      exact ⟨b, rfl⟩
    · rename_i ht
      obtain ⟨s, rfl, rfl, hs⟩ := DataW.trod_string ht h
      refine ⟨s, rfl, ?_⟩
      have := hw s.data.toList.length (by simp [DataW.weights])
      simp only [reachBytes] at this
      have e : s.data.toList.length = s.size := by rw [Array.length_toList]; rfl
      omega
    · rename_i e ht
      rcases DataW.trod_slice ht h with ⟨rfl, rfl⟩ | ⟨a, len, cap, elems, rest, n, rfl, rfl, rfl, _, hl, hm, hel, hparts, hrest, _⟩
      · exact ⟨none, 0, 0, [], rfl, Nat.le_refl _, by omega, by omega, fun _ => Rd.nil _ _ _, fun i hi => by omega⟩
      · obtain ⟨hr1, _⟩ := hrest rfl
        have hsz := hw ((elems.length + rest.length) * P.bytesOf e) (by simp [DataW.weights, ht])
        simp only [reachBytes] at hsz
        have hcap : elems.length + rest.length = cap := by omega
        rw [hcap] at hsz
        have hpart : ∀ i, i < len → ∃ p y, W.cells? 0 (a.add (i * P.cellsOf e)) (P.cellsOf e) = some p ∧ elems[i]? = some y ∧ DataW.trod enc P W 0 (fun _ => true) true n e p = some y := by
          intro i hi
          have hy : elems[i]? = some elems[i] := List.getElem?_eq_getElem (by omega)
          have := hparts i hi
          rw [hy, Option.bind_eq_some_iff] at this
          obtain ⟨p, hp, hd⟩ := this
          exact ⟨p, _, hp, hy, hd⟩
        let part : Nat → List Value := fun i => (W.cells? 0 (a.add (i * P.cellsOf e)) (P.cellsOf e)).getD []
        have hp : ∀ i, i < len → W.cells? 0 (a.add (i * P.cellsOf e)) (P.cellsOf e) = some (part i) := fun i hi => by
          obtain ⟨p, _, hp, _⟩ := hpart i hi
          simp only [part, hp, Option.getD_some]
        have each : ∀ i, i < len → HoldsT P W d e (part i) := fun i hi => by
          obtain ⟨p, y, hp', hy, hd⟩ := hpart i hi
          have hpe : part i = p := by simp only [part, hp', Option.getD_some]
          rw [hpe]
          refine holdsT_of_trod d hd (fun m hm' => hw m ?_)
          simp only [DataW.weights, ht, List.mem_cons, List.mem_append]
          exact .inr (.inl (weightsAll_mem (List.mem_map.2 ⟨y, List.mem_of_getElem? hy, rfl⟩) m hm'))
        rcases Nat.eq_zero_or_pos (P.cellsOf e) with hc | hc
        · refine ⟨some a, len, cap, [], rfl, hl, by unfold maxLen at hm; omega, hsz, fun h => by omega, fun i hi => ?_⟩
          have := each i hi
          have hl0 := (cells_get (hp i hi)).1
          have e0 : part i = [] := List.eq_nil_of_length_eq_zero (by omega)
          rw [e0] at this
          simpa [hc] using this
        · obtain ⟨vs, hrd, hvs⟩ := rd_of_parts hc part hp
          exact ⟨some a, len, cap, vs, rfl, hl, by unfold maxLen at hm; omega, hsz, fun _ => hrd, fun i hi => by rw [hvs i hi]; exact each i hi⟩
    · rename_i fs ht
      obtain ⟨xs, n, rfl, rfl, hlen, hxs, hf⟩ := DataW.trod_struct ht h
      refine ⟨hlen, fun i f hif => ?_⟩
      have hi : i < fs.size := (Array.getElem?_eq_some_iff.1 hif).1
      have hx : xs[i]? = some xs[i] := List.getElem?_eq_getElem (by omega)
      have hd := hf i f hif
      rw [hx] at hd
      refine holdsT_of_trod d hd (fun m hm => hw m ?_)
      simp only [DataW.weights, ht]
      exact DataW.weights_mem_each (j := i) (t := f.type) (d := xs[i].1) (by simp [List.getElem?_map, hif]) (by simp [hx]) m hm
    · trivial

section
variable {P : Program} {W : World} {d : Nat} {t e : TypeId}
theorem weights_of {H : Type} {ts : List TypeId} {ds : List (DataW H)} (h : (DataW.weightsEach P ts ds).all (· ≤ reachBytes) = true) {j : Nat} {x : DataW H} (ht : ts[j]? = some t) (hd : ds[j]? = some x) : ∀ n ∈ x.weights P t, n ≤ reachBytes := fun n hn => by
  have := List.all_eq_true.1 h _ (DataW.weights_mem_each ht hd n hn)
  simpa using this
/-- an argument that is a slice -/
theorem opened_slice {H : Type} {enc : TypeId × Value → H} {base : Nat} {v : Value} {x : DataW H} {ps : List MemPlace} (dep : Nat) (ht : P.underlying t = some (.slice e)) (hv : Value.okWide P W .any base t v)
    (h : DataW.Trod enc P W 0 (fun _ => true) true t v x ps) (hw : ∀ n ∈ x.weights P t, n ≤ reachBytes) : ∃ A len cap, v = .slice A len cap ∧ HoldsT P W dep t [.slice A len cap] := by
  obtain ⟨A, len, cap, rfl⟩ := okWide_slice ht hv
  obtain ⟨fuel, hf⟩ := h
  exact ⟨A, len, cap, rfl, holdsT_of_trod dep (by simpa [Value.cells] using hf) hw⟩
theorem HoldsT.slice {A : Option Addr} {len cap : Nat} (ht : P.underlying t = some (.slice e)) (h : HoldsT P W (d + 1) t [.slice A len cap]) :
    len ≤ cap ∧ cap ≤ 9223372036854775807 ∧ cap * P.bytesOf e ≤ 140737488351232 ∧ ∃ vs, (0 < P.cellsOf e → Rd W (P.cellsOf e) A len vs) ∧ ∀ i, i < len → HoldsT P W d e ((vs.drop (i * P.cellsOf e)).take (P.cellsOf e)) := by
  unfold HoldsT at h
  rw [ht] at h
  obtain ⟨A', len', cap', vs, e1, h1, h2, h3, h4, h5⟩ := h
  simp only [List.cons.injEq, Value.slice.injEq, and_true] at e1
  obtain ⟨rfl, rfl, rfl⟩ := e1
  exact ⟨h1, h2, h3, vs, h4, h5⟩
/-- one element of one cell -/
theorem HoldsT.at_ {A : Option Addr} {len cap k : Nat} (ht : P.underlying t = some (.slice e)) (hc : P.cellsOf e = 1) (h : HoldsT P W (d + 1) t [.slice A len cap]) (hk : k < len) :
    ∃ b o v, A = some ⟨b, o, none⟩ ∧ W.cell? ⟨b, o + k, none⟩ = some v ∧ HoldsT P W d e [v] := by
  obtain ⟨_, _, _, vs, hr, hv⟩ := h.slice ht
  rw [hc] at hr
  obtain ⟨b, o, u, hA, hu, hcell⟩ := (hr (by omega)).at_ hk
  refine ⟨b, o, u, hA, hcell, ?_⟩
  have := hv k hk
  rw [hc, Nat.mul_one] at this
  have hlt : k < vs.length := by
    rcases Nat.lt_or_ge k vs.length with hx | hx
    · exact hx
    · rw [List.getElem?_eq_none hx] at hu; cases hu
  rw [List.drop_eq_getElem_cons hlt, List.take_succ_cons, List.take_zero] at this
  rw [List.getElem?_eq_getElem hlt] at hu
  cases hu
  exact this
theorem HoldsT.int {k : IntKind} {v : Value} (ht : P.underlying t = some (.int k)) (h : HoldsT P W (d + 1) t [v]) : ∃ n, v = .int k n ∧ (Lit.int k n).wf = true := by
  unfold HoldsT at h
  rw [ht] at h
  obtain ⟨n, e1, hn⟩ := h
  exact ⟨n, by simpa using e1, hn⟩
theorem HoldsT.bool {v : Value} (ht : P.underlying t = some .bool) (h : HoldsT P W (d + 1) t [v]) : ∃ b, v = .bool b := by
  unfold HoldsT at h
  rw [ht] at h
  obtain ⟨n, e1⟩ := h
  exact ⟨n, by simpa using e1⟩
theorem HoldsT.string {v : Value} (ht : P.underlying t = some .string) (h : HoldsT P W (d + 1) t [v]) : ∃ s : ByteArray, v = .string s ∧ s.size ≤ 140737488351232 := by
  unfold HoldsT at h
  rw [ht] at h
  obtain ⟨n, e1, hn⟩ := h
  exact ⟨n, by simpa using e1, hn⟩
theorem HoldsT.isSlice {v : Value} (ht : P.underlying t = some (.slice e)) (h : HoldsT P W (d + 1) t [v]) : ∃ A len cap, v = .slice A len cap := by
  unfold HoldsT at h
  rw [ht] at h
  obtain ⟨A, len, cap, _, e1, _⟩ := h
  exact ⟨A, len, cap, by simpa using e1⟩
/-- a slice of bytes -/
theorem HoldsT.bytes {A : Option Addr} {len cap : Nat} (ht : P.underlying t = some (.slice e)) (he : P.underlying e = some (.int .u8)) (hc : P.cellsOf e = 1) (h : HoldsT P W (d + 2) t [.slice A len cap]) :
    ∃ xs : List UInt8, Rd W 1 A len (xs.map BV) := by
  obtain ⟨_, _, _, vs, hr, hv⟩ := HoldsT.slice (d := d + 1) ht h
  rw [hc] at hr hv
  have hrd := hr (by omega)
  have hl : vs.length = len := by simpa using hrd.1
  have each : ∀ v ∈ vs, ∃ n, v = .int .u8 n ∧ (Lit.int .u8 n).wf = true := by
    intro v hm
    obtain ⟨i, hi, rfl⟩ := List.getElem_of_mem hm
    have := hv i (by omega)
    rw [Nat.mul_one, List.drop_eq_getElem_cons hi, List.take_succ_cons, List.take_zero] at this
    exact HoldsT.int he this
  have hb : ∀ (l : List Value), (∀ v ∈ l, ∃ n, v = .int .u8 n ∧ (Lit.int .u8 n).wf = true) → ∃ xs : List UInt8, l = xs.map BV := by
    intro l
    induction l with
    | nil => intro _; exact ⟨[], rfl⟩
    | cons v l ih =>
      intro hall
      obtain ⟨xs, rfl⟩ := ih (fun u hu => hall u (List.mem_cons_of_mem _ hu))
      obtain ⟨n, rfl, hn⟩ := hall v List.mem_cons_self
      refine ⟨UInt8.ofNat n.toNat :: xs, ?_⟩
      have hbd : 0 ≤ n ∧ n ≤ 255 := by simpa [Lit.wf, IntKind.min, IntKind.max, IntKind.signed, IntKind.bits] using hn
      rw [List.map_cons]
      congr 1
      simp only [BV]
      congr 1
      simp
      omega
  obtain ⟨xs, rfl⟩ := hb vs each
  exact ⟨xs, hrd⟩
end
end Go.Own

/- head9; a parser's answers, named. -/
namespace Go.Proofs.YtokbdkbljgdcpaaDoor
open Go.RowKit Go.Own Go.Frm
set_option linter.unusedVariables false
set_option maxRecDepth 100000
section
variable {w w0 : World} {L : List Ob} {p m : Nat}
/-- Next, its answer named -/
theorem next_n {f : Fm} {b : Bool} {c : Nat} {z : Int} {ok : Bool} {st st' : Pst} (s : St (fun _ => False) w0 w (PFo p m st :: L)) (hG : Gl w0) (h : nextP m st = (⟨f, ⟨b, c, z⟩, ok⟩, st')) :
    Calls Tryd.prog 21 #[.pointer (some ⟨p, 0, none⟩)] w fun e w' => ∃ pv lv, e = .returned (.tuple #[.agg #[.int .i64 f.kind, .int .i64 f.stream, .bool f.fin, .bool f.eh, .bool f.ack, .bool f.prio, pv, .int .i64 f.flags, .int .i64 f.pad, .int .i64 f.depend, .bool f.excl, .int .i64 f.weight, .int .u32 (f.code : Int), lv, .int .i64 f.last, .int .i64 f.inc], .agg #[.bool b, .int .u32 (c : Int), .int .i64 z], .bool ok]) ∧ FrOwn w' w.heap.size f pv lv ∧ St (fun _ => False) w0 w' (PFo p m st' :: L) ∧ w.heap.size ≤ w'.heap.size := by
  refine (next_s s hG).mono ?_
  rintro e w' ⟨pv, lv, rfl, ho, hs, hz⟩
  rw [h] at hs ho ⊢
  exact ⟨pv, lv, rfl, ho, hs, hz⟩
theorem feed_own_n {st : Pst} (s : St (fun _ => False) w0 w (PFo p m st :: L)) {base n : Nat} {v : Value} {xs : List Value} (hm : SLo base 5 1 v n xs ∈ L) {B : Option Addr} {nb cb : Nat} {ys : List UInt8} (hv : ∀ a, B = some a → v.ownBlock = some a.block) (hr : Rd w 1 B nb (ys.map BV)) (hnc : nb ≤ cb) (hcb : cb ≤ 9223372036854775807) (q : Nat) (hq : feedN m st nb = q) (st' : Pst) (hst : feedP m st ys = st') :
    Calls Tryd.prog 23 #[.pointer (some ⟨p, 0, none⟩), .slice B nb cb] w fun e w' => e = .returned (.int .i64 (q : Int)) ∧ St (fun _ => False) w0 w' (PFo p m st' :: L) := by
  have h := feed_own s hm hv hr hnc hcb
  rw [hq, hst] at h
  exact h
end
theorem be3 (n : Nat) : be n 3 = [UInt8.ofNat (n / 65536), UInt8.ofNat (n / 256), UInt8.ofNat n] := by
  simp [be, Nat.div_div_eq_div_mul]
theorem be4 (n : Nat) : be n 4 = [UInt8.ofNat (n / 16777216), UInt8.ofNat (n / 65536), UInt8.ofNat (n / 256), UInt8.ofNat n] := by
  simp [be, Nat.div_div_eq_div_mul]
theorem bvn (x : Nat) (y : Int) (h : y = ((x % 256 : Nat) : Int)) : BV (UInt8.ofNat x) = .int .u8 y := by
  subst h
  show Value.int .u8 _ = _
  simp
set_option maxHeartbeats 1000000 in
theorem head9_c (n k fl s : Nat) (hn : n < 16777216) (hk : k < 256) (hf : fl < 256) (hs : s < 2147483648) (w : World) :
    Calls Tryd.prog 28 #[.int .i64 (n : Int), .int .i64 (k : Int), .int .i64 (fl : Int), .int .i64 (s : Int)] w fun e w' => ∃ g, e = .returned (.slice (some ⟨g, 0, none⟩) 9 9) ∧ w'.ownsRow w.heap.size 5 1 (.slice (some ⟨g, 0, none⟩) 9 9) 9 ((headB n k fl s).map BV) ∧ Below w.heap.size w w' := by
  go_enter Tryd.func28, Tryd.ntmps28
  go_wp2
  go_ret
  have e : (headB n k fl s).map BV = [.int .u8 ((n : Int) / 65536), .int .u8 ((n : Int) / 256 % 256), .int .u8 ((n : Int) % 256), .int .u8 (k : Int), .int .u8 (fl : Int), .int .u8 ((s : Int) / 16777216), .int .u8 ((s : Int) / 65536 % 256), .int .u8 ((s : Int) / 256 % 256), .int .u8 ((s : Int) % 256)] := by
    simp only [headB, be3, be4, be1, List.map_cons, List.map_nil, List.cons_append, List.nil_append]
    rw [bvn (n / 65536) ((n : Int) / 65536) (by omega), bvn (n / 256) ((n : Int) / 256 % 256) (by omega), bvn n ((n : Int) % 256) (by omega), bvn k (k : Int) (by omega), bvn fl (fl : Int) (by omega), bvn (s / 16777216) ((s : Int) / 16777216) (by omega), bvn (s / 65536) ((s : Int) / 65536 % 256) (by omega), bvn (s / 256) ((s : Int) / 256 % 256) (by omega), bvn s ((s : Int) % 256) (by omega)]
  refine ⟨w.heap.size, rfl, ?_, (Below.refl _ _).alloc (Nat.le_refl _) _⟩
  rw [e]
  exact World.ownsRow_lit w _ 9 (Nat.le_refl _) (by unfold maxLen; omega) rfl
end Go.Proofs.YtokbdkbljgdcpaaDoor

/- The law FrameStreams. -/
namespace Go.Proofs.YtokbdkbljgdcpaaDoor
open Go.RowKit Go.Own Go.Frm
set_option linter.unusedVariables false
set_option maxRecDepth 100000
theorem and_mask (z : Int) (e : Nat) (he : e < 63) (M : Int) (hM : M = ((2 ^ e - 1 : Nat) : Int)) : bits .and .i64 z M = (((z % ((2 ^ e : Nat) : Int)).toNat : Nat) : Int) := by
  subst hM
  have h2 : 2 ^ e < 2 ^ 63 := Nat.pow_lt_pow_right (by omega) he
  have h0 : 0 < 2 ^ e := Nat.two_pow_pos e
  show IntKind.i64.wrap ((BitVec.ofInt 64 z &&& BitVec.ofInt 64 ((2 ^ e - 1 : Nat) : Int)).toNat : Int) = _
  rw [BitVec.toNat_and, ofInt64 (2 ^ e - 1) (by omega), BitVec.toNat_ofInt, Nat.and_two_pow_sub_one_eq_mod]
  have hd : ((2 ^ e : Nat) : Int) ∣ ((2 ^ 64 : Nat) : Int) := Int.natCast_dvd_natCast.2 (Nat.pow_dvd_pow 2 (by omega))
  have h3 : z % ((2 ^ 64 : Nat) : Int) % ((2 ^ e : Nat) : Int) = z % ((2 ^ e : Nat) : Int) := Int.emod_emod_of_dvd z hd
  have h4 : 0 ≤ z % ((2 ^ 64 : Nat) : Int) := Int.emod_nonneg _ (by omega)
  have h5 : 0 ≤ z % ((2 ^ e : Nat) : Int) := Int.emod_nonneg _ (by omega)
  have h6 : z % ((2 ^ e : Nat) : Int) < ((2 ^ e : Nat) : Int) := Int.emod_lt_of_pos _ (by omega)
  have h7 : (((z % ((2 ^ 64 : Nat) : Int)).toNat % 2 ^ e : Nat) : Int) = z % ((2 ^ e : Nat) : Int) := by
    rw [Int.natCast_emod, Int.toNat_of_nonneg h4, h3]
  rw [h7, Int.toNat_of_nonneg h5, IntKind.wrap_i64]
  generalize z % ((2 ^ e : Nat) : Int) = q at *
  omega
theorem u8_of {n : Int} (h : (Lit.int .u8 n).wf = true) : 0 ≤ n ∧ n ≤ 255 := by
  simpa [Lit.wf, IntKind.min, IntKind.max, IntKind.signed, IntKind.bits] using h
/-- what a parser tells of a head and a payload -/
theorem told_one (m n k fl s : Nat) (ys : List UInt8) (hn : ys.length = n) (hm : n ≤ m) (hm2 : m ≤ 16777215) (hk : k < 256) (hf : fl < 256) (hs : s < 2147483648) : nextP m ⟨headB n k fl s ++ ys, false⟩ = Go.Frm.settle (parseP k fl s ys) [] := by
  obtain ⟨a1, a2, a3, a4⟩ := head_parts n k fl s (by omega) hk hf hs ys
  unfold nextP
  simp only [Bool.false_or]
  have hl := headB_len n k fl s
  rw [a1, a2, a3, a4, decide_eq_false (by rw [List.length_append, hl]; omega), decide_eq_false (by omega), decide_eq_false (by rw [List.length_append, hl]; omega)]
  have d9 : (headB n k fl s ++ ys).drop 9 = ys := by rw [List.drop_append_of_le_length (by omega), List.drop_of_length_le (by omega), List.nil_append]
  rw [← List.drop_drop, d9, List.take_of_length_le (by omega), List.drop_of_length_le (by omega)]
  rfl
/-- while it is not all there nothing is told -/
theorem told_not (m n k fl s : Nat) (ys : List UInt8) (hn : ys.length + 1 ≤ n) (hm : n ≤ m) (hm2 : m ≤ 16777215) (hk : k < 256) (hf : fl < 256) (hs : s < 2147483648) : nextP m ⟨headB n k fl s ++ ys, false⟩ = (none_, ⟨headB n k fl s ++ ys, false⟩) := by
  obtain ⟨a1, a2, a3, a4⟩ := head_parts n k fl s (by omega) hk hf hs ys
  unfold nextP
  simp only [Bool.false_or]
  have hl := headB_len n k fl s
  rw [a1, decide_eq_false (by rw [List.length_append, hl]; omega), decide_eq_false (by omega), decide_eq_true (by rw [List.length_append, hl]; omega)]
  rfl
theorem told_less (m : Nat) (xs : List UInt8) (h : xs.length < 9) : nextP m ⟨xs, false⟩ = (none_, ⟨xs, false⟩) := by
  unfold nextP
  simp only [Bool.false_or]
  rw [decide_eq_true h]; rfl
/-- all but the last octet: nothing is told -/
theorem told_cut (m n k fl s : Nat) (ys : List UInt8) (hn : ys.length = n) (hm : n ≤ m) (hm2 : m ≤ 16777215) (hk : k < 256) (hf : fl < 256) (hs : s < 2147483648) : nextP m ⟨(headB n k fl s ++ ys).take (8 + n), false⟩ = (none_, ⟨(headB n k fl s ++ ys).take (8 + n), false⟩) := by
  have hl := headB_len n k fl s
  by_cases h : n = 0
  · refine told_less m _ ?_
    rw [List.length_take]; omega
  · have e : (headB n k fl s ++ ys).take (8 + n) = headB n k fl s ++ ys.take (n - 1) := by
      rw [List.take_append, hl, List.take_of_length_le (by omega), show 8 + n - 9 = n - 1 by omega]
    rw [e]
    exact told_not m n k fl s _ (by rw [List.length_take]; omega) hm hm2 hk hf hs
/-- a fault of parseP is as the document says -/
theorem fault_kind (k fl s : Nat) (xs : List UInt8) (h : stray k s = false) : (parseP k fl s xs).2.is = false ∨ (parseP k fl s xs).2.stream = 0 ∨ ((parseP k fl s xs).2.stream = (s : Int) ∧ (k = 2 ∨ k = 8)) := by
  unfold parseP
  rw [h]
  cases badSize k fl xs.length with
  | true =>
    right
    by_cases h2 : k = 2
    · subst h2; exact .inr ⟨rfl, .inl rfl⟩
    · left
      have : (k == 2) = false := by simpa using h2
      show (bif k == 2 then (s : Int) else 0) = 0
      rw [this]; rfl
  | false =>
    cases (padded k fl && decide (xs.length - must k fl < (xs.headD 0).toNat)) with
    | true => exact .inr (.inl rfl)
    | false =>
      cases hu : (unfitP (readP k fl s xs)).is with
      | false => left; simp only [cond_false]; rfl
      | true =>
        right
        simp only [cond_false, cond_true]
        unfold unfitP
        cases ((readP k fl s xs).kind == 5 && (readP k fl s xs).last == 0) with
        | true => exact .inl rfl
        | false =>
          cases h8 : ((readP k fl s xs).kind == 8 && (readP k fl s xs).inc == 0) with
          | false => exact .inl rfl
          | true =>
            right
            simp only [Bool.and_eq_true, beq_iff_eq] at h8
            have hk : ((k : Nat) : Int) = 8 := h8.1
            exact ⟨rfl, .inr (by omega)⟩
end Go.Proofs.YtokbdkbljgdcpaaDoor

/- The law FrameHeld. -/
namespace Go.Proofs.YtokbdkbljgdcpaaDoor
open Go.RowKit Go.Own Go.Frm
set_option linter.unusedVariables false
set_option maxRecDepth 100000
section
variable {w w0 : World} {L : List Ob} {p m : Nat}
theorem feed_in_n {st : Pst} (s : St (fun _ => False) w0 w (PFo p m st :: L)) {B : Option Addr} {nb cb : Nat} {ys : List UInt8} (hr : Rd w0 1 B nb (ys.map BV)) (hnc : nb ≤ cb) (hcb : cb ≤ 9223372036854775807) (q : Nat) (hq : feedN m st nb = q) (st' : Pst) (hst : feedP m st ys = st') :
    Calls Tryd.prog 23 #[.pointer (some ⟨p, 0, none⟩), .slice B nb cb] w fun e w' => e = .returned (.int .i64 (q : Int)) ∧ St (fun _ => False) w0 w' (PFo p m st' :: L) := by
  have h := feed_in0 s hr hnc hcb
  rw [hq, hst] at h
  exact h
theorem size_n {st : Pst} (s : St (fun _ => False) w0 w (PFo p m st :: L)) (n : Nat) (hn : st.held.length = n) : Calls Tryd.prog 25 #[.pointer (some ⟨p, 0, none⟩)] w fun e w' => e = .returned (.int .i64 (n : Int)) ∧ w' = w := by
  have h := size_s s
  rw [hn] at h
  exact h
theorem par_ok {st : Pst} (s : St (fun _ => False) w0 w (PFo p m st :: L)) : st.ok ∧ st.held.length ≤ 16777224 ∧ 16384 ≤ m ∧ m ≤ 16777215 := by
  obtain ⟨F, hF, _⟩ := s.focus0
  exact hF.ok
end
theorem rd_lt {W : World} {A : Option Addr} {n : Nat} {xs : List UInt8} (h : Rd W 1 A n (xs.map BV)) (hn : 0 < n) : ∀ a, A = some a → a.block < W.heap.size := by
  intro a ha
  have hl : xs.length = n := by simpa using h.1
  obtain ⟨b, o, hA, hc⟩ := h.2 hn
  rw [ha] at hA
  cases hA
  have := hc 0 (BV xs[0]) (by simp [List.getElem?_eq_getElem (show 0 < xs.length by omega)])
  exact World.block_lt_of_cell? _ _ this
/-- what the law's step i sees -/
theorem byt_at {W : World} {A : Option Addr} {n c i : Nat} (h : HoldsT Tryd.prog W 3 62 [.slice A n c]) (hi : i < n) :
    ∃ (b o : Nat) (B : Option Addr) (nb cb : Nat) (ys : List UInt8), A = some ⟨b, o, none⟩ ∧ W.cell? ⟨b, o + i, none⟩ = some (.slice B nb cb) ∧ Rd W 1 B nb (ys.map BV) ∧ nb ≤ cb ∧ cb ≤ 140737488351232 := by
  obtain ⟨b, o, v, rfl, hc, hv⟩ := HoldsT.at_ (d := 2) Tryd.underlying62 (by kernel_rfl) h hi
  obtain ⟨B, nb, cb, rfl⟩ := HoldsT.isSlice (d := 1) Tryd.underlying22 hv
  obtain ⟨ys, hr⟩ := HoldsT.bytes (d := 0) Tryd.underlying22 Tryd.underlying5 (by kernel_rfl) hv
  obtain ⟨h1, h2, h3, _⟩ := HoldsT.slice (d := 1) Tryd.underlying22 hv
  have hb : Tryd.prog.bytesOf 5 = 1 := by kernel_rfl
  rw [hb] at h3
  exact ⟨b, o, B, nb, cb, ys, rfl, hc, hr, h1, by omega⟩
theorem bool_at {W : World} {A : Option Addr} {n c i : Nat} (h : HoldsT Tryd.prog W 3 67 [.slice A n c]) (hi : i < n) : ∃ (b o : Nat) (v : Bool), A = some ⟨b, o, none⟩ ∧ W.cell? ⟨b, o + i, none⟩ = some (.bool v) := by
  obtain ⟨b, o, v, rfl, hc, hv⟩ := HoldsT.at_ (d := 2) Tryd.underlying67 (by kernel_rfl) h hi
  obtain ⟨x, rfl⟩ := HoldsT.bool (d := 1) Tryd.underlying4 hv
  exact ⟨b, o, x, rfl, hc⟩
end Go.Proofs.YtokbdkbljgdcpaaDoor

/- The law FrameSizes: its mathematics. -/
namespace Go.Proofs.YtokbdkbljgdcpaaDoor
open Go.RowKit Go.Own Go.Frm
set_option linter.unusedVariables false
set_option maxRecDepth 100000
/-- the stream that the law takes -/
def szS (k : Nat) : Nat := bif onC k then 0 else 7
theorem szS_lt (k : Nat) : szS k < 2147483648 := by unfold szS; cases onC k <;> decide
theorem sz_stray (k : Nat) : stray k ((szS k : Nat) : Int) = false := by
  unfold stray szS
  rcases kinds k with rfl | rfl | rfl | rfl | rfl | rfl | rfl | rfl | rfl | rfl | hk
  all_goals first
    | decide
    | (obtain ⟨h1, h2, h3, h4, h5, h6, h7, h8, h9, h10, h11, h12, h13, h14, h15, h16, _⟩ := hi_letters k hk; simp [h13, h14])
/-- what is wrong with a payload of n octets -/
def szB (k n : Nat) : Bool := (k == 2 && n != 5) || (k == 3 && n != 4) || (k == 6 && n != 8) || (k == 8 && n != 4) || (k == 4 && n % 6 != 0) || (k == 5 && decide (n < 4)) || (k == 7 && decide (n < 8))
theorem sz_bad (k n : Nat) : badSize k 0 n = szB k n := by
  have e1 : padded k 0 = false := by simp [padded]
  have e2 : withP k 0 = false := by simp [withP]
  have e3 : withA k 0 = false := by simp [withA]
  unfold badSize szB must
  rw [e1, e2, e3]
  rcases kinds k with rfl | rfl | rfl | rfl | rfl | rfl | rfl | rfl | rfl | rfl | hk
  all_goals first
    | (simp [base, just]; done)
    | (rw [Bool.eq_iff_iff]; simp [base, just]; omega)
    | (obtain ⟨h1, h2, h3, h4, h5, h6, h7, h8, h9, h10, h11, h12, h13, h14, h15, h16, h17, h18, h19, h20, h21⟩ := hi_letters k hk
       have a3 : (k == 3) = false := by simp; omega
       have a7 : (k == 7) = false := by simp; omega
       simp [h15, h16, h17, h18, h19, h20, h21, a3, a7])
theorem num_odd (xs : List UInt8) (b : UInt8) (hb : b.toNat % 2 = 1) : num (xs ++ [b]) % 2 = 1 := by rw [num_snoc]; omega
theorem low_odd (n : Nat) (h : n % 2 = 1) : low n ≠ 0 := by unfold low; omega
theorem take4_odd (n : Nat) (b : UInt8) (hb : b.toNat % 2 = 1) (h : 4 ≤ n) : low (num ((List.replicate n b).take 4)) ≠ 0 := by
  rw [List.take_replicate, show min 4 n = 3 + 1 by omega, List.replicate_succ']
  exact low_odd _ (num_odd _ _ hb)
/-- what is told of such a payload -/
theorem sz_parse (k n : Nat) (b : UInt8) (hb : b.toNat % 2 = 1) : (parseP k 0 (szS k) (List.replicate n b)).2 = bif szB k n then ⟨true, 6, bif k == 2 then 7 else 0⟩ else noF := by
  have e1 : padded k 0 = false := by simp [padded]
  have e2 : withP k 0 = false := by simp [withP]
  unfold parseP
  rw [sz_stray, List.length_replicate, sz_bad, e1]
  simp only [cond_false, Bool.false_and]
  cases hB : szB k n with
  | true =>
    simp only [cond_true]
    by_cases h2 : k = 2
    · subst h2; rfl
    · have : (k == 2) = false := by simpa using h2
      rw [this]; rfl
  | false =>
    simp only [cond_false]
    have hu : (unfitP (readP k 0 (szS k) (List.replicate n b))).is = false := by
      unfold unfitP
      have h5 : ((readP k 0 (szS k) (List.replicate n b)).kind == 5 && (readP k 0 (szS k) (List.replicate n b)).last == 0) = false := by
        by_cases hk : k = 5
        · subst hk
          have hn : 4 ≤ n := by simp [szB] at hB; omega
          have hl : (readP 5 0 (szS 5) (List.replicate n b)).last = ((low (num ((List.replicate n b).take 4)) : Nat) : Int) := rfl
          have := take4_odd n b hb hn
          have h9 : (((low (num ((List.replicate n b).take 4)) : Nat) : Int) == 0) = false := by
            rw [beq_eq_false_iff_ne]
            exact fun e => this (Int.ofNat_eq_zero.1 e)
          rw [hl, h9, Bool.and_false]
        · have : ((readP k 0 (szS k) (List.replicate n b)).kind == 5) = false := by
            show (((k : Nat) : Int) == 5) = false
            simp; omega
          rw [this, Bool.false_and]
      have h8 : ((readP k 0 (szS k) (List.replicate n b)).kind == 8 && (readP k 0 (szS k) (List.replicate n b)).inc == 0) = false := by
        by_cases hk : k = 8
        · subst hk
          have hn : 4 ≤ n := by simp [szB] at hB; omega
          have hl : (readP 8 0 (szS 8) (List.replicate n b)).inc = ((low (num ((List.replicate n b).take 4)) : Nat) : Int) := rfl
          have := take4_odd n b hb hn
          have h9 : (((low (num ((List.replicate n b).take 4)) : Nat) : Int) == 0) = false := by
            rw [beq_eq_false_iff_ne]
            exact fun e => this (Int.ofNat_eq_zero.1 e)
          rw [hl, h9, Bool.and_false]
        · have : ((readP k 0 (szS k) (List.replicate n b)).kind == 8) = false := by
            show (((k : Nat) : Int) == 8) = false
            simp; omega
          rw [this, Bool.false_and]
      rw [h5, h8]; rfl
    rw [hu]; rfl
/-- above Max the head alone tells it -/
theorem told_big (m n k s : Nat) (hn : n < 16777216) (hm : m < n) (hk : k < 256) (hs : s < 2147483648) : nextP m ⟨headB n k 0 s, false⟩ = (⟨zeroF, ⟨true, 6, 0⟩, true⟩, ⟨[], true⟩) := by
  obtain ⟨a1, a2, a3, a4⟩ := head_parts n k 0 s hn hk (by omega) hs []
  rw [List.append_nil] at a1 a2 a3 a4
  unfold nextP
  simp only [Bool.false_or]
  have hl := headB_len n k 0 s
  rw [a1, decide_eq_false (by omega), decide_eq_true hm]
  rfl
end Go.Proofs.YtokbdkbljgdcpaaDoor

/- The law FrameSizes: what the walks share. -/
namespace Go.Proofs.YtokbdkbljgdcpaaDoor
open Go.RowKit Go.Own Go.Frm
set_option linter.unusedVariables false
set_option maxRecDepth 100000
theorem u8_or1 (a : Nat) (ha : a < 256) : bits .or .u8 (a : Int) 1 = ((a ||| 1 : Nat) : Int) := by
  rw [show (1 : Int) = ((1 : Nat) : Int) from rfl, u8_or_nat _ _ (by omega) (by omega)]
theorem or1_odd (a : Nat) : (a ||| 1) % 2 = 1 := Nat.mod_two_eq_one_iff_testBit_zero.2 (by simp)
theorem settle_nil' (o : Fm × Flt) : Go.Frm.settle o [] = (⟨o.1, o.2, true⟩, ⟨[], o.2.is && o.2.stream == 0⟩) := by
  unfold Go.Frm.settle
  cases (o.2.is && o.2.stream == 0) <;> rfl
theorem head9_0 (n k s : Nat) (hn : n < 16777216) (hk : k < 256) (hs : s < 2147483648) (w : World) :
    Calls Tryd.prog 28 #[.int .i64 (n : Int), .int .i64 (k : Int), .int .i64 0, .int .i64 (s : Int)] w fun e w' => ∃ g, e = .returned (.slice (some ⟨g, 0, none⟩) 9 9) ∧ w'.ownsRow w.heap.size 5 1 (.slice (some ⟨g, 0, none⟩) 9 9) 9 ((headB n k 0 s).map BV) ∧ Below w.heap.size w w' := head9_c n k 0 s hn hk (by omega) hs w
section
variable {w w0 : World} {L : List Ob} {p m : Nat}
theorem feed_any {st : Pst} (s : St (fun _ => False) w0 w (PFo p m st :: L)) {B : Option Addr} {nb cb : Nat} {ys : List UInt8} (hr : Rd w 1 B nb (ys.map BV)) (hnc : nb ≤ cb) (hcb : cb ≤ 9223372036854775807) (q : Nat) (hq : feedN m st nb = q) (st' : Pst) (hst : feedP m st ys = st') :
    Calls Tryd.prog 23 #[.pointer (some ⟨p, 0, none⟩), .slice B nb cb] w fun e w' => e = .returned (.int .i64 (q : Int)) ∧ St (fun _ => False) w0 w' (PFo p m st' :: L) := by
  subst hq hst
  obtain ⟨F, hF, _, hlo, hback⟩ := s.focus0
  refine (feed_c0 hF hr hnc hcb).mono ?_
  rintro e w' ⟨rfl, s'⟩
  exact ⟨rfl, by have := hback w' _ [] s'; simpa only [List.append_nil, List.nil_append] using this⟩
end
theorem rep_set (n j : Nat) (x z : Value) (h : j < n) : (List.replicate j x ++ List.replicate (n - j) z).set j x = List.replicate (j + 1) x ++ List.replicate (n - (j + 1)) z := by
  rw [List.set_append_right _ _ (by simp), List.length_replicate, Nat.sub_self, show n - j = (n - (j + 1)) + 1 by omega, List.replicate_succ, List.set_cons_zero, List.replicate_succ', List.append_assoc]
  rfl
theorem rd_blk {W : World} {g n : Nat} {t : TypeId} {ys : List UInt8} (h : Blk W g t (ys.map BV)) (hn : ys.length = n) : Rd W 1 (some ⟨g, 0, none⟩) n (ys.map BV) := by
  have := Rd.of_blk (size := 1) (n := n) h (by simp; omega)
  rwa [Nat.mul_one, List.take_of_length_le (by simp; omega)] at this
theorem rep_at (n j : Nat) (x z : Value) (h : j < n) : (List.replicate j x ++ List.replicate (n - j) z)[j]? = some z := by
  rw [List.getElem?_append_right (by simp), List.length_replicate, Nat.sub_self, List.getElem?_replicate]
  simp; omega
end Go.Proofs.YtokbdkbljgdcpaaDoor
