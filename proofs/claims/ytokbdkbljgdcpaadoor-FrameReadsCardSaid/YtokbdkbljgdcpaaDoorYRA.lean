/- Several texts in one: Shape, LwF, LwI, FrmU, LwN, LwS, RfA, RfB, RfC, RfG, RfI, RfJ, RfD, RfE, RfF, RfH, RfS. -/
import Derived.Test.YtokbdkbljgdcpaaDoorY1
import Derived.Test.YtokbdkbljgdcpaaDoorY47
import Derived.Test.YtokbdkbljgdcpaaDoorY48
import Derived.Laws.OwnMore
import Derived.Deep.Cut
import Derived.Deep.LoopGhost
import Derived.Test.YtokbdkbljgdcpaaDoorY2
import Derived.Test.YtokbdkbljgdcpaaDoorY3
import Derived.Laws.StructEq
import Derived.Test.YtokbdkbljgdcpaaDoorY24
import Derived.Deep.QuietTactic
import Derived.StillTailTactics
import Derived.Test.YtokbdkbljgdcpaaDoorY41
import Derived.Deep.DeepCutAuto
import Derived.Test.YtokbdkbljgdcpaaDoorY4
import Derived.Test.YtokbdkbljgdcpaaDoorY11
import Derived.Deep.RegionHeld
/- What a reading of an argument says of its cells, by the program's own types: a slice of slices, of structs .. in one word. No condition; nothing of the program. -/
namespace Go.Own
open Go.RowKit Go.ChangeShapes Go.WideShapes Go.ChangeAt

/-- the cells cs read as a value of type t, d levels down -/
def HoldsT (P : Program) (W : World) : Nat → TypeId → List Value → Prop
  | 0, _, _ => True
  | d + 1, t, cs => match P.underlying t with
    | some (.int k) => ∃ n, cs = [.int k n] ∧ (Lit.int k n).wf = true
    | some .bool => ∃ b, cs = [.bool b]
    | some .string => ∃ s : ByteArray, cs = [.string s] ∧ s.size ≤ 140737488351232
    | some (.slice e) => ∃ (A : Option Addr) (len cap : Nat) (vs : List Value), cs = [.slice A len cap] ∧ len ≤ cap ∧ cap ≤ 9223372036854775807 ∧ cap * P.bytesOf e ≤ 140737488351232 ∧ (0 < P.cellsOf e → Rd W (P.cellsOf e) A len vs) ∧
        ∀ i, i < len → HoldsT P W d e ((vs.drop (i * P.cellsOf e)).take (P.cellsOf e))
    | some (.struct fs) => cs.length = P.cellsOf t ∧ ∀ (i : Nat) (f : Field), fs[i]? = some f → HoldsT P W d f.type ((cs.drop f.offset).take (P.cellsOf f.type))
    | _ => True

theorem weightsAll_mem {H : Type} {P : Program} {e : TypeId} : ∀ {l : List (DataW H)} {d : DataW H}, d ∈ l → ∀ n ∈ d.weights P e, n ∈ DataW.weightsAll P e l
  | x :: r, d, h, n, hn => by
    simp only [DataW.weightsAll, List.mem_append]
    rcases List.mem_cons.1 h with rfl | h
    · exact .inl hn
    · exact .inr (weightsAll_mem h n hn)
theorem add_add (a : Addr) (i j : Nat) : (a.add i).add j = a.add (i + j) := by
  unfold Addr.add
  by_cases hi : i = 0 <;> by_cases hj : j = 0 <;> simp [hi, hj, Nat.add_assoc]
theorem mapM_get {α β : Type} {f : α → Option β} : ∀ {l : List α} {r : List β}, l.mapM f = some r → r.length = l.length ∧ ∀ (i : Nat) (x : α), l[i]? = some x → f x = r[i]?
  | [], r, h => by
    simp at h
    subst h
    simp
  | a :: l, r, h => by
    simp only [List.mapM_cons, Option.pure_def, Option.bind_eq_bind, Option.bind_eq_some_iff, Option.some.injEq] at h
    obtain ⟨b, hb, r', hr, rfl⟩ := h
    obtain ⟨h1, h2⟩ := mapM_get hr
    refine ⟨by simp [h1], fun i x hi => ?_⟩
    cases i with
    | zero => simp at hi; subst hi; simpa using hb
    | succ i => simpa using h2 i x (by simpa using hi)
theorem cells_get {w : World} {a : Addr} {n : Nat} {l : List Value} (h : w.cells? 0 a n = some l) : l.length = n ∧ ∀ j, j < n → w.cell? (a.add j) = l[j]? := by
  simp only [World.cells?, Nat.zero_le, if_true] at h
  obtain ⟨h1, h2⟩ := mapM_get h
  exact ⟨by simpa using h1, fun j hj => h2 j j (by simp [hj])⟩

theorem rd_of_parts {W : World} {a : Addr} {c len : Nat} (hc : 0 < c) (part : Nat → List Value) (h : ∀ i, i < len → W.cells? 0 (a.add (i * c)) c = some (part i)) :
    ∃ vs, Rd W c (some a) len vs ∧ ∀ i, i < len → (vs.drop (i * c)).take c = part i := by
  have hp : ∀ i, i < len → (part i).length = c := fun i hi => (cells_get (h i hi)).1
  have key : ∀ m, m ≤ len → ∃ vs : List Value, vs.length = m * c ∧ (∀ i, i < m → (vs.drop (i * c)).take c = part i) ∧ ∀ j u, vs[j]? = some u → W.cell? (a.add j) = some u := by
    intro m
    induction m with
    | zero => intro _; exact ⟨[], by simp, fun i hi => by omega, fun j u hu => by simp at hu⟩
    | succ m ih =>
      intro hm
      obtain ⟨vs, h1, h2, h3⟩ := ih (by omega)
      have hlen := hp m (by omega)
      refine ⟨vs ++ part m, by rw [List.length_append, h1, hlen, Nat.succ_mul], fun i hi => ?_, fun j u hu => ?_⟩
      · rcases Nat.lt_or_ge i m with hlt | hge
        · have hb : i * c + c ≤ vs.length := by rw [h1, ← Nat.succ_mul]; exact Nat.mul_le_mul_right _ hlt
          rw [List.drop_append_of_le_length (by omega), List.take_append_of_le_length (by rw [List.length_drop]; omega)]
          exact h2 i hlt
        · obtain rfl : i = m := by omega
          rw [List.drop_append, List.drop_of_length_le (by omega), h1, Nat.sub_self, List.drop_zero, List.nil_append, List.take_of_length_le (by omega)]
      · rcases Nat.lt_or_ge j vs.length with hlt | hge
        · rw [List.getElem?_append_left hlt] at hu
          exact h3 j u hu
        · rw [List.getElem?_append_right hge] at hu
          have hj : j - vs.length < c := by
            rcases Nat.lt_or_ge (j - vs.length) c with hx | hx
            · exact hx
            · rw [List.getElem?_eq_none (by omega)] at hu; cases hu
          have := (cells_get (h m (by omega))).2 (j - vs.length) hj
          rw [add_add, hu] at this
          rw [← this]
          congr 2
          omega
  obtain ⟨vs, h1, h2, h3⟩ := key len (Nat.le_refl _)
  refine ⟨vs, ⟨h1, fun hn => ?_⟩, h2⟩
  have hl0 : 0 < vs.length := by rw [h1]; exact Nat.mul_pos hn hc
  have h0 := h3 0 vs[0] (List.getElem?_eq_getElem hl0)
  obtain ⟨b, o, spot⟩ := a
  have hspot : spot = none := by simpa [Addr.add] using World.cell?_spot h0
  subst hspot
  exact ⟨b, o, rfl, fun j u hu => by have := h3 j u hu; rwa [add_plain] at this⟩

theorem holdsT_of_trod {H : Type} {enc : TypeId × Value → H} {P : Program} {W : World} : ∀ (d : Nat) {t : TypeId} {cs : List Value} {fuel : Nat} {x : DataW H × List MemPlace},
    DataW.trod enc P W 0 (fun _ => true) true fuel t cs = some x → (∀ n ∈ x.1.weights P t, n ≤ reachBytes) → HoldsT P W d t cs
  | 0, _, _, _, _, _, _ => trivial
  | d + 1, t, cs, fuel, x, h, hw => by
    unfold HoldsT
    split
    · rename_i k ht
      obtain ⟨n, rfl, _, hn⟩ := DataW.trod_int ht h
      exact ⟨n, rfl, hn⟩
    · rename_i ht
      obtain ⟨b, rfl, _⟩ := DataW.trod_bool ht h
      exact ⟨b, rfl⟩
    · rename_i ht
      obtain ⟨s, rfl, rfl, hs⟩ := DataW.trod_string ht h
      refine ⟨s, rfl, ?_⟩
      have := hw s.data.toList.length (by simp [DataW.weights])
      simp only [reachBytes] at this
      have e : s.data.toList.length = s.size := by rw [Array.length_toList]; rfl
      omega
    · rename_i e ht
      rcases DataW.trod_slice ht h with ⟨rfl, rfl⟩ | ⟨a, len, cap, elems, rest, n, rfl, rfl, rfl, _, hl, hm, hel, hparts, hrest, _⟩
      · exact ⟨none, 0, 0, [], rfl, Nat.le_refl _, by omega, by omega, fun _ => Rd.nil _ _ _, fun i hi => by omega⟩
      · obtain ⟨hr1, _⟩ := hrest rfl
        have hsz := hw ((elems.length + rest.length) * P.bytesOf e) (by simp [DataW.weights, ht])
        simp only [reachBytes] at hsz
        have hcap : elems.length + rest.length = cap := by omega
        rw [hcap] at hsz
        have hpart : ∀ i, i < len → ∃ p y, W.cells? 0 (a.add (i * P.cellsOf e)) (P.cellsOf e) = some p ∧ elems[i]? = some y ∧ DataW.trod enc P W 0 (fun _ => true) true n e p = some y := by
          intro i hi
          have hy : elems[i]? = some elems[i] := List.getElem?_eq_getElem (by omega)
          have := hparts i hi
          rw [hy, Option.bind_eq_some_iff] at this
          obtain ⟨p, hp, hd⟩ := this
          exact ⟨p, _, hp, hy, hd⟩
        let part : Nat → List Value := fun i => (W.cells? 0 (a.add (i * P.cellsOf e)) (P.cellsOf e)).getD []
        have hp : ∀ i, i < len → W.cells? 0 (a.add (i * P.cellsOf e)) (P.cellsOf e) = some (part i) := fun i hi => by
          obtain ⟨p, _, hp, _⟩ := hpart i hi
          simp only [part, hp, Option.getD_some]
        have each : ∀ i, i < len → HoldsT P W d e (part i) := fun i hi => by
          obtain ⟨p, y, hp', hy, hd⟩ := hpart i hi
          have hpe : part i = p := by simp only [part, hp', Option.getD_some]
          rw [hpe]
          refine holdsT_of_trod d hd (fun m hm' => hw m ?_)
          simp only [DataW.weights, ht, List.mem_cons, List.mem_append]
          exact .inr (.inl (weightsAll_mem (List.mem_map.2 ⟨y, List.mem_of_getElem? hy, rfl⟩) m hm'))
        rcases Nat.eq_zero_or_pos (P.cellsOf e) with hc | hc
        · refine ⟨some a, len, cap, [], rfl, hl, by unfold maxLen at hm; omega, hsz, fun h => by omega, fun i hi => ?_⟩
          have := each i hi
          have hl0 := (cells_get (hp i hi)).1
          have e0 : part i = [] := List.eq_nil_of_length_eq_zero (by omega)
          rw [e0] at this
          simpa [hc] using this
        · obtain ⟨vs, hrd, hvs⟩ := rd_of_parts hc part hp
          exact ⟨some a, len, cap, vs, rfl, hl, by unfold maxLen at hm; omega, hsz, fun _ => hrd, fun i hi => by rw [hvs i hi]; exact each i hi⟩
    · rename_i fs ht
      obtain ⟨xs, n, rfl, rfl, hlen, hxs, hf⟩ := DataW.trod_struct ht h
      refine ⟨hlen, fun i f hif => ?_⟩
      have hi : i < fs.size := (Array.getElem?_eq_some_iff.1 hif).1
      have hx : xs[i]? = some xs[i] := List.getElem?_eq_getElem (by omega)
      have hd := hf i f hif
      rw [hx] at hd
      refine holdsT_of_trod d hd (fun m hm => hw m ?_)
      simp only [DataW.weights, ht]
      exact DataW.weights_mem_each (j := i) (t := f.type) (d := xs[i].1) (by simp [List.getElem?_map, hif]) (by simp [hx]) m hm
    · trivial

section
variable {P : Program} {W : World} {d : Nat} {t e : TypeId}
theorem weights_of {H : Type} {ts : List TypeId} {ds : List (DataW H)} (h : (DataW.weightsEach P ts ds).all (· ≤ reachBytes) = true) {j : Nat} {x : DataW H} (ht : ts[j]? = some t) (hd : ds[j]? = some x) : ∀ n ∈ x.weights P t, n ≤ reachBytes := fun n hn => by
  have := List.all_eq_true.1 h _ (DataW.weights_mem_each ht hd n hn)
  simpa using this
/-- an argument that is a slice -/
theorem opened_slice {H : Type} {enc : TypeId × Value → H} {base : Nat} {v : Value} {x : DataW H} {ps : List MemPlace} (dep : Nat) (ht : P.underlying t = some (.slice e)) (hv : Value.okWide P W .any base t v)
    (h : DataW.Trod enc P W 0 (fun _ => true) true t v x ps) (hw : ∀ n ∈ x.weights P t, n ≤ reachBytes) : ∃ A len cap, v = .slice A len cap ∧ HoldsT P W dep t [.slice A len cap] := by
  obtain ⟨A, len, cap, rfl⟩ := okWide_slice ht hv
  obtain ⟨fuel, hf⟩ := h
  exact ⟨A, len, cap, rfl, holdsT_of_trod dep (by simpa [Value.cells] using hf) hw⟩
theorem HoldsT.slice {A : Option Addr} {len cap : Nat} (ht : P.underlying t = some (.slice e)) (h : HoldsT P W (d + 1) t [.slice A len cap]) :
    len ≤ cap ∧ cap ≤ 9223372036854775807 ∧ cap * P.bytesOf e ≤ 140737488351232 ∧ ∃ vs, (0 < P.cellsOf e → Rd W (P.cellsOf e) A len vs) ∧ ∀ i, i < len → HoldsT P W d e ((vs.drop (i * P.cellsOf e)).take (P.cellsOf e)) := by
  unfold HoldsT at h
  rw [ht] at h
  obtain ⟨A', len', cap', vs, e1, h1, h2, h3, h4, h5⟩ := h
  simp only [List.cons.injEq, Value.slice.injEq, and_true] at e1
  obtain ⟨rfl, rfl, rfl⟩ := e1
  exact ⟨h1, h2, h3, vs, h4, h5⟩
/-- one element of one cell -/
theorem HoldsT.at_ {A : Option Addr} {len cap k : Nat} (ht : P.underlying t = some (.slice e)) (hc : P.cellsOf e = 1) (h : HoldsT P W (d + 1) t [.slice A len cap]) (hk : k < len) :
    ∃ b o v, A = some ⟨b, o, none⟩ ∧ W.cell? ⟨b, o + k, none⟩ = some v ∧ HoldsT P W d e [v] := by
  obtain ⟨_, _, _, vs, hr, hv⟩ := h.slice ht
  rw [hc] at hr
  obtain ⟨b, o, u, hA, hu, hcell⟩ := (hr (by omega)).at_ hk
  refine ⟨b, o, u, hA, hcell, ?_⟩
  have := hv k hk
  rw [hc, Nat.mul_one] at this
  have hlt : k < vs.length := by
    rcases Nat.lt_or_ge k vs.length with hx | hx
    · exact hx
    · rw [List.getElem?_eq_none hx] at hu; cases hu
  rw [List.drop_eq_getElem_cons hlt, List.take_succ_cons, List.take_zero] at this
  rw [List.getElem?_eq_getElem hlt] at hu
  cases hu
  exact this
theorem HoldsT.int {k : IntKind} {v : Value} (ht : P.underlying t = some (.int k)) (h : HoldsT P W (d + 1) t [v]) : ∃ n, v = .int k n ∧ (Lit.int k n).wf = true := by
  unfold HoldsT at h
  rw [ht] at h
  obtain ⟨n, e1, hn⟩ := h
  exact ⟨n, by simpa using e1, hn⟩
theorem HoldsT.bool {v : Value} (ht : P.underlying t = some .bool) (h : HoldsT P W (d + 1) t [v]) : ∃ b, v = .bool b := by
  unfold HoldsT at h
  rw [ht] at h
  obtain ⟨n, e1⟩ := h
  exact ⟨n, by simpa using e1⟩
theorem HoldsT.string {v : Value} (ht : P.underlying t = some .string) (h : HoldsT P W (d + 1) t [v]) : ∃ s : ByteArray, v = .string s ∧ s.size ≤ 140737488351232 := by
  unfold HoldsT at h
  rw [ht] at h
  obtain ⟨n, e1, hn⟩ := h
  exact ⟨n, by simpa using e1, hn⟩
theorem HoldsT.isSlice {v : Value} (ht : P.underlying t = some (.slice e)) (h : HoldsT P W (d + 1) t [v]) : ∃ A len cap, v = .slice A len cap := by
  unfold HoldsT at h
  rw [ht] at h
  obtain ⟨A, len, cap, _, e1, _⟩ := h
  exact ⟨A, len, cap, by simpa using e1⟩
/-- a slice of bytes -/
theorem HoldsT.bytes {A : Option Addr} {len cap : Nat} (ht : P.underlying t = some (.slice e)) (he : P.underlying e = some (.int .u8)) (hc : P.cellsOf e = 1) (h : HoldsT P W (d + 2) t [.slice A len cap]) :
    ∃ xs : List UInt8, Rd W 1 A len (xs.map BV) := by
  obtain ⟨_, _, _, vs, hr, hv⟩ := HoldsT.slice (d := d + 1) ht h
  rw [hc] at hr hv
  have hrd := hr (by omega)
  have hl : vs.length = len := by simpa using hrd.1
  have each : ∀ v ∈ vs, ∃ n, v = .int .u8 n ∧ (Lit.int .u8 n).wf = true := by
    intro v hm
    obtain ⟨i, hi, rfl⟩ := List.getElem_of_mem hm
    have := hv i (by omega)
    rw [Nat.mul_one, List.drop_eq_getElem_cons hi, List.take_succ_cons, List.take_zero] at this
    exact HoldsT.int he this
  have hb : ∀ (l : List Value), (∀ v ∈ l, ∃ n, v = .int .u8 n ∧ (Lit.int .u8 n).wf = true) → ∃ xs : List UInt8, l = xs.map BV := by
    intro l
    induction l with
    | nil => intro _; exact ⟨[], rfl⟩
    | cons v l ih =>
      intro hall
      obtain ⟨xs, rfl⟩ := ih (fun u hu => hall u (List.mem_cons_of_mem _ hu))
      obtain ⟨n, rfl, hn⟩ := hall v List.mem_cons_self
      refine ⟨UInt8.ofNat n.toNat :: xs, ?_⟩
      have hbd : 0 ≤ n ∧ n ≤ 255 := by simpa [Lit.wf, IntKind.min, IntKind.max, IntKind.signed, IntKind.bits] using hn
      rw [List.map_cons]
      congr 1
      simp only [BV]
      congr 1
      simp
      omega
  obtain ⟨xs, rfl⟩ := hb vs each
  exact ⟨xs, hrd⟩
end
end Go.Own

/- head9; a parser's answers, named. -/
namespace Go.Proofs.YtokbdkbljgdcpaaDoor
open Go.RowKit Go.Own Go.Frm
set_option linter.unusedVariables false
set_option maxRecDepth 100000
section
variable {w w0 : World} {L : List Ob} {p m : Nat}
/-- Next, its answer named -/
theorem next_n {f : Fm} {b : Bool} {c : Nat} {z : Int} {ok : Bool} {st st' : Pst} (s : St (fun _ => False) w0 w (PFo p m st :: L)) (hG : Gl w0) (h : nextP m st = (⟨f, ⟨b, c, z⟩, ok⟩, st')) :
    Calls Tryd.prog 21 #[.pointer (some ⟨p, 0, none⟩)] w fun e w' => ∃ pv lv, e = .returned (.tuple #[.agg #[.int .i64 f.kind, .int .i64 f.stream, .bool f.fin, .bool f.eh, .bool f.ack, .bool f.prio, pv, .int .i64 f.flags, .int .i64 f.pad, .int .i64 f.depend, .bool f.excl, .int .i64 f.weight, .int .u32 (f.code : Int), lv, .int .i64 f.last, .int .i64 f.inc], .agg #[.bool b, .int .u32 (c : Int), .int .i64 z], .bool ok]) ∧ FrOwn w' w.heap.size f pv lv ∧ St (fun _ => False) w0 w' (PFo p m st' :: L) ∧ w.heap.size ≤ w'.heap.size := by
  refine (next_s s hG).mono ?_
  rintro e w' ⟨pv, lv, rfl, ho, hs, hz⟩
  rw [h] at hs ho ⊢
  exact ⟨pv, lv, rfl, ho, hs, hz⟩
theorem feed_own_n {st : Pst} (s : St (fun _ => False) w0 w (PFo p m st :: L)) {base n : Nat} {v : Value} {xs : List Value} (hm : SLo base 5 1 v n xs ∈ L) {B : Option Addr} {nb cb : Nat} {ys : List UInt8} (hv : ∀ a, B = some a → v.ownBlock = some a.block) (hr : Rd w 1 B nb (ys.map BV)) (hnc : nb ≤ cb) (hcb : cb ≤ 9223372036854775807) (q : Nat) (hq : feedN m st nb = q) (st' : Pst) (hst : feedP m st ys = st') :
    Calls Tryd.prog 23 #[.pointer (some ⟨p, 0, none⟩), .slice B nb cb] w fun e w' => e = .returned (.int .i64 (q : Int)) ∧ St (fun _ => False) w0 w' (PFo p m st' :: L) := by
  have h := feed_own s hm hv hr hnc hcb
  rw [hq, hst] at h
  exact h
end
theorem be3 (n : Nat) : be n 3 = [UInt8.ofNat (n / 65536), UInt8.ofNat (n / 256), UInt8.ofNat n] := by
  simp [be, Nat.div_div_eq_div_mul]
theorem be4 (n : Nat) : be n 4 = [UInt8.ofNat (n / 16777216), UInt8.ofNat (n / 65536), UInt8.ofNat (n / 256), UInt8.ofNat n] := by
  simp [be, Nat.div_div_eq_div_mul]
theorem bvn (x : Nat) (y : Int) (h : y = ((x % 256 : Nat) : Int)) : BV (UInt8.ofNat x) = .int .u8 y := by
  subst h
  show Value.int .u8 _ = _
  simp
set_option maxHeartbeats 1000000 in
theorem head9_c (n k fl s : Nat) (hn : n < 16777216) (hk : k < 256) (hf : fl < 256) (hs : s < 2147483648) (w : World) :
    Calls Tryd.prog 28 #[.int .i64 (n : Int), .int .i64 (k : Int), .int .i64 (fl : Int), .int .i64 (s : Int)] w fun e w' => ∃ g, e = .returned (.slice (some ⟨g, 0, none⟩) 9 9) ∧ w'.ownsRow w.heap.size 5 1 (.slice (some ⟨g, 0, none⟩) 9 9) 9 ((headB n k fl s).map BV) ∧ Below w.heap.size w w' := by
  go_enter Tryd.func28, Tryd.ntmps28
  go_wp2
  go_ret
  have e : (headB n k fl s).map BV = [.int .u8 ((n : Int) / 65536), .int .u8 ((n : Int) / 256 % 256), .int .u8 ((n : Int) % 256), .int .u8 (k : Int), .int .u8 (fl : Int), .int .u8 ((s : Int) / 16777216), .int .u8 ((s : Int) / 65536 % 256), .int .u8 ((s : Int) / 256 % 256), .int .u8 ((s : Int) % 256)] := by
    simp only [headB, be3, be4, be1, List.map_cons, List.map_nil, List.cons_append, List.nil_append]
    rw [bvn (n / 65536) ((n : Int) / 65536) (by omega), bvn (n / 256) ((n : Int) / 256 % 256) (by omega), bvn n ((n : Int) % 256) (by omega), bvn k (k : Int) (by omega), bvn fl (fl : Int) (by omega), bvn (s / 16777216) ((s : Int) / 16777216) (by omega), bvn (s / 65536) ((s : Int) / 65536 % 256) (by omega), bvn (s / 256) ((s : Int) / 256 % 256) (by omega), bvn s ((s : Int) % 256) (by omega)]
  refine ⟨w.heap.size, rfl, ?_, (Below.refl _ _).alloc (Nat.le_refl _) _⟩
  rw [e]
  exact World.ownsRow_lit w _ 9 (Nat.le_refl _) (by unfold maxLen; omega) rfl
end Go.Proofs.YtokbdkbljgdcpaaDoor

/- The law FrameHeld. -/
namespace Go.Proofs.YtokbdkbljgdcpaaDoor
open Go.RowKit Go.Own Go.Frm
set_option linter.unusedVariables false
set_option maxRecDepth 100000
section
variable {w w0 : World} {L : List Ob} {p m : Nat}
theorem feed_in_n {st : Pst} (s : St (fun _ => False) w0 w (PFo p m st :: L)) {B : Option Addr} {nb cb : Nat} {ys : List UInt8} (hr : Rd w0 1 B nb (ys.map BV)) (hnc : nb ≤ cb) (hcb : cb ≤ 9223372036854775807) (q : Nat) (hq : feedN m st nb = q) (st' : Pst) (hst : feedP m st ys = st') :
    Calls Tryd.prog 23 #[.pointer (some ⟨p, 0, none⟩), .slice B nb cb] w fun e w' => e = .returned (.int .i64 (q : Int)) ∧ St (fun _ => False) w0 w' (PFo p m st' :: L) := by
  have h := feed_in0 s hr hnc hcb
  rw [hq, hst] at h
  exact h
theorem size_n {st : Pst} (s : St (fun _ => False) w0 w (PFo p m st :: L)) (n : Nat) (hn : st.held.length = n) : Calls Tryd.prog 25 #[.pointer (some ⟨p, 0, none⟩)] w fun e w' => e = .returned (.int .i64 (n : Int)) ∧ w' = w := by
  have h := size_s s
  rw [hn] at h
  exact h
theorem par_ok {st : Pst} (s : St (fun _ => False) w0 w (PFo p m st :: L)) : st.ok ∧ st.held.length ≤ 16777224 ∧ 16384 ≤ m ∧ m ≤ 16777215 := by
  obtain ⟨F, hF, _⟩ := s.focus0
  exact hF.ok
end
theorem rd_lt {W : World} {A : Option Addr} {n : Nat} {xs : List UInt8} (h : Rd W 1 A n (xs.map BV)) (hn : 0 < n) : ∀ a, A = some a → a.block < W.heap.size := by
  intro a ha
  have hl : xs.length = n := by simpa using h.1
  obtain ⟨b, o, hA, hc⟩ := h.2 hn
  rw [ha] at hA
  cases hA
  have := hc 0 (BV xs[0]) (by simp [List.getElem?_eq_getElem (show 0 < xs.length by omega)])
  exact World.block_lt_of_cell? _ _ this
/-- what the law's step i sees -/
theorem byt_at {W : World} {A : Option Addr} {n c i : Nat} (h : HoldsT Tryd.prog W 3 62 [.slice A n c]) (hi : i < n) :
    ∃ (b o : Nat) (B : Option Addr) (nb cb : Nat) (ys : List UInt8), A = some ⟨b, o, none⟩ ∧ W.cell? ⟨b, o + i, none⟩ = some (.slice B nb cb) ∧ Rd W 1 B nb (ys.map BV) ∧ nb ≤ cb ∧ cb ≤ 140737488351232 := by
  obtain ⟨b, o, v, rfl, hc, hv⟩ := HoldsT.at_ (d := 2) Tryd.underlying62 (by kernel_rfl) h hi
  obtain ⟨B, nb, cb, rfl⟩ := HoldsT.isSlice (d := 1) Tryd.underlying22 hv
  obtain ⟨ys, hr⟩ := HoldsT.bytes (d := 0) Tryd.underlying22 Tryd.underlying5 (by kernel_rfl) hv
  obtain ⟨h1, h2, h3, _⟩ := HoldsT.slice (d := 1) Tryd.underlying22 hv
  have hb : Tryd.prog.bytesOf 5 = 1 := by kernel_rfl
  rw [hb] at h3
  exact ⟨b, o, B, nb, cb, ys, rfl, hc, hr, h1, by omega⟩
theorem bool_at {W : World} {A : Option Addr} {n c i : Nat} (h : HoldsT Tryd.prog W 3 67 [.slice A n c]) (hi : i < n) : ∃ (b o : Nat) (v : Bool), A = some ⟨b, o, none⟩ ∧ W.cell? ⟨b, o + i, none⟩ = some (.bool v) := by
  obtain ⟨b, o, v, rfl, hc, hv⟩ := HoldsT.at_ (d := 2) Tryd.underlying67 (by kernel_rfl) h hi
  obtain ⟨x, rfl⟩ := HoldsT.bool (d := 1) Tryd.underlying4 hv
  exact ⟨b, o, x, rfl, hc⟩
end Go.Proofs.YtokbdkbljgdcpaaDoor

/- Frames: two turns take more than Max octets, so that a few turns are enough. Nothing of the program. -/
namespace Go.Frm
set_option linter.unusedVariables false
theorem drain_le (m : Nat) : ∀ (n : Nat) (st : Pst), st.held.length < n → (drain m st).2.held.length ≤ st.held.length
  | 0, _, h => absurd h (by omega)
  | n + 1, st, h => by
    cases hn : (nextP m st).1.ok with
    | false => rw [drain_no m st hn]; exact Nat.le_refl _
    | true =>
      obtain ⟨_, h2, _⟩ := next_less m st hn
      rw [drain_yes m st hn]
      have := drain_le m n (nextP m st).2 (by omega)
      show (drain m (nextP m st).2).2.held.length ≤ _
      omega
/-- behind what is less than a frame as much as there is room for: less than that room is held then -/
theorem drain_full (m : Nat) (ys zs : List UInt8) (D : Dry m ⟨ys, false⟩) (h : (ys ++ zs).length = m + 9) : (drain m ⟨ys ++ zs, false⟩).2.held.length + ys.length < m + 9 := by
  have hy : ys.length < m + 9 := by
    rcases (next_no m _ D.no).2 with h | h
    · cases h
    · exact h
  rcases next_ways m ⟨ys ++ zs, false⟩ with ⟨h1, e⟩ | ⟨_, h9, h1, e⟩ | ⟨_, h9, h1, h2, e⟩ | ⟨_, h9, h1, e⟩
  · rcases h1 with h1 | h1
    · cases h1
    · simp only at h1; omega
  · have hn : (nextP m ⟨ys ++ zs, false⟩).1.ok = true := by rw [e]
    rw [drain_yes m _ hn, e]
    show (drain m ⟨[], true⟩).2.held.length + ys.length < m + 9
    rw [drain_no m _ (done_ok m _ rfl)]
    simpa using hy
  · simp only at h1 h2; omega
  · have hn : (nextP m ⟨ys ++ zs, false⟩).1.ok = true := by rw [e]; rfl
    rw [drain_yes m _ hn]
    show (drain m (nextP m ⟨ys ++ zs, false⟩).2).2.held.length + ys.length < m + 9
    have hle := drain_le m _ (nextP m ⟨ys ++ zs, false⟩).2 (Nat.lt_succ_self _)
    have hlen : (nextP m ⟨ys ++ zs, false⟩).2.held.length + (9 + hdN (ys ++ zs)) ≤ m + 9 := by
      rw [e]
      simp only [settle]
      simp only at h9
      generalize parseP (hdK (ys ++ zs)) (hdF (ys ++ zs)) (hdS (ys ++ zs)) (((ys ++ zs).drop 9).take (hdN (ys ++ zs))) = o
      cases (o.2.is && o.2.stream == 0)
      · simp only [cond_false, List.length_drop]; omega
      · simp only [cond_true, List.length_nil]; omega
    have hys : ys.length < 9 + hdN (ys ++ zs) := by
      by_cases h9y : ys.length < 9
      · omega
      · obtain ⟨a1, _⟩ := hd_app ys zs (by omega)
        rw [a1]
        have hno := D.no
        rcases next_ways m ⟨ys, false⟩ with ⟨h1, e⟩ | ⟨_, _, _, e⟩ | ⟨_, _, _, h2, e⟩ | ⟨_, _, _, e⟩
        · rcases h1 with h1 | h1
          · cases h1
          · simp only at h1; omega
        · rw [e] at hno; cases hno
        · exact h2
        · rw [e] at hno; cases hno
    omega
theorem turn_succ (m n : Nat) (st : Pst) (b : List UInt8) : turnP m (n + 1) st b = bif decide (b.length - feedN m st b.length = 0) || decide (feedN m st b.length = 0) then drain m (feedP m st b)
    else ((drain m (feedP m st b)).1 ++ (turnP m n (drain m (feedP m st b)).2 (b.drop (feedN m st b.length))).1, (turnP m n (drain m (feedP m st b)).2 (b.drop (feedN m st b.length))).2) := rfl
/-- a turn that isn't the last one -/
theorem turn_more {m : Nat} {st : Pst} {b : List UInt8} (D : Dry m st) (h : (decide (b.length - feedN m st b.length = 0) || decide (feedN m st b.length = 0)) = false) :
    st.done = false ∧ feedN m st b.length = m + 9 - st.held.length ∧ m + 9 - st.held.length < b.length ∧ st.held.length < m + 9 ∧ Dry m (drain m (feedP m st b)).2 ∧ (feedP m st b).done = false ∧ (feedP m st b).held.length = m + 9 ∧ feedP m st b = ⟨st.held ++ b.take (feedN m st b.length), false⟩ := by
  simp only [Bool.or_eq_false_iff, decide_eq_false_iff_not] at h
  have hd : st.done = false := by
    cases hd : st.done with
    | false => rfl
    | true => exfalso; apply h.2; unfold feedN; rw [hd]; rfl
  have e0 : feedN m st b.length = min b.length (m + 9 - st.held.length) := by unfold feedN; rw [hd]; rfl
  have hl : st.held.length < m + 9 := by
    rcases (next_no m st D.no).2 with h | h
    · rw [hd] at h; cases h
    · exact h
  have ef : feedP m st b = ⟨st.held ++ b.take (feedN m st b.length), false⟩ := by unfold feedP; rw [hd]
  refine ⟨hd, by omega, by omega, hl, ?_, by rw [ef], ?_, ef⟩
  · exact drain_dry m _ _ (Nat.lt_succ_self _) (by rw [ef]; intro h; cases h)
  · rw [ef]
    simp only [List.length_append, List.length_take]
    omega
theorem turn_enough (m : Nat) : ∀ (j n : Nat) (st : Pst) (b : List UInt8), Dry m st → (st.done = false → b.length ≤ (m + 9 - st.held.length) + j * (m + 9)) → 2 * j + 1 ≤ n → turnP m n st b = turnP m (b.length + 1) st b := by
  intro j
  induction j with
  | zero =>
    intro n st b D hb hn
    obtain ⟨n, rfl⟩ : ∃ k, n = k + 1 := ⟨n - 1, by omega⟩
    rw [turn_succ, turn_succ]
    cases hc : (decide (b.length - feedN m st b.length = 0) || decide (feedN m st b.length = 0)) with
    | true => rfl
    | false =>
      obtain ⟨hd, h1, h2, h3, _⟩ := turn_more D hc
      have := hb hd
      omega
  | succ j ih =>
    intro n st b D hb hn
    obtain ⟨n, rfl⟩ : ∃ k, n = k + 2 := ⟨n - 2, by omega⟩
    rw [turn_succ, turn_succ m b.length]
    cases hc : (decide (b.length - feedN m st b.length = 0) || decide (feedN m st b.length = 0)) with
    | true => rfl
    | false =>
      obtain ⟨hd, h1, h2, h3, h4, h5, h6, h7⟩ := turn_more D hc
      have hbb := hb hd
      rw [Nat.succ_mul] at hbb
      suffices h : turnP m (n + 1) (drain m (feedP m st b)).2 (b.drop (feedN m st b.length)) = turnP m b.length (drain m (feedP m st b)).2 (b.drop (feedN m st b.length)) by rw [h]
      generalize hst1 : (drain m (feedP m st b)).2 = st1 at *
      generalize hb1 : b.drop (feedN m st b.length) = b1 at *
      have hb1l : b1.length = b.length - (m + 9 - st.held.length) := by rw [← hb1, List.length_drop, h1]
      rw [turn_spec m b.length st1 b1 (by omega) h4, ← turn_spec m (b1.length + 1) st1 b1 (by omega) h4]
      rw [turn_succ, turn_succ m b1.length]
      cases hc1 : (decide (b1.length - feedN m st1 b1.length = 0) || decide (feedN m st1 b1.length = 0)) with
      | true => rfl
      | false =>
        obtain ⟨k0, k1, k2, k3, k4, k5, k6, k7⟩ := turn_more h4 hc1
        suffices h : turnP m n (drain m (feedP m st1 b1)).2 (b1.drop (feedN m st1 b1.length)) = turnP m b1.length (drain m (feedP m st1 b1)).2 (b1.drop (feedN m st1 b1.length)) by rw [h]
        have hfull : (drain m (feedP m st1 b1)).2.held.length + st1.held.length < m + 9 := by
          rw [k7]
          refine drain_full m st1.held _ ?_ ?_
          · have := Pst.eta k0
            rw [← this]; exact h4
          · rw [k7] at k6; exact k6
        generalize hst2 : (drain m (feedP m st1 b1)).2 = st2 at *
        generalize hb2 : b1.drop (feedN m st1 b1.length) = b2 at *
        have hb2l : b2.length = b1.length - (m + 9 - st1.held.length) := by rw [← hb2, List.length_drop, k1]
        rw [turn_spec m b1.length st2 b2 (by omega) k4, ← turn_spec m (b2.length + 1) st2 b2 (by omega) k4]
        refine ih n st2 b2 k4 (fun _ => ?_) (by omega)
        generalize j * (m + 9) = q at *
        omega
/-- forty thousand turns are enough -/
theorem turn_many (m n : Nat) (st : Pst) (b : List UInt8) (D : Dry m st) (hb : b.length ≤ 300000000) (hm : 16384 ≤ m) (hn : 39999 ≤ n) : turnP m n st b = turnP m (b.length + 1) st b := by
  have h : b.length ≤ 19999 * (m + 9) := by omega
  exact turn_enough m 19999 n st b D (fun _ => Nat.le_trans h (Nat.le_add_left _ _)) hn
/-- as many frames are told as there is room for -/
theorem drain_many (m : Nat) : ∀ (n : Nat) (st : Pst), st.held.length < 9 * n → drainP m n st = drain m st
  | 0, _, h => absurd h (by omega)
  | n + 1, st, h => by
    cases hn : (nextP m st).1.ok with
    | false => rw [drain_no m st hn]; unfold drainP; rw [hn]; rfl
    | true =>
      obtain ⟨_, h2, _⟩ := next_less m st hn
      rw [drain_yes m st hn]
      unfold drainP
      rw [hn, cond_true, drain_many m n (nextP m st).2 (by omega)]
end Go.Frm

/- A parser that was there before, among other things: Feed, Next, Size; frames that were told, as a thing. -/
namespace Go.Proofs.YtokbdkbljgdcpaaDoor
open Go.RowKit Go.Own Go.Frm
set_option linter.unusedVariables false
set_option maxRecDepth 100000
section
variable {w w0 : World} {L : List Ob} {p m : Nat} {S : Nat → Prop}
theorem feed_S {st : Pst} (s : St S w0 w (PFo p m st :: L)) {B : Option Addr} {nb cb : Nat} {ys : List UInt8} (hr : Rd w 1 B nb (ys.map BV)) (hnc : nb ≤ cb) (hcb : cb ≤ 9223372036854775807) (q : Nat) (hq : feedN m st nb = q) (st' : Pst) (hst : feedP m st ys = st') :
    Calls Tryd.prog 23 #[.pointer (some ⟨p, 0, none⟩), .slice B nb cb] w fun e w' => e = .returned (.int .i64 (q : Int)) ∧ St S w0 w' (PFo p m st' :: L) := by
  subst hq hst
  obtain ⟨F, hF, _, hlo, hback⟩ := s.focus0
  refine (feed_c0 hF hr hnc hcb).mono ?_
  rintro e w' ⟨rfl, s'⟩
  exact ⟨rfl, by have := hback w' _ [] s'; simpa only [List.append_nil, List.nil_append] using this⟩
theorem next_S {f : Fm} {b : Bool} {c : Nat} {z : Int} {ok : Bool} {st st' : Pst} (s : St S w0 w (PFo p m st :: L)) (hG : Gl w0) (g1 : ¬ S 1) (g2 : ¬ S 0) (h : nextP m st = (⟨f, ⟨b, c, z⟩, ok⟩, st')) :
    Calls Tryd.prog 21 #[.pointer (some ⟨p, 0, none⟩)] w fun e w' => ∃ pv lv, e = .returned (.tuple #[.agg #[.int .i64 f.kind, .int .i64 f.stream, .bool f.fin, .bool f.eh, .bool f.ack, .bool f.prio, pv, .int .i64 f.flags, .int .i64 f.pad, .int .i64 f.depend, .bool f.excl, .int .i64 f.weight, .int .u32 (f.code : Int), lv, .int .i64 f.last, .int .i64 f.inc], .agg #[.bool b, .int .u32 (c : Int), .int .i64 z], .bool ok]) ∧ FrOwn w' w.heap.size f pv lv ∧ St S w0 w' (PFo p m st' :: L) ∧ w.heap.size ≤ w'.heap.size := by
  obtain ⟨F, hF, _, hlo, hback⟩ := s.focus0
  have hp := hG.pos
  refine (next_c (hG.fr s.fr g1 g2) hF (fun h => ?_) (fun h => ?_)).mono ?_
  · rcases hlo _ h with h | h
    · exact g1 h
    · omega
  · rcases hlo _ h with h | h
    · exact g2 h
    · omega
  · rintro e w' ⟨pv, lv, F', rfl, ho, hF', hsub, hfr⟩
    rw [h] at ho hF' ⊢
    exact ⟨pv, lv, rfl, ho, by have := hback w' _ [] (St.changed (framed_PFo p m _) hF' (fun i hi => .inl (hsub i hi)) hfr); simpa only [List.append_nil] using this, hfr.size⟩
theorem par_S {st : Pst} (s : St S w0 w (PFo p m st :: L)) : st.ok ∧ st.held.length ≤ 16777224 ∧ 16384 ≤ m ∧ m ≤ 16777215 := by
  obtain ⟨F, hF, _⟩ := s.focus0
  exact hF.ok
end
/-- two things at the end become one -/
theorem St.merge {w0 w : World} {S : Nat → Prop} {A B C : Ob} (L1 : List Ob) (s : St S w0 w (L1 ++ [A, B])) (hC : Framed C) (h : ∀ w F1 F2, A w F1 → B w F2 → C w (fun i => F1 i ∨ F2 i)) : St S w0 w (L1 ++ [C]) := by
  obtain ⟨⟨T, hT, hTS⟩, hf⟩ := s
  obtain ⟨G, H, hG, hH, hGH, rfl⟩ := hT.app
  obtain ⟨F1, G1, hA, h1, ⟨F2, G2, hB, h2, hG2, hd2, rfl⟩, hd, rfl⟩ := hH
  rw [Own.Sep] at hG2
  subst hG2
  refine ⟨⟨_, Sep.mk_app (H := fun i => (F1 i ∨ F2 i) ∨ False) hG ⟨fun i => F1 i ∨ F2 i, fun _ => False, hC, h _ _ _ h1 h2, rfl, fun _ _ h => h, rfl⟩ (fun i hi hn => hGH i hi ?_), fun i hi => hTS i ?_⟩, hf⟩
  · rcases hn with (hn | hn) | hn
    · exact .inl hn
    · exact .inr (.inl hn)
    · exact hn.elim
  · rcases hi with hi | (hi | hi) | hi
    · exact .inl hi
    · exact .inr (.inl hi)
    · exact .inr (.inr (.inl hi))
    · exact hi.elim
/-- what was told: a frame with its payload and list, a fault -/
structure Tl where
  f : Fm
  pv : Value
  lv : Value
  x : Flt
def tls (l : List Tl) : List (Fm × Flt) := l.map fun t => (t.f, t.x)
def fcells (l : List Tl) : List Value := l.flatMap fun t => frC t.f t.pv t.lv
def xcells (l : List Tl) : List Value := l.flatMap fun t => [.bool t.x.is, .int .u32 (t.x.code : Int), .int .i64 t.x.stream]
/-- frames' payloads and lists -/
def FrsO (l : List Tl) : Ob := fun w F => (∀ t ∈ l, FrOwn w 0 t.f t.pv t.lv) ∧ F = fun i => ∃ t ∈ l, t.pv.ownBlock = some i ∨ t.lv.ownBlock = some i
theorem FrOwn.at0 {w : World} {b : Nat} {f : Fm} {pv lv : Value} (h : FrOwn w b f pv lv) : FrOwn w 0 f pv lv := by
  obtain ⟨A, c, B, d, h1, h2, h3, h4⟩ := h
  exact ⟨A, c, B, d, h1, h2, own_lower h3 (Nat.zero_le _), own_lower h4 (Nat.zero_le _)⟩
theorem framed_FrsO (l : List Tl) : Framed (FrsO l) := by
  refine ⟨fun w F h i hi => ?_, fun w w' F S h hf hn => ?_⟩
  · obtain ⟨h, rfl⟩ := h
    obtain ⟨t, ht, hi⟩ := hi
    obtain ⟨A, c, B, d, _, _, h3, h4⟩ := h t ht
    rcases hi with hi | hi
    · exact own_lt h3 hi
    · exact own_lt h4 hi
  · obtain ⟨h, rfl⟩ := h
    refine ⟨fun t ht => ?_, rfl⟩
    obtain ⟨A, c, B, d, h1, h2, h3, h4⟩ := h t ht
    exact ⟨A, c, B, d, h1, h2, own_fr h3 hf (fun g hg => hn g ⟨t, ht, .inl hg⟩), own_fr h4 hf (fun g hg => hn g ⟨t, ht, .inr hg⟩)⟩
theorem frs_nil (w : World) : FrsO [] w (fun _ => False) := ⟨fun _ h => (by cases h), by funext i; simp⟩
theorem frs_snoc (l : List Tl) (t : Tl) (w : World) (F1 F2 : Nat → Prop) (h1 : FrsO l w F1) (h2 : FrsO [t] w F2) : FrsO (l ++ [t]) w (fun i => F1 i ∨ F2 i) := by
  obtain ⟨h1, rfl⟩ := h1
  obtain ⟨h2, rfl⟩ := h2
  refine ⟨fun u hu => ?_, ?_⟩
  · rcases List.mem_append.1 hu with h | h
    · exact h1 u h
    · exact h2 u h
  · funext i
    simp only [List.mem_append, eq_iff_iff]
    constructor
    · rintro (⟨u, hu, h⟩ | ⟨u, hu, h⟩)
      · exact ⟨u, .inl hu, h⟩
      · exact ⟨u, .inr hu, h⟩
    · rintro ⟨u, hu | hu, h⟩
      · exact .inl ⟨u, hu, h⟩
      · exact .inr ⟨u, hu, h⟩
section
variable {w w0 : World} {L : List Ob} {p m : Nat} {S : Nat → Prop}
/-- Next: what it tells is a thing of its own -/
theorem next_T {f : Fm} {b : Bool} {c : Nat} {z : Int} {ok : Bool} {st st' : Pst} (s : St S w0 w (PFo p m st :: L)) (hG : Gl w0) (g1 : ¬ S 1) (g2 : ¬ S 0) (h : nextP m st = (⟨f, ⟨b, c, z⟩, ok⟩, st')) :
    Calls Tryd.prog 21 #[.pointer (some ⟨p, 0, none⟩)] w fun e w' => ∃ A ca B cb, e = .returned (.tuple #[.agg #[.int .i64 f.kind, .int .i64 f.stream, .bool f.fin, .bool f.eh, .bool f.ack, .bool f.prio, .slice A f.pay.length ca, .int .i64 f.flags, .int .i64 f.pad, .int .i64 f.depend, .bool f.excl, .int .i64 f.weight, .int .u32 (f.code : Int), .slice B f.list.length cb, .int .i64 f.last, .int .i64 f.inc], .agg #[.bool b, .int .u32 (c : Int), .int .i64 z], .bool ok]) ∧ St S w0 w' (PFo p m st' :: (L ++ [FrsO [⟨f, .slice A f.pay.length ca, .slice B f.list.length cb, ⟨b, c, z⟩⟩]])) := by
  obtain ⟨F, hF, hfr, hlo, hback⟩ := s.focus0
  have hp := hG.pos
  refine (next_c (hG.fr s.fr g1 g2) hF (fun h => ?_) (fun h => ?_)).mono ?_
  · rcases hlo _ h with h | h
    · exact g1 h
    · omega
  · rcases hlo _ h with h | h
    · exact g2 h
    · omega
  · rintro e w' ⟨pv, lv, F', rfl, ho, hF', hsub, hfr'⟩
    rw [h] at ho hF' ⊢
    obtain ⟨A, ca, B, cb, rfl, rfl, h3, h4⟩ := ho
    refine ⟨A, ca, B, cb, rfl, hback w' _ _ ⟨⟨_, ⟨F', _, framed_PFo p m _, hF', ⟨fun i => ∃ t ∈ [(⟨f, .slice A f.pay.length ca, .slice B f.list.length cb, ⟨b, c, z⟩⟩ : Tl)], t.pv.ownBlock = some i ∨ t.lv.ownBlock = some i, _, framed_FrsO _, ⟨fun t ht => ?_, rfl⟩, rfl, fun _ _ h => h, rfl⟩, fun i hi hn => ?_, rfl⟩, fun i hi => ?_⟩, hfr'⟩⟩
    · rw [List.mem_singleton] at ht; subst ht
      exact ⟨A, ca, B, cb, rfl, rfl, own_lower h3 (Nat.zero_le _), own_lower h4 (Nat.zero_le _)⟩
    · have hlt := hfr.lt _ _ hF i (hsub i hi)
      rcases hn with ⟨t, ht, hn⟩ | hn
      · rw [List.mem_singleton] at ht; subst ht
        rcases hn with hn | hn
        · have := (h3.lt i hn).1; omega
        · have := (h4.lt i hn).1; omega
      · exact hn
    · rcases hi with hi | ⟨t, ht, hn⟩ | hi
      · exact .inl (hsub i hi)
      · rw [List.mem_singleton] at ht; subst ht
        rcases hn with hn | hn
        · exact .inr (h3.lt i hn).1
        · exact .inr (h4.lt i hn).1
      · exact hi.elim
end
/-- a frame that was told goes to the others -/
theorem St.frs {w0 w : World} {S : Nat → Prop} (L1 : List Ob) {l : List Tl} {t : Tl} (s : St S w0 w (L1 ++ [FrsO l, FrsO [t]])) : St S w0 w (L1 ++ [FrsO (l ++ [t])]) := St.merge L1 s (framed_FrsO _) (frs_snoc l t)
theorem infoFr : (Tryd.prog.info? 27).map (fun i => (i.zero, i.size, i.bytes)) = some (some (.agg #[.int .i64 0, .int .i64 0, .bool false, .bool false, .bool false, .bool false, .slice none 0 0, .int .i64 0, .int .i64 0, .int .i64 0, .bool false, .int .i64 0, .int .u32 0, .slice none 0 0, .int .i64 0, .int .i64 0]), 16, 136) := by kernel_rfl
theorem EFr : Elt Tryd.prog 57 27 (.agg #[.int .i64 0, .int .i64 0, .bool false, .bool false, .bool false, .bool false, .slice none 0 0, .int .i64 0, .int .i64 0, .int .i64 0, .bool false, .int .i64 0, .int .u32 0, .slice none 0 0, .int .i64 0, .int .i64 0]) 16 136 := by
  obtain ⟨i0, hi, hz0, hz1, hz2⟩ := info_parts infoFr
  exact ⟨Tryd.underlying57, ⟨i0, hi, hz0, hz1, hz2⟩, rfl, by omega⟩
theorem infoFt : (Tryd.prog.info? 46).map (fun i => (i.zero, i.size, i.bytes)) = some (some (.agg #[.bool false, .int .u32 0, .int .i64 0]), 3, 16) := by kernel_rfl
theorem EFt : Elt Tryd.prog 59 46 (.agg #[.bool false, .int .u32 0, .int .i64 0]) 3 16 := by
  obtain ⟨i0, hi, hz0, hz1, hz2⟩ := info_parts infoFt
  exact ⟨Tryd.underlying59, ⟨i0, hi, hz0, hz1, hz2⟩, rfl, by omega⟩
theorem fcells_app (a : List Tl) (t : Tl) : fcells (a ++ [t]) = fcells a ++ frC t.f t.pv t.lv := by simp [fcells]
theorem xcells_app (a : List Tl) (t : Tl) : xcells (a ++ [t]) = xcells a ++ [.bool t.x.is, .int .u32 (t.x.code : Int), .int .i64 t.x.stream] := by simp [xcells]
theorem tls_app (a : List Tl) (t : Tl) : tls (a ++ [t]) = tls a ++ [(t.f, t.x)] := by simp [tls]
theorem frC_one (f : Fm) (A B : Option Addr) (n c k d : Nat) : ∀ v ∈ frC f (.slice A n c) (.slice B k d), v.oneCell' = true := by
  intro v hv
  simp at hv
  rcases hv with rfl | rfl | rfl | rfl | rfl | rfl | rfl | rfl | rfl | rfl | rfl | rfl | rfl | rfl | rfl | rfl <;> rfl
theorem ft_one (b : Bool) (c : Nat) (z : Int) : ∀ v ∈ [Value.bool b, .int .u32 (c : Int), .int .i64 z], v.oneCell' = true := by
  intro v hv
  simp at hv
  rcases hv with rfl | rfl | rfl <;> rfl
end Go.Proofs.YtokbdkbljgdcpaaDoor

/- Same: two frames that are the same. -/
namespace Go.Proofs.YtokbdkbljgdcpaaDoor
open Go.RowKit Go.Own Go.Frm
set_option linter.unusedVariables false
set_option maxRecDepth 100000
theorem set_neq (a : Int) (v : Int) (W : World) : (binOp .neq 50 (.agg #[.int .i64 a, .int .u32 v]) (.agg #[.int .i64 a, .int .u32 v])).run Tryd.prog W = .ok (.bool false) W := by
  rw [run_neq_struct, run_equalIn_agg _ _ _ _ _ (by kernel_rfl) (by kernel_rfl)]
  simp [Program.fieldsOf, Tryd.underlying50, Op.eqFields, go_sem]
set_option maxHeartbeats 4000000 in
theorem same_c (f : Fm) {w : World} {A B A' B' : Option Addr} {np nl c d c' d' : Nat} (hp : Rd w 1 A np (f.pay.map BV)) (hl : Rd w 2 B nl (scells f.list)) (hp' : Rd w 1 A' np (f.pay.map BV)) (hl' : Rd w 2 B' nl (scells f.list)) (hnl : nl ≤ 9223372036854775807) :
    Calls Tryd.prog 16 #[.agg #[.int .i64 f.kind, .int .i64 f.stream, .bool f.fin, .bool f.eh, .bool f.ack, .bool f.prio, .slice A np c, .int .i64 f.flags, .int .i64 f.pad, .int .i64 f.depend, .bool f.excl, .int .i64 f.weight, .int .u32 (f.code : Int), .slice B nl d, .int .i64 f.last, .int .i64 f.inc], .agg #[.int .i64 f.kind, .int .i64 f.stream, .bool f.fin, .bool f.eh, .bool f.ack, .bool f.prio, .slice A' np c', .int .i64 f.flags, .int .i64 f.pad, .int .i64 f.depend, .bool f.excl, .int .i64 f.weight, .int .u32 (f.code : Int), .slice B' nl d', .int .i64 f.last, .int .i64 f.inc]] w fun e w' => e = .returned (.bool true) ∧ Below w.heap.size w w' := by
  have hll := rd_set_len hl
  have b2 : Below w.heap.size w ((w.alloc (.cells #[.int .i64 f.kind, .int .i64 f.stream, .bool f.fin, .bool f.eh, .bool f.ack, .bool f.prio, .slice A np c, .int .i64 f.flags, .int .i64 f.pad, .int .i64 f.depend, .bool f.excl, .int .i64 f.weight, .int .u32 (f.code : Int), .slice B nl d, .int .i64 f.last, .int .i64 f.inc] 27)).alloc (.cells #[.int .i64 f.kind, .int .i64 f.stream, .bool f.fin, .bool f.eh, .bool f.ack, .bool f.prio, .slice A' np c', .int .i64 f.flags, .int .i64 f.pad, .int .i64 f.depend, .bool f.excl, .int .i64 f.weight, .int .u32 (f.code : Int), .slice B' nl d', .int .i64 f.last, .int .i64 f.inc] 27)) := ((Below.refl _ w).alloc (Nat.le_refl _) _).alloc (by simp) _
  have cv1 := run_conv_bytes (c := c) (src := 22) (dst := 9) Tryd.underlying22 Tryd.underlying5 Tryd.underlying9 (hp.below b2)
  have cv2 := run_conv_bytes (c := c') (src := 22) (dst := 9) Tryd.underlying22 Tryd.underlying5 Tryd.underlying9 (hp'.below b2)
  have B2 := Lib.hid b2
  have HL := Lib.hid hl
  have HL' := Lib.hid hl'
  have HLL := Lib.hid hll
  clear hp hl hp' hl' hll b2
  go_enter Tryd.func16, Tryd.ntmps16
  go_wp2
  go_loopg [5] nl (fun gh i w' => ∃ j k : Nat, gh + j = nl ∧ i = .int .i64 (j : Int) ∧ w' = ((w.alloc (.cells #[.int .i64 f.kind, .int .i64 f.stream, .bool f.fin, .bool f.eh, .bool f.ack, .bool f.prio, .slice A np c, .int .i64 f.flags, .int .i64 f.pad, .int .i64 f.depend, .bool f.excl, .int .i64 f.weight, .int .u32 (f.code : Int), .slice B nl d, .int .i64 f.last, .int .i64 f.inc] 27)).alloc (.cells #[.int .i64 f.kind, .int .i64 f.stream, .bool f.fin, .bool f.eh, .bool f.ack, .bool f.prio, .slice A' np c', .int .i64 f.flags, .int .i64 f.pad, .int .i64 f.depend, .bool f.excl, .int .i64 f.weight, .int .u32 (f.code : Int), .slice B' nl d', .int .i64 f.last, .int .i64 f.inc] 27)).drewN k)
  case atStart => exact ⟨0, 0, by omega, rfl, rfl⟩
  case round =>
    obtain ⟨j, k, hj, rfl, rfl⟩ := hrel
    cases gk with
    | succ g1 =>
      have k1 : (j : Int) < (nl : Int) := by omega
      have hjl : j < f.list.length := by rw [HLL.out]; omega
      have hat : f.list[j]? = some f.list[j] := List.getElem?_eq_getElem hjl
      obtain ⟨⟨s1, s2⟩, hs⟩ : ∃ s, f.list[j] = s := ⟨_, rfl⟩
      rw [hs] at hat
      obtain ⟨b, o, rfl, c0, c1⟩ := rd_set HL.out hat
      obtain ⟨b', o', rfl, c0', c1'⟩ := rd_set HL'.out hat
      have e0 := (B2.out.cell (World.block_lt_of_cell? _ _ c0)).trans c0
      have e1 := (B2.out.cell (World.block_lt_of_cell? _ _ c1)).trans c1
      have e0' := (B2.out.cell (World.block_lt_of_cell? _ _ c0')).trans c0'
      have e1' := (B2.out.cell (World.block_lt_of_cell? _ _ c1')).trans c1'
      have neq := fun W => set_neq s1 (s2 : Int) W
      have HJ := Lib.hid hj
      clear hat hs c0 c1 c0' c1' hj
      go_wp2
      go_quiet (fail)
      go_wp2
      go_roundg g1
      case measure => omega
      case rel => exact ⟨j + 1, _, by have := HJ.out; omega, by go_num, rfl⟩
    | zero =>
      obtain rfl : j = nl := by omega
      go_wp2
      go_ret
      exact ⟨rfl, below_drewN B2.out k⟩
end Go.Proofs.YtokbdkbljgdcpaaDoor

/- The document's small answers of layer 6: named, stray, low, Has, in. -/
namespace Go.Proofs.YtokbdkbljgdcpaaDoor
open Go.RowKit Go.Own Go.Frm
set_option linter.unusedVariables false
set_option maxRecDepth 100000
/-- must a stream of this kind be one, none, or either -/
def nmP (k : Nat) : Int := bif onS k then 1 else bif onC k then -1 else 0
theorem named_c (k : Nat) (w : World) : Calls Tryd.prog 67 #[.int .i64 (k : Int)] w fun e w' => e = .returned (.int .i64 (nmP k)) ∧ w' = w := by
  rcases kinds k with rfl | rfl | rfl | rfl | rfl | rfl | rfl | rfl | rfl | rfl | hk
  rotate_right 1
  · have n0 : nmP k = 0 := by
      obtain ⟨_, _, _, _, _, _, _, _, _, _, _, _, h1, h2, _⟩ := hi_letters k hk
      unfold nmP; rw [h1, h2]; rfl
    rw [n0]
    have e0 : ((k : Int) == 0) = false := by simp; omega
    have e1 : ((k : Int) == 1) = false := by simp; omega
    have e2 : ((k : Int) == 2) = false := by simp; omega
    have e3 : ((k : Int) == 3) = false := by simp; omega
    have e4 : ((k : Int) == 4) = false := by simp; omega
    have e5 : ((k : Int) == 5) = false := by simp; omega
    have e6 : ((k : Int) == 6) = false := by simp; omega
    have e7 : ((k : Int) == 7) = false := by simp; omega
    have e9 : ((k : Int) == 9) = false := by simp; omega
    clear n0
    go_enter Tryd.func67, Tryd.ntmps67
    go_wp2
    go_ret
    exact ⟨rfl, rfl⟩
  all_goals
    go_enter Tryd.func67, Tryd.ntmps67
    go_wp2
    go_ret
    exact ⟨rfl, rfl⟩
theorem nm_stray (k : Nat) (s : Int) : stray k s = ((nmP k == 1 && s == 0) || (nmP k == -1 && s != 0)) := by
  unfold stray nmP
  rcases kinds k with rfl | rfl | rfl | rfl | rfl | rfl | rfl | rfl | rfl | rfl | hk
  rotate_right 1
  · obtain ⟨_, _, _, _, _, _, _, _, _, _, _, _, h1, h2, _⟩ := hi_letters k hk
    rw [h1, h2]; rfl
  all_goals (cases (s == 0) <;> simp [onS, onC, bne])
theorem nm_ways (k : Nat) : nmP k = 1 ∨ nmP k = -1 ∨ nmP k = 0 := by
  unfold nmP
  cases onS k
  · cases onC k
    · exact .inr (.inr rfl)
    · exact .inr (.inl rfl)
  · exact .inl rfl
theorem stray_c (k : Nat) (s : Int) (w : World) : Calls Tryd.prog 45 #[.int .i64 (k : Int), .int .i64 s] w fun e w' => e = .returned (.bool (stray k s)) ∧ w' = w := by
  rw [nm_stray]
  rcases nm_ways k with h | h | h
  · by_cases hs : s = 0
    · subst hs
      rw [h]
      have HH := Lib.hid h
      clear h
      go_enter Tryd.func45, Tryd.ntmps45
      go_wp2_with (first
        | (go_at_call 67; (with_reducible refine (named_c k _).mono ?_); rintro e w1 ⟨rfl, rfl⟩; rw [HH.out]))
      go_ret
      exact ⟨rfl, rfl⟩
    · have e : (s == 0) = false := by simpa using hs
      have e2 : (s != 0) = true := by simpa using hs
      rw [h, e, e2]
      have HH := Lib.hid h
      clear h hs
      go_enter Tryd.func45, Tryd.ntmps45
      go_wp2_with (first
        | (go_at_call 67; (with_reducible refine (named_c k _).mono ?_); rintro e w1 ⟨rfl, rfl⟩; rw [HH.out]))
      go_ret
      exact ⟨rfl, rfl⟩
  · by_cases hs : s = 0
    · subst hs
      rw [h]
      have HH := Lib.hid h
      clear h
      go_enter Tryd.func45, Tryd.ntmps45
      go_wp2_with (first
        | (go_at_call 67; (with_reducible refine (named_c k _).mono ?_); rintro e w1 ⟨rfl, rfl⟩; rw [HH.out]))
      go_ret
      exact ⟨rfl, rfl⟩
    · have e : (s == 0) = false := by simpa using hs
      have e2 : (s != 0) = true := by simpa using hs
      rw [h, e, e2]
      have HH := Lib.hid h
      clear h hs
      go_enter Tryd.func45, Tryd.ntmps45
      go_wp2_with (first
        | (go_at_call 67; (with_reducible refine (named_c k _).mono ?_); rintro e w1 ⟨rfl, rfl⟩; rw [HH.out]))
      go_ret
      exact ⟨rfl, rfl⟩
  · rw [h]
    have HH := Lib.hid h
    clear h
    go_enter Tryd.func45, Tryd.ntmps45
    go_wp2_with (first
      | (go_at_call 67; (with_reducible refine (named_c k _).mono ?_); rintro e w1 ⟨rfl, rfl⟩; rw [HH.out]))
    go_ret
    exact ⟨rfl, rfl⟩
/-- what a kind has, in letters -/
def letS (k : Nat) : List UInt8 :=
  if k = 0 then [101, 112, 98] else if k = 1 then [101, 104, 112, 114, 98] else if k = 2 then [119] else if k = 3 then [99] else if k = 4 then [97, 108] else if k = 5 then [104, 112, 116, 98] else if k = 6 then [97, 98] else if k = 7 then [116, 99, 98] else if k = 8 then [105] else if k = 9 then [104, 98] else [102, 98]
set_option maxHeartbeats 2000000 in
theorem has_c (k : Nat) (w : World) : Calls Tryd.prog 48 #[.int .i64 (k : Int)] w fun e w' => e = .returned (.string ⟨(letS k).toArray⟩) ∧ Below w.heap.size w w' := by
  rcases kinds k with rfl | rfl | rfl | rfl | rfl | rfl | rfl | rfl | rfl | rfl | hk
  rotate_right 1
  · have n0 : letS k = [102, 98] := by
      unfold letS
      repeat rw [if_neg (by omega)]
    rw [n0]
    have e0 : ¬ (k : Int) ≤ 9 := by omega
    have e1 : (9 : Int) < (k : Int) := by omega
    have e2 : (0 : Int) ≤ (k : Int) := by omega
    clear n0
    go_enter Tryd.func48, Tryd.ntmps48
    go_wp2
    go_ret
    exact ⟨rfl, Below.refl _ _⟩
  all_goals
    go_enter Tryd.func48, Tryd.ntmps48
    go_wp2
    go_ret
    exact ⟨rfl, (Below.refl _ _).alloc (Nat.le_refl _) _⟩
theorem in_c (xs : List UInt8) (c : UInt8) (hx : xs.length ≤ 1000) (w : World) : Calls Tryd.prog 47 #[.string ⟨xs.toArray⟩, .int .u8 (c.toNat : Int)] w fun e w' => e = .returned (.bool (xs.contains c)) ∧ w' = w := by
  have HX := Lib.hid hx
  have H0 : Hid (∀ j, j < 0 → xs[j]? ≠ some c) := fun j hj => by omega
  clear hx
  go_enter Tryd.func47, Tryd.ntmps47
  go_wp2
  go_loopg [5] xs.length (fun gh t w' => ∃ j : Nat, gh + j = xs.length ∧ t = .int .i64 (j : Int) ∧ (∀ i, i < j → xs[i]? ≠ some c) ∧ w' = w)
  case atStart => exact ⟨0, by omega, rfl, H0.out, rfl⟩
  case round =>
    obtain ⟨j, hj, rfl, hno, rfl⟩ := hrel
    have HNO := Lib.hid hno
    have HJ := Lib.hid hj
    clear hno
    cases gk with
    | zero =>
      have k1 : ¬ j < xs.length := by omega
      have HJL : Hid (j = xs.length) := by show j = xs.length; omega
      clear hj
      go_wp2
      go_ret
      refine ⟨?_, rfl⟩
      have h : xs.contains c = false := by
        rw [Bool.eq_false_iff]
        intro h
        have hm : c ∈ xs := by simpa using h
        obtain ⟨i, hi, he⟩ := List.getElem_of_mem hm
        exact HNO.out i (by rw [HJL.out]; exact hi) (by rw [List.getElem?_eq_getElem hi, he])
      rw [h]; rfl
    | succ g1 =>
      have k1 : j < xs.length := by omega
      obtain ⟨x, hx⟩ : ∃ x, xs[j]? = some x := ⟨_, List.getElem?_eq_getElem k1⟩
      have hel : ∀ h, (({ data := xs.toArray } : ByteArray)[j]'h) = x := fun h => by
        have h2 : xs[j]'k1 = x := (List.getElem?_eq_some_iff.1 hx).2
        rw [← h2]
        simp [ByteArray.getElem_eq_getElem_data]
      obtain ⟨j1, hj1⟩ : ∃ y, j + 1 = y := ⟨_, rfl⟩
      have wj : IntKind.i64.wrap ((j : Int) + 1) = (j1 : Int) := by have := HX.out; rw [IntKind.wrap_i64]; omega
      have HJ1 := Lib.hid hj1
      have HXJ := Lib.hid hx
      clear hj hj1 hx
      by_cases he : x = c
      · subst he
        have hb : ((x.toNat : Int) == (x.toNat : Int)) = true := by simp
        go_wp2
        go_ret
        refine ⟨?_, rfl⟩
        have h : xs.contains x = true := by
          have := List.mem_of_getElem? HXJ.out
          simpa using this
        rw [h]; rfl
      · have hb : ((x.toNat : Int) == (c.toNat : Int)) = false := by
          rw [beq_eq_false_iff_ne]
          intro h
          exact he (UInt8.toNat_inj.1 (by omega))
        have HE := Lib.hid he
        clear he
        go_wp2
        go_roundg g1
        case measure => omega
        case rel =>
          have h1 := HJ.out
          have h2 := HJ1.out
          exact ⟨j1, by omega, rfl, fun i hi => by
            by_cases h : i = j
            · subst h
              rw [HXJ.out]
              intro h
              injection h with h
              exact HE.out h
            · exact HNO.out i (by omega), rfl⟩
theorem low_c (n : Nat) (hn : n < 18446744073709551616) (w : World) : Calls Tryd.prog 43 #[.int .u64 (n : Int)] w fun e w' => e = .returned (.int .i64 ((low n : Nat) : Int)) ∧ w' = w := by
  obtain ⟨r, hr⟩ : ∃ r, low n = r := ⟨_, rfl⟩
  have hr2 : r < 2147483648 := by rw [← hr]; exact Nat.mod_lt _ (by omega)
  have e1 : (n : Int) % 2147483648 = (r : Int) := by rw [← hr]; show _ = ((n % 2147483648 : Nat) : Int); omega
  have e2 : (n : Int).tmod 2147483648 = (r : Int) := by rw [Int.tmod_eq_emod_of_nonneg (by omega)]; exact e1
  rw [hr]
  clear hr
  go_enter Tryd.func43, Tryd.ntmps43
  go_wp2
  go_ret
  exact ⟨rfl, rfl⟩
end Go.Proofs.YtokbdkbljgdcpaaDoor

/- The document's small answers of layer 6: number. -/
namespace Go.Proofs.YtokbdkbljgdcpaaDoor
open Go.RowKit Go.Own Go.Frm
set_option linter.unusedVariables false
set_option maxRecDepth 100000
theorem be_get : ∀ (n v j : Nat), j < n → (be v n)[j]? = some (UInt8.ofNat (v / 256 ^ (n - 1 - j)))
  | 0, _, _, h => absurd h (by omega)
  | n + 1, v, 0, _ => by rw [be_succ]; simp
  | n + 1, v, j + 1, h => by
    rw [be_succ, List.getElem?_cons_succ, be_get n v j (by omega), show n + 1 - 1 - (j + 1) = n - 1 - j by omega]
theorem own_lit0' (w : World) : (w.alloc (.cells #[] 5)).ownsRow w.heap.size 5 1 (.slice (some ⟨w.heap.size, 0, none⟩) 0 0) 0 [] := by
  have h := own_of_blk (n := 0) (size := 1) (cap := 0) (Blk.new w 5 []) (by simp) (Nat.le_refl _) (by unfold maxLen; omega)
  rw [List.take_nil] at h
  refine ⟨h.1, ?_⟩
  rcases h.2 with hn | ⟨g, cap, cur, hv, hb, rest⟩
  · exact .inl hn
  · refine .inr ⟨g, cap, cur, hv, ?_, rest⟩
    cases hv
    exact Nat.le_refl _
theorem u8_one (z : Int) : ∀ v ∈ [Value.int .u8 z], v.oneCell' = true := by
  intro v hv
  simp at hv; subst hv; rfl
theorem bvn' (x : Nat) (y : Int) (h : y = ((x % 256 : Nat) : Int)) : BV (UInt8.ofNat x) = .int .u8 y := by
  subst h
  show Value.int .u8 _ = _
  simp
set_option maxHeartbeats 1000000 in
theorem number_r (v n : Nat) (hv : v < 18446744073709551616) (hn : n ≤ 8) (w : World) : Calls Tryd.prog 36 #[.int .u64 (v : Int), .int .i64 (n : Int)] w fun e w' => e = .returned (.string ⟨(be v n).toArray⟩) ∧ Below w.heap.size w w' := by
  have wn : IntKind.i64.wrap ((n : Int) - 1) = (n : Int) - 1 := by rw [IntKind.wrap_i64]; omega
  go_enter Tryd.func36, Tryd.ntmps36
  go_wp2
  go_loopg [5, 6] n (fun gh o t w' => ∃ (A : Option Addr) (m c : Nat), gh + m = n ∧ t = .int .i64 ((gh : Int) - 1) ∧ o = .slice A m c ∧ w'.ownsRow w.heap.size 5 1 (.slice A m c) m (((be v n).take m).map BV) ∧ Below w.heap.size w w')
  case atStart => exact ⟨some ⟨w.heap.size, 0, none⟩, 0, 0, by omega, rfl, rfl, own_lit0' w, (Below.refl _ _).alloc (Nat.le_refl _) _⟩
  case round =>
    obtain ⟨A, m, c, hm, rfl, rfl, how, hb⟩ := hrel
    cases gk with
    | zero =>
      have HB := Lib.hid hb
      obtain rfl : m = n := by omega
      rw [List.take_of_length_le (by rw [be_length]; omega)] at how
      have cv := run_conv_bytes (src := 22) (dst := 9) (c := c) Tryd.underlying22 Tryd.underlying5 Tryd.underlying9 (Rd.of_own how)
      clear how hb hm
      go_wp2
      go_ret
      exact ⟨rfl, HB.out⟩
    | succ g =>
      have k1 : (0 : Int) ≤ ((g + 1 : Nat) : Int) - 1 := by omega
      have e0 : (((g + 1 : Nat) : Int) - 1) = (g : Int) := by omega
      rw [e0]
      have hlt : m < n := by omega
      have hbv : BV (UInt8.ofNat (v / 256 ^ g)) = .int .u8 ((v : Int) / 2 ^ (8 * g) % 256) := bvn' _ _ (by
        have e : (256 : Nat) ^ g = 2 ^ (8 * g) := by rw [Nat.pow_mul]
        rw [e]
        have h2 : ((v / 2 ^ (8 * g) : Nat) : Int) = (v : Int) / 2 ^ (8 * g) := by simp
        rw [Int.natCast_emod, h2]
        rfl)
      have hsn : (be v n).take (m + 1) = (be v n).take m ++ [UInt8.ofNat (v / 256 ^ g)] := by
        have h := be_get n v m hlt
        rw [show n - 1 - m = g by omega] at h
        rw [List.take_add_one, h]
        rfl
      have hal : Fr (fun _ => False) wr (wr.alloc (.cells #[.int .u8 ((v : Int) / 2 ^ (8 * g) % 256)] 5)) := (Fr.refl _ _).alloc _
      have O4 := Lib.hid (own_fr (S := fun _ => False) how hal (fun _ _ h => h))
      have X4 : Hid (Rd (wr.alloc (.cells #[.int .u8 ((v : Int) / 2 ^ (8 * g) % 256)] 5)) 1 (some ⟨wr.heap.size, 0, none⟩) 1 [.int .u8 ((v : Int) / 2 ^ (8 * g) % 256)]) := Rd.of_blk (n := 1) (size := 1) (Blk.new wr 5 [.int .u8 ((v : Int) / 2 ^ (8 * g) % 256)]) (by simp)
      have B4 := Lib.hid (hb.alloc hb.size (.cells #[.int .u8 ((v : Int) / 2 ^ (8 * g) % 256)] 5))
      have hs4 : Hid (w.heap.size ≤ (wr.alloc (.cells #[.int .u8 ((v : Int) / 2 ^ (8 * g) % 256)] 5)).heap.size) := B4.out.size
      have HSN := Lib.hid hsn
      have HBV := Lib.hid hbv
      have HM := Lib.hid hm
      have hg7 : g ≤ 7 := by omega
      clear hal how hb hsn hbv hm
      go_wp2_with (first
        | (at_builtin
           refine wpList_append_rd rfl (.tmp 14) (.tmp 21) 22 rfl EB (.slice A m c) m (((be v n).take m).map BV) rfl O4.out (some ⟨wr.heap.size, 0, none⟩) 1 1 [.int .u8 ((v : Int) / 2 ^ (8 * g) % 256)] rfl X4.out (u8_one _) (by omega) (by unfold maxLen; omega) hs4.out ?_
           intro A6 c6 w6 ho6 hf6 h26
           have e6 : ((be v n).take m).map BV ++ [.int .u8 ((v : Int) / 2 ^ (8 * g) % 256)] = ((be v n).take (m + 1)).map BV := by rw [HSN.out, List.map_append, ← HBV.out]; rfl
           rw [e6] at ho6
           have O6 := Lib.hid ho6
           have B6 := Lib.hid (B4.out.trans (hf6.below hs4.out (fun i _ e => (O4.out.lt i e.symm).1)))
           clear ho6 hf6 h26 e6))
      go_roundg g
      case measure => omega
      case rel => exact ⟨A6, m + 1, c6, by have := HM.out; omega, by go_num, rfl, O6.out, B6.out⟩
end Go.Proofs.YtokbdkbljgdcpaaDoor

/- The document's small answers of layer 6: flags. -/
namespace Go.Proofs.YtokbdkbljgdcpaaDoor
open Go.RowKit Go.Own Go.Frm
set_option linter.unusedVariables false
set_option maxRecDepth 100000
set_option maxHeartbeats 4000000 in
theorem flags_r (f : Fm) (h0 : 0 ≤ f.flags) (h1 : f.flags ≤ 255) (pv lv : Value) (w : World) : Calls Tryd.prog 37 #[frV f pv lv] w fun e w' => e = .returned (.int .i64 ((flagsN f : Nat) : Int)) ∧ Below w.heap.size w w' := by
  obtain ⟨kind, stream, fin, eh, ack, prio, pay, flags, pad, depend, excl, weight, code, list, last, inc⟩ := f
  simp only at h0 h1
  obtain ⟨n, rfl⟩ : ∃ n : Nat, flags = (n : Int) := ⟨flags.toNat, by omega⟩
  have hf : ∀ b1 b2 b3 b4 : Bool, flagsN ⟨kind, stream, b1, b2, b3, b4, pay, (n : Int), pad, depend, excl, weight, code, list, last, inc⟩ = n + (bif b1 || b3 then 1 else 0) + (bif b2 then 4 else 0) + (bif decide (0 < pad) then 8 else 0) + (bif b4 then 32 else 0) := fun _ _ _ _ => rfl
  rw [hf]
  have hn : n ≤ 255 := by omega
  by_cases hp : 0 < pad
  · rw [decide_eq_true hp]
    clear hf h0 h1
    cases fin <;> cases ack <;> cases eh <;> cases prio
    all_goals
      go_enter Tryd.func37, Tryd.ntmps37
      go_wp2
      go_ret
      refine ⟨congrArg (fun z => Ending.returned (Value.int .i64 z)) ?_, (Below.refl _ _).alloc (Nat.le_refl _) _⟩
      first | rfl | omega | (simp; done) | (simp; omega)
  · rw [decide_eq_false hp]
    clear hf h0 h1
    cases fin <;> cases ack <;> cases eh <;> cases prio
    all_goals
      go_enter Tryd.func37, Tryd.ntmps37
      go_wp2
      go_ret
      refine ⟨congrArg (fun z => Ending.returned (Value.int .i64 z)) ?_, (Below.refl _ _).alloc (Nat.le_refl _) _⟩
      first | rfl | omega | (simp; done) | (simp; omega)
end Go.Proofs.YtokbdkbljgdcpaaDoor

/- The document's parser: least. -/
namespace Go.Proofs.YtokbdkbljgdcpaaDoor
open Go.RowKit Go.Own Go.Frm
set_option linter.unusedVariables false
set_option maxRecDepth 100000
theorem let_p (k : Nat) : (letS k).contains 112 = hP k := by
  rcases kinds k with rfl | rfl | rfl | rfl | rfl | rfl | rfl | rfl | rfl | rfl | hk
  rotate_right 1
  · have n0 : letS k = [102, 98] := by
      unfold letS
      repeat rw [if_neg (by omega)]
    obtain ⟨_, h2, _⟩ := hi_letters k hk
    rw [n0, h2]; rfl
  all_goals rfl
theorem letS_len (k : Nat) : (letS k).length ≤ 1000 := by
  unfold letS
  repeat' split
  all_goals (simp)
theorem in_k (k : Nat) (c : UInt8) (b : Bool) (h : (letS k).contains c = b) (z : Int) (hz : z = (c.toNat : Int)) (w : World) : Calls Tryd.prog 47 #[.string ⟨(letS k).toArray⟩, .int .u8 z] w fun e w' => e = .returned (.bool b) ∧ w' = w := by
  subst hz h
  exact in_c (letS k) c (letS_len k) w
theorem has_k (k : Nat) (z : Int) (hz : z = (k : Int)) (w : World) : Calls Tryd.prog 48 #[.int .i64 z] w fun e w' => e = .returned (.string ⟨(letS k).toArray⟩) ∧ Below w.heap.size w w' := by
  subst hz
  exact has_c k w
set_option maxHeartbeats 8000000 in
theorem least_c (k fl : Nat) (hk : k < 256) (hfl : fl < 256) (w : World) : Calls Tryd.prog 46 #[.int .i64 (k : Int), .int .i64 (fl : Int)] w fun e w' => e = .returned (.tuple #[.int .i64 ((must k fl : Nat) : Int), .bool (just k)]) ∧ Below w.heap.size w w' := by
  have b8 : (bits .and .i64 (fl : Int) 8 != 0) = fl.testBit 3 := and_pow fl 3 (by omega) (by omega)
  have b32 : (bits .and .i64 (fl : Int) 32 != 0) = fl.testBit 5 := and_pow fl 5 (by omega) (by omega)
  obtain ⟨t3, h3⟩ : ∃ b, fl.testBit 3 = b := ⟨_, rfl⟩
  obtain ⟨t5, h5⟩ : ∃ b, fl.testBit 5 = b := ⟨_, rfl⟩
  rw [h3] at b8
  rw [h5] at b32
  have hm : must k fl = base k + (bif hP k && t3 then 1 else 0) + (bif hR k && t5 then 5 else 0) := by unfold must padded withP; rw [h3, h5]
  rw [hm]
  clear hm h3 h5
  rcases kinds k with rfl | rfl | rfl | rfl | rfl | rfl | rfl | rfl | rfl | rfl | hk10
  · cases t3 <;> cases t5
    · have LP : Hid ((letS 0).contains 112 = true) := (let_p 0)
      have LZ : Hid ((112 : Int) = ((112 : UInt8).toNat : Int)) := rfl
      go_enter Tryd.func46, Tryd.ntmps46
      go_wp2_with (first
        | (go_at_call 48; (with_reducible refine (has_k 0 0 rfl _).mono ?_); rintro e w1 ⟨rfl, hb⟩
           have HB := Lib.hid hb
           clear hb)
        | (go_at_call 47; (with_reducible refine (in_k 0 112 true LP.out 112 LZ.out _).mono ?_); rintro e w2 ⟨rfl, rfl⟩))
      refine bodyPost_ret (v := .tuple #[.int .i64 0, .bool false]) (by simp [results, Tryd.results46, go_sem]) rfl ⟨rfl, HB.out⟩
    · have LP : Hid ((letS 0).contains 112 = true) := (let_p 0)
      have LZ : Hid ((112 : Int) = ((112 : UInt8).toNat : Int)) := rfl
      go_enter Tryd.func46, Tryd.ntmps46
      go_wp2_with (first
        | (go_at_call 48; (with_reducible refine (has_k 0 0 rfl _).mono ?_); rintro e w1 ⟨rfl, hb⟩
           have HB := Lib.hid hb
           clear hb)
        | (go_at_call 47; (with_reducible refine (in_k 0 112 true LP.out 112 LZ.out _).mono ?_); rintro e w2 ⟨rfl, rfl⟩))
      refine bodyPost_ret (v := .tuple #[.int .i64 0, .bool false]) (by simp [results, Tryd.results46, go_sem]) rfl ⟨rfl, HB.out⟩
    · have LP : Hid ((letS 0).contains 112 = true) := (let_p 0)
      have LZ : Hid ((112 : Int) = ((112 : UInt8).toNat : Int)) := rfl
      go_enter Tryd.func46, Tryd.ntmps46
      go_wp2_with (first
        | (go_at_call 48; (with_reducible refine (has_k 0 0 rfl _).mono ?_); rintro e w1 ⟨rfl, hb⟩
           have HB := Lib.hid hb
           clear hb)
        | (go_at_call 47; (with_reducible refine (in_k 0 112 true LP.out 112 LZ.out _).mono ?_); rintro e w2 ⟨rfl, rfl⟩))
      refine bodyPost_ret (v := .tuple #[.int .i64 1, .bool false]) (by simp [results, Tryd.results46, go_sem]) rfl ⟨rfl, HB.out⟩
    · have LP : Hid ((letS 0).contains 112 = true) := (let_p 0)
      have LZ : Hid ((112 : Int) = ((112 : UInt8).toNat : Int)) := rfl
      go_enter Tryd.func46, Tryd.ntmps46
      go_wp2_with (first
        | (go_at_call 48; (with_reducible refine (has_k 0 0 rfl _).mono ?_); rintro e w1 ⟨rfl, hb⟩
           have HB := Lib.hid hb
           clear hb)
        | (go_at_call 47; (with_reducible refine (in_k 0 112 true LP.out 112 LZ.out _).mono ?_); rintro e w2 ⟨rfl, rfl⟩))
      refine bodyPost_ret (v := .tuple #[.int .i64 1, .bool false]) (by simp [results, Tryd.results46, go_sem]) rfl ⟨rfl, HB.out⟩
  · cases t3 <;> cases t5
    · have LP : Hid ((letS 1).contains 112 = true) := (let_p 1)
      have LZ : Hid ((112 : Int) = ((112 : UInt8).toNat : Int)) := rfl
      go_enter Tryd.func46, Tryd.ntmps46
      go_wp2_with (first
        | (go_at_call 48; (with_reducible refine (has_k 1 1 rfl _).mono ?_); rintro e w1 ⟨rfl, hb⟩
           have HB := Lib.hid hb
           clear hb)
        | (go_at_call 47; (with_reducible refine (in_k 1 112 true LP.out 112 LZ.out _).mono ?_); rintro e w2 ⟨rfl, rfl⟩))
      refine bodyPost_ret (v := .tuple #[.int .i64 0, .bool false]) (by simp [results, Tryd.results46, go_sem]) rfl ⟨rfl, HB.out⟩
    · have LP : Hid ((letS 1).contains 112 = true) := (let_p 1)
      have LZ : Hid ((112 : Int) = ((112 : UInt8).toNat : Int)) := rfl
      go_enter Tryd.func46, Tryd.ntmps46
      go_wp2_with (first
        | (go_at_call 48; (with_reducible refine (has_k 1 1 rfl _).mono ?_); rintro e w1 ⟨rfl, hb⟩
           have HB := Lib.hid hb
           clear hb)
        | (go_at_call 47; (with_reducible refine (in_k 1 112 true LP.out 112 LZ.out _).mono ?_); rintro e w2 ⟨rfl, rfl⟩))
      refine bodyPost_ret (v := .tuple #[.int .i64 5, .bool false]) (by simp [results, Tryd.results46, go_sem]) rfl ⟨rfl, HB.out⟩
    · have LP : Hid ((letS 1).contains 112 = true) := (let_p 1)
      have LZ : Hid ((112 : Int) = ((112 : UInt8).toNat : Int)) := rfl
      go_enter Tryd.func46, Tryd.ntmps46
      go_wp2_with (first
        | (go_at_call 48; (with_reducible refine (has_k 1 1 rfl _).mono ?_); rintro e w1 ⟨rfl, hb⟩
           have HB := Lib.hid hb
           clear hb)
        | (go_at_call 47; (with_reducible refine (in_k 1 112 true LP.out 112 LZ.out _).mono ?_); rintro e w2 ⟨rfl, rfl⟩))
      refine bodyPost_ret (v := .tuple #[.int .i64 1, .bool false]) (by simp [results, Tryd.results46, go_sem]) rfl ⟨rfl, HB.out⟩
    · have LP : Hid ((letS 1).contains 112 = true) := (let_p 1)
      have LZ : Hid ((112 : Int) = ((112 : UInt8).toNat : Int)) := rfl
      go_enter Tryd.func46, Tryd.ntmps46
      go_wp2_with (first
        | (go_at_call 48; (with_reducible refine (has_k 1 1 rfl _).mono ?_); rintro e w1 ⟨rfl, hb⟩
           have HB := Lib.hid hb
           clear hb)
        | (go_at_call 47; (with_reducible refine (in_k 1 112 true LP.out 112 LZ.out _).mono ?_); rintro e w2 ⟨rfl, rfl⟩))
      refine bodyPost_ret (v := .tuple #[.int .i64 6, .bool false]) (by simp [results, Tryd.results46, go_sem]) rfl ⟨rfl, HB.out⟩
  · cases t3 <;> cases t5
    · have LP : Hid ((letS 2).contains 112 = false) := (let_p 2)
      have LZ : Hid ((112 : Int) = ((112 : UInt8).toNat : Int)) := rfl
      go_enter Tryd.func46, Tryd.ntmps46
      go_wp2_with (first
        | (go_at_call 48; (with_reducible refine (has_k 2 2 rfl _).mono ?_); rintro e w1 ⟨rfl, hb⟩
           have HB := Lib.hid hb
           clear hb)
        | (go_at_call 47; (with_reducible refine (in_k 2 112 false LP.out 112 LZ.out _).mono ?_); rintro e w2 ⟨rfl, rfl⟩))
      refine bodyPost_ret (v := .tuple #[.int .i64 5, .bool true]) (by simp [results, Tryd.results46, go_sem]) rfl ⟨rfl, HB.out⟩
    · have LP : Hid ((letS 2).contains 112 = false) := (let_p 2)
      have LZ : Hid ((112 : Int) = ((112 : UInt8).toNat : Int)) := rfl
      go_enter Tryd.func46, Tryd.ntmps46
      go_wp2_with (first
        | (go_at_call 48; (with_reducible refine (has_k 2 2 rfl _).mono ?_); rintro e w1 ⟨rfl, hb⟩
           have HB := Lib.hid hb
           clear hb)
        | (go_at_call 47; (with_reducible refine (in_k 2 112 false LP.out 112 LZ.out _).mono ?_); rintro e w2 ⟨rfl, rfl⟩))
      refine bodyPost_ret (v := .tuple #[.int .i64 5, .bool true]) (by simp [results, Tryd.results46, go_sem]) rfl ⟨rfl, HB.out⟩
    · have LP : Hid ((letS 2).contains 112 = false) := (let_p 2)
      have LZ : Hid ((112 : Int) = ((112 : UInt8).toNat : Int)) := rfl
      go_enter Tryd.func46, Tryd.ntmps46
      go_wp2_with (first
        | (go_at_call 48; (with_reducible refine (has_k 2 2 rfl _).mono ?_); rintro e w1 ⟨rfl, hb⟩
           have HB := Lib.hid hb
           clear hb)
        | (go_at_call 47; (with_reducible refine (in_k 2 112 false LP.out 112 LZ.out _).mono ?_); rintro e w2 ⟨rfl, rfl⟩))
      refine bodyPost_ret (v := .tuple #[.int .i64 5, .bool true]) (by simp [results, Tryd.results46, go_sem]) rfl ⟨rfl, HB.out⟩
    · have LP : Hid ((letS 2).contains 112 = false) := (let_p 2)
      have LZ : Hid ((112 : Int) = ((112 : UInt8).toNat : Int)) := rfl
      go_enter Tryd.func46, Tryd.ntmps46
      go_wp2_with (first
        | (go_at_call 48; (with_reducible refine (has_k 2 2 rfl _).mono ?_); rintro e w1 ⟨rfl, hb⟩
           have HB := Lib.hid hb
           clear hb)
        | (go_at_call 47; (with_reducible refine (in_k 2 112 false LP.out 112 LZ.out _).mono ?_); rintro e w2 ⟨rfl, rfl⟩))
      refine bodyPost_ret (v := .tuple #[.int .i64 5, .bool true]) (by simp [results, Tryd.results46, go_sem]) rfl ⟨rfl, HB.out⟩
  · cases t3 <;> cases t5
    · have LP : Hid ((letS 3).contains 112 = false) := (let_p 3)
      have LZ : Hid ((112 : Int) = ((112 : UInt8).toNat : Int)) := rfl
      go_enter Tryd.func46, Tryd.ntmps46
      go_wp2_with (first
        | (go_at_call 48; (with_reducible refine (has_k 3 3 rfl _).mono ?_); rintro e w1 ⟨rfl, hb⟩
           have HB := Lib.hid hb
           clear hb)
        | (go_at_call 47; (with_reducible refine (in_k 3 112 false LP.out 112 LZ.out _).mono ?_); rintro e w2 ⟨rfl, rfl⟩))
      refine bodyPost_ret (v := .tuple #[.int .i64 4, .bool true]) (by simp [results, Tryd.results46, go_sem]) rfl ⟨rfl, HB.out⟩
    · have LP : Hid ((letS 3).contains 112 = false) := (let_p 3)
      have LZ : Hid ((112 : Int) = ((112 : UInt8).toNat : Int)) := rfl
      go_enter Tryd.func46, Tryd.ntmps46
      go_wp2_with (first
        | (go_at_call 48; (with_reducible refine (has_k 3 3 rfl _).mono ?_); rintro e w1 ⟨rfl, hb⟩
           have HB := Lib.hid hb
           clear hb)
        | (go_at_call 47; (with_reducible refine (in_k 3 112 false LP.out 112 LZ.out _).mono ?_); rintro e w2 ⟨rfl, rfl⟩))
      refine bodyPost_ret (v := .tuple #[.int .i64 4, .bool true]) (by simp [results, Tryd.results46, go_sem]) rfl ⟨rfl, HB.out⟩
    · have LP : Hid ((letS 3).contains 112 = false) := (let_p 3)
      have LZ : Hid ((112 : Int) = ((112 : UInt8).toNat : Int)) := rfl
      go_enter Tryd.func46, Tryd.ntmps46
      go_wp2_with (first
        | (go_at_call 48; (with_reducible refine (has_k 3 3 rfl _).mono ?_); rintro e w1 ⟨rfl, hb⟩
           have HB := Lib.hid hb
           clear hb)
        | (go_at_call 47; (with_reducible refine (in_k 3 112 false LP.out 112 LZ.out _).mono ?_); rintro e w2 ⟨rfl, rfl⟩))
      refine bodyPost_ret (v := .tuple #[.int .i64 4, .bool true]) (by simp [results, Tryd.results46, go_sem]) rfl ⟨rfl, HB.out⟩
    · have LP : Hid ((letS 3).contains 112 = false) := (let_p 3)
      have LZ : Hid ((112 : Int) = ((112 : UInt8).toNat : Int)) := rfl
      go_enter Tryd.func46, Tryd.ntmps46
      go_wp2_with (first
        | (go_at_call 48; (with_reducible refine (has_k 3 3 rfl _).mono ?_); rintro e w1 ⟨rfl, hb⟩
           have HB := Lib.hid hb
           clear hb)
        | (go_at_call 47; (with_reducible refine (in_k 3 112 false LP.out 112 LZ.out _).mono ?_); rintro e w2 ⟨rfl, rfl⟩))
      refine bodyPost_ret (v := .tuple #[.int .i64 4, .bool true]) (by simp [results, Tryd.results46, go_sem]) rfl ⟨rfl, HB.out⟩
  · cases t3 <;> cases t5
    · have LP : Hid ((letS 4).contains 112 = false) := (let_p 4)
      have LZ : Hid ((112 : Int) = ((112 : UInt8).toNat : Int)) := rfl
      go_enter Tryd.func46, Tryd.ntmps46
      go_wp2_with (first
        | (go_at_call 48; (with_reducible refine (has_k 4 4 rfl _).mono ?_); rintro e w1 ⟨rfl, hb⟩
           have HB := Lib.hid hb
           clear hb)
        | (go_at_call 47; (with_reducible refine (in_k 4 112 false LP.out 112 LZ.out _).mono ?_); rintro e w2 ⟨rfl, rfl⟩))
      refine bodyPost_ret (v := .tuple #[.int .i64 0, .bool false]) (by simp [results, Tryd.results46, go_sem]) rfl ⟨rfl, HB.out⟩
    · have LP : Hid ((letS 4).contains 112 = false) := (let_p 4)
      have LZ : Hid ((112 : Int) = ((112 : UInt8).toNat : Int)) := rfl
      go_enter Tryd.func46, Tryd.ntmps46
      go_wp2_with (first
        | (go_at_call 48; (with_reducible refine (has_k 4 4 rfl _).mono ?_); rintro e w1 ⟨rfl, hb⟩
           have HB := Lib.hid hb
           clear hb)
        | (go_at_call 47; (with_reducible refine (in_k 4 112 false LP.out 112 LZ.out _).mono ?_); rintro e w2 ⟨rfl, rfl⟩))
      refine bodyPost_ret (v := .tuple #[.int .i64 0, .bool false]) (by simp [results, Tryd.results46, go_sem]) rfl ⟨rfl, HB.out⟩
    · have LP : Hid ((letS 4).contains 112 = false) := (let_p 4)
      have LZ : Hid ((112 : Int) = ((112 : UInt8).toNat : Int)) := rfl
      go_enter Tryd.func46, Tryd.ntmps46
      go_wp2_with (first
        | (go_at_call 48; (with_reducible refine (has_k 4 4 rfl _).mono ?_); rintro e w1 ⟨rfl, hb⟩
           have HB := Lib.hid hb
           clear hb)
        | (go_at_call 47; (with_reducible refine (in_k 4 112 false LP.out 112 LZ.out _).mono ?_); rintro e w2 ⟨rfl, rfl⟩))
      refine bodyPost_ret (v := .tuple #[.int .i64 0, .bool false]) (by simp [results, Tryd.results46, go_sem]) rfl ⟨rfl, HB.out⟩
    · have LP : Hid ((letS 4).contains 112 = false) := (let_p 4)
      have LZ : Hid ((112 : Int) = ((112 : UInt8).toNat : Int)) := rfl
      go_enter Tryd.func46, Tryd.ntmps46
      go_wp2_with (first
        | (go_at_call 48; (with_reducible refine (has_k 4 4 rfl _).mono ?_); rintro e w1 ⟨rfl, hb⟩
           have HB := Lib.hid hb
           clear hb)
        | (go_at_call 47; (with_reducible refine (in_k 4 112 false LP.out 112 LZ.out _).mono ?_); rintro e w2 ⟨rfl, rfl⟩))
      refine bodyPost_ret (v := .tuple #[.int .i64 0, .bool false]) (by simp [results, Tryd.results46, go_sem]) rfl ⟨rfl, HB.out⟩
  · cases t3 <;> cases t5
    · have LP : Hid ((letS 5).contains 112 = true) := (let_p 5)
      have LZ : Hid ((112 : Int) = ((112 : UInt8).toNat : Int)) := rfl
      go_enter Tryd.func46, Tryd.ntmps46
      go_wp2_with (first
        | (go_at_call 48; (with_reducible refine (has_k 5 5 rfl _).mono ?_); rintro e w1 ⟨rfl, hb⟩
           have HB := Lib.hid hb
           clear hb)
        | (go_at_call 47; (with_reducible refine (in_k 5 112 true LP.out 112 LZ.out _).mono ?_); rintro e w2 ⟨rfl, rfl⟩))
      refine bodyPost_ret (v := .tuple #[.int .i64 4, .bool false]) (by simp [results, Tryd.results46, go_sem]) rfl ⟨rfl, HB.out⟩
    · have LP : Hid ((letS 5).contains 112 = true) := (let_p 5)
      have LZ : Hid ((112 : Int) = ((112 : UInt8).toNat : Int)) := rfl
      go_enter Tryd.func46, Tryd.ntmps46
      go_wp2_with (first
        | (go_at_call 48; (with_reducible refine (has_k 5 5 rfl _).mono ?_); rintro e w1 ⟨rfl, hb⟩
           have HB := Lib.hid hb
           clear hb)
        | (go_at_call 47; (with_reducible refine (in_k 5 112 true LP.out 112 LZ.out _).mono ?_); rintro e w2 ⟨rfl, rfl⟩))
      refine bodyPost_ret (v := .tuple #[.int .i64 4, .bool false]) (by simp [results, Tryd.results46, go_sem]) rfl ⟨rfl, HB.out⟩
    · have LP : Hid ((letS 5).contains 112 = true) := (let_p 5)
      have LZ : Hid ((112 : Int) = ((112 : UInt8).toNat : Int)) := rfl
      go_enter Tryd.func46, Tryd.ntmps46
      go_wp2_with (first
        | (go_at_call 48; (with_reducible refine (has_k 5 5 rfl _).mono ?_); rintro e w1 ⟨rfl, hb⟩
           have HB := Lib.hid hb
           clear hb)
        | (go_at_call 47; (with_reducible refine (in_k 5 112 true LP.out 112 LZ.out _).mono ?_); rintro e w2 ⟨rfl, rfl⟩))
      refine bodyPost_ret (v := .tuple #[.int .i64 5, .bool false]) (by simp [results, Tryd.results46, go_sem]) rfl ⟨rfl, HB.out⟩
    · have LP : Hid ((letS 5).contains 112 = true) := (let_p 5)
      have LZ : Hid ((112 : Int) = ((112 : UInt8).toNat : Int)) := rfl
      go_enter Tryd.func46, Tryd.ntmps46
      go_wp2_with (first
        | (go_at_call 48; (with_reducible refine (has_k 5 5 rfl _).mono ?_); rintro e w1 ⟨rfl, hb⟩
           have HB := Lib.hid hb
           clear hb)
        | (go_at_call 47; (with_reducible refine (in_k 5 112 true LP.out 112 LZ.out _).mono ?_); rintro e w2 ⟨rfl, rfl⟩))
      refine bodyPost_ret (v := .tuple #[.int .i64 5, .bool false]) (by simp [results, Tryd.results46, go_sem]) rfl ⟨rfl, HB.out⟩
  · cases t3 <;> cases t5
    · have LP : Hid ((letS 6).contains 112 = false) := (let_p 6)
      have LZ : Hid ((112 : Int) = ((112 : UInt8).toNat : Int)) := rfl
      go_enter Tryd.func46, Tryd.ntmps46
      go_wp2_with (first
        | (go_at_call 48; (with_reducible refine (has_k 6 6 rfl _).mono ?_); rintro e w1 ⟨rfl, hb⟩
           have HB := Lib.hid hb
           clear hb)
        | (go_at_call 47; (with_reducible refine (in_k 6 112 false LP.out 112 LZ.out _).mono ?_); rintro e w2 ⟨rfl, rfl⟩))
      refine bodyPost_ret (v := .tuple #[.int .i64 8, .bool true]) (by simp [results, Tryd.results46, go_sem]) rfl ⟨rfl, HB.out⟩
    · have LP : Hid ((letS 6).contains 112 = false) := (let_p 6)
      have LZ : Hid ((112 : Int) = ((112 : UInt8).toNat : Int)) := rfl
      go_enter Tryd.func46, Tryd.ntmps46
      go_wp2_with (first
        | (go_at_call 48; (with_reducible refine (has_k 6 6 rfl _).mono ?_); rintro e w1 ⟨rfl, hb⟩
           have HB := Lib.hid hb
           clear hb)
        | (go_at_call 47; (with_reducible refine (in_k 6 112 false LP.out 112 LZ.out _).mono ?_); rintro e w2 ⟨rfl, rfl⟩))
      refine bodyPost_ret (v := .tuple #[.int .i64 8, .bool true]) (by simp [results, Tryd.results46, go_sem]) rfl ⟨rfl, HB.out⟩
    · have LP : Hid ((letS 6).contains 112 = false) := (let_p 6)
      have LZ : Hid ((112 : Int) = ((112 : UInt8).toNat : Int)) := rfl
      go_enter Tryd.func46, Tryd.ntmps46
      go_wp2_with (first
        | (go_at_call 48; (with_reducible refine (has_k 6 6 rfl _).mono ?_); rintro e w1 ⟨rfl, hb⟩
           have HB := Lib.hid hb
           clear hb)
        | (go_at_call 47; (with_reducible refine (in_k 6 112 false LP.out 112 LZ.out _).mono ?_); rintro e w2 ⟨rfl, rfl⟩))
      refine bodyPost_ret (v := .tuple #[.int .i64 8, .bool true]) (by simp [results, Tryd.results46, go_sem]) rfl ⟨rfl, HB.out⟩
    · have LP : Hid ((letS 6).contains 112 = false) := (let_p 6)
      have LZ : Hid ((112 : Int) = ((112 : UInt8).toNat : Int)) := rfl
      go_enter Tryd.func46, Tryd.ntmps46
      go_wp2_with (first
        | (go_at_call 48; (with_reducible refine (has_k 6 6 rfl _).mono ?_); rintro e w1 ⟨rfl, hb⟩
           have HB := Lib.hid hb
           clear hb)
        | (go_at_call 47; (with_reducible refine (in_k 6 112 false LP.out 112 LZ.out _).mono ?_); rintro e w2 ⟨rfl, rfl⟩))
      refine bodyPost_ret (v := .tuple #[.int .i64 8, .bool true]) (by simp [results, Tryd.results46, go_sem]) rfl ⟨rfl, HB.out⟩
  · cases t3 <;> cases t5
    · have LP : Hid ((letS 7).contains 112 = false) := (let_p 7)
      have LZ : Hid ((112 : Int) = ((112 : UInt8).toNat : Int)) := rfl
      go_enter Tryd.func46, Tryd.ntmps46
      go_wp2_with (first
        | (go_at_call 48; (with_reducible refine (has_k 7 7 rfl _).mono ?_); rintro e w1 ⟨rfl, hb⟩
           have HB := Lib.hid hb
           clear hb)
        | (go_at_call 47; (with_reducible refine (in_k 7 112 false LP.out 112 LZ.out _).mono ?_); rintro e w2 ⟨rfl, rfl⟩))
      refine bodyPost_ret (v := .tuple #[.int .i64 8, .bool false]) (by simp [results, Tryd.results46, go_sem]) rfl ⟨rfl, HB.out⟩
    · have LP : Hid ((letS 7).contains 112 = false) := (let_p 7)
      have LZ : Hid ((112 : Int) = ((112 : UInt8).toNat : Int)) := rfl
      go_enter Tryd.func46, Tryd.ntmps46
      go_wp2_with (first
        | (go_at_call 48; (with_reducible refine (has_k 7 7 rfl _).mono ?_); rintro e w1 ⟨rfl, hb⟩
           have HB := Lib.hid hb
           clear hb)
        | (go_at_call 47; (with_reducible refine (in_k 7 112 false LP.out 112 LZ.out _).mono ?_); rintro e w2 ⟨rfl, rfl⟩))
      refine bodyPost_ret (v := .tuple #[.int .i64 8, .bool false]) (by simp [results, Tryd.results46, go_sem]) rfl ⟨rfl, HB.out⟩
    · have LP : Hid ((letS 7).contains 112 = false) := (let_p 7)
      have LZ : Hid ((112 : Int) = ((112 : UInt8).toNat : Int)) := rfl
      go_enter Tryd.func46, Tryd.ntmps46
      go_wp2_with (first
        | (go_at_call 48; (with_reducible refine (has_k 7 7 rfl _).mono ?_); rintro e w1 ⟨rfl, hb⟩
           have HB := Lib.hid hb
           clear hb)
        | (go_at_call 47; (with_reducible refine (in_k 7 112 false LP.out 112 LZ.out _).mono ?_); rintro e w2 ⟨rfl, rfl⟩))
      refine bodyPost_ret (v := .tuple #[.int .i64 8, .bool false]) (by simp [results, Tryd.results46, go_sem]) rfl ⟨rfl, HB.out⟩
    · have LP : Hid ((letS 7).contains 112 = false) := (let_p 7)
      have LZ : Hid ((112 : Int) = ((112 : UInt8).toNat : Int)) := rfl
      go_enter Tryd.func46, Tryd.ntmps46
      go_wp2_with (first
        | (go_at_call 48; (with_reducible refine (has_k 7 7 rfl _).mono ?_); rintro e w1 ⟨rfl, hb⟩
           have HB := Lib.hid hb
           clear hb)
        | (go_at_call 47; (with_reducible refine (in_k 7 112 false LP.out 112 LZ.out _).mono ?_); rintro e w2 ⟨rfl, rfl⟩))
      refine bodyPost_ret (v := .tuple #[.int .i64 8, .bool false]) (by simp [results, Tryd.results46, go_sem]) rfl ⟨rfl, HB.out⟩
  · cases t3 <;> cases t5
    · have LP : Hid ((letS 8).contains 112 = false) := (let_p 8)
      have LZ : Hid ((112 : Int) = ((112 : UInt8).toNat : Int)) := rfl
      go_enter Tryd.func46, Tryd.ntmps46
      go_wp2_with (first
        | (go_at_call 48; (with_reducible refine (has_k 8 8 rfl _).mono ?_); rintro e w1 ⟨rfl, hb⟩
           have HB := Lib.hid hb
           clear hb)
        | (go_at_call 47; (with_reducible refine (in_k 8 112 false LP.out 112 LZ.out _).mono ?_); rintro e w2 ⟨rfl, rfl⟩))
      refine bodyPost_ret (v := .tuple #[.int .i64 4, .bool true]) (by simp [results, Tryd.results46, go_sem]) rfl ⟨rfl, HB.out⟩
    · have LP : Hid ((letS 8).contains 112 = false) := (let_p 8)
      have LZ : Hid ((112 : Int) = ((112 : UInt8).toNat : Int)) := rfl
      go_enter Tryd.func46, Tryd.ntmps46
      go_wp2_with (first
        | (go_at_call 48; (with_reducible refine (has_k 8 8 rfl _).mono ?_); rintro e w1 ⟨rfl, hb⟩
           have HB := Lib.hid hb
           clear hb)
        | (go_at_call 47; (with_reducible refine (in_k 8 112 false LP.out 112 LZ.out _).mono ?_); rintro e w2 ⟨rfl, rfl⟩))
      refine bodyPost_ret (v := .tuple #[.int .i64 4, .bool true]) (by simp [results, Tryd.results46, go_sem]) rfl ⟨rfl, HB.out⟩
    · have LP : Hid ((letS 8).contains 112 = false) := (let_p 8)
      have LZ : Hid ((112 : Int) = ((112 : UInt8).toNat : Int)) := rfl
      go_enter Tryd.func46, Tryd.ntmps46
      go_wp2_with (first
        | (go_at_call 48; (with_reducible refine (has_k 8 8 rfl _).mono ?_); rintro e w1 ⟨rfl, hb⟩
           have HB := Lib.hid hb
           clear hb)
        | (go_at_call 47; (with_reducible refine (in_k 8 112 false LP.out 112 LZ.out _).mono ?_); rintro e w2 ⟨rfl, rfl⟩))
      refine bodyPost_ret (v := .tuple #[.int .i64 4, .bool true]) (by simp [results, Tryd.results46, go_sem]) rfl ⟨rfl, HB.out⟩
    · have LP : Hid ((letS 8).contains 112 = false) := (let_p 8)
      have LZ : Hid ((112 : Int) = ((112 : UInt8).toNat : Int)) := rfl
      go_enter Tryd.func46, Tryd.ntmps46
      go_wp2_with (first
        | (go_at_call 48; (with_reducible refine (has_k 8 8 rfl _).mono ?_); rintro e w1 ⟨rfl, hb⟩
           have HB := Lib.hid hb
           clear hb)
        | (go_at_call 47; (with_reducible refine (in_k 8 112 false LP.out 112 LZ.out _).mono ?_); rintro e w2 ⟨rfl, rfl⟩))
      refine bodyPost_ret (v := .tuple #[.int .i64 4, .bool true]) (by simp [results, Tryd.results46, go_sem]) rfl ⟨rfl, HB.out⟩
  · cases t3 <;> cases t5
    · have LP : Hid ((letS 9).contains 112 = false) := (let_p 9)
      have LZ : Hid ((112 : Int) = ((112 : UInt8).toNat : Int)) := rfl
      go_enter Tryd.func46, Tryd.ntmps46
      go_wp2_with (first
        | (go_at_call 48; (with_reducible refine (has_k 9 9 rfl _).mono ?_); rintro e w1 ⟨rfl, hb⟩
           have HB := Lib.hid hb
           clear hb)
        | (go_at_call 47; (with_reducible refine (in_k 9 112 false LP.out 112 LZ.out _).mono ?_); rintro e w2 ⟨rfl, rfl⟩))
      refine bodyPost_ret (v := .tuple #[.int .i64 0, .bool false]) (by simp [results, Tryd.results46, go_sem]) rfl ⟨rfl, HB.out⟩
    · have LP : Hid ((letS 9).contains 112 = false) := (let_p 9)
      have LZ : Hid ((112 : Int) = ((112 : UInt8).toNat : Int)) := rfl
      go_enter Tryd.func46, Tryd.ntmps46
      go_wp2_with (first
        | (go_at_call 48; (with_reducible refine (has_k 9 9 rfl _).mono ?_); rintro e w1 ⟨rfl, hb⟩
           have HB := Lib.hid hb
           clear hb)
        | (go_at_call 47; (with_reducible refine (in_k 9 112 false LP.out 112 LZ.out _).mono ?_); rintro e w2 ⟨rfl, rfl⟩))
      refine bodyPost_ret (v := .tuple #[.int .i64 0, .bool false]) (by simp [results, Tryd.results46, go_sem]) rfl ⟨rfl, HB.out⟩
    · have LP : Hid ((letS 9).contains 112 = false) := (let_p 9)
      have LZ : Hid ((112 : Int) = ((112 : UInt8).toNat : Int)) := rfl
      go_enter Tryd.func46, Tryd.ntmps46
      go_wp2_with (first
        | (go_at_call 48; (with_reducible refine (has_k 9 9 rfl _).mono ?_); rintro e w1 ⟨rfl, hb⟩
           have HB := Lib.hid hb
           clear hb)
        | (go_at_call 47; (with_reducible refine (in_k 9 112 false LP.out 112 LZ.out _).mono ?_); rintro e w2 ⟨rfl, rfl⟩))
      refine bodyPost_ret (v := .tuple #[.int .i64 0, .bool false]) (by simp [results, Tryd.results46, go_sem]) rfl ⟨rfl, HB.out⟩
    · have LP : Hid ((letS 9).contains 112 = false) := (let_p 9)
      have LZ : Hid ((112 : Int) = ((112 : UInt8).toNat : Int)) := rfl
      go_enter Tryd.func46, Tryd.ntmps46
      go_wp2_with (first
        | (go_at_call 48; (with_reducible refine (has_k 9 9 rfl _).mono ?_); rintro e w1 ⟨rfl, hb⟩
           have HB := Lib.hid hb
           clear hb)
        | (go_at_call 47; (with_reducible refine (in_k 9 112 false LP.out 112 LZ.out _).mono ?_); rintro e w2 ⟨rfl, rfl⟩))
      refine bodyPost_ret (v := .tuple #[.int .i64 0, .bool false]) (by simp [results, Tryd.results46, go_sem]) rfl ⟨rfl, HB.out⟩
  · have e0 : ((k : Int) == 0) = false := by simp; omega
    have e1 : ((k : Int) == 1) = false := by simp; omega
    have e2 : ((k : Int) == 2) = false := by simp; omega
    have e3 : ((k : Int) == 3) = false := by simp; omega
    have e4 : ((k : Int) == 4) = false := by simp; omega
    have e5 : ((k : Int) == 5) = false := by simp; omega
    have e6 : ((k : Int) == 6) = false := by simp; omega
    have e7 : ((k : Int) == 7) = false := by simp; omega
    have e8 : ((k : Int) == 8) = false := by simp; omega
    have e9 : ((k : Int) == 9) = false := by simp; omega
    have b0 : base k = 0 := by
      unfold base
      repeat rw [if_neg (by omega)]
    have hj : just k = false := by simp [just]; omega
    obtain ⟨_, hP0, _, hR0, _⟩ := hi_letters k hk10
    rw [b0, hj, hP0, hR0]
    have HP0 := Lib.hid hP0
    clear b0 hj hP0 hR0 e0
    cases t3 <;> cases t5
    · have LP : Hid ((letS k).contains 112 = false) := ((let_p k).trans HP0.out)
      have LZ : Hid ((112 : Int) = ((112 : UInt8).toNat : Int)) := rfl
      go_enter Tryd.func46, Tryd.ntmps46
      go_wp2_with (first
        | (go_at_call 48; (with_reducible refine (has_k k _ rfl _).mono ?_); rintro e w1 ⟨rfl, hb⟩
           have HB := Lib.hid hb
           clear hb)
        | (go_at_call 47; (with_reducible refine (in_k k 112 false LP.out 112 LZ.out _).mono ?_); rintro e w2 ⟨rfl, rfl⟩))
      refine bodyPost_ret (v := .tuple #[.int .i64 0, .bool false]) (by simp [results, Tryd.results46, go_sem]) rfl ⟨rfl, HB.out⟩
    · have LP : Hid ((letS k).contains 112 = false) := ((let_p k).trans HP0.out)
      have LZ : Hid ((112 : Int) = ((112 : UInt8).toNat : Int)) := rfl
      go_enter Tryd.func46, Tryd.ntmps46
      go_wp2_with (first
        | (go_at_call 48; (with_reducible refine (has_k k _ rfl _).mono ?_); rintro e w1 ⟨rfl, hb⟩
           have HB := Lib.hid hb
           clear hb)
        | (go_at_call 47; (with_reducible refine (in_k k 112 false LP.out 112 LZ.out _).mono ?_); rintro e w2 ⟨rfl, rfl⟩))
      refine bodyPost_ret (v := .tuple #[.int .i64 0, .bool false]) (by simp [results, Tryd.results46, go_sem]) rfl ⟨rfl, HB.out⟩
    · have LP : Hid ((letS k).contains 112 = false) := ((let_p k).trans HP0.out)
      have LZ : Hid ((112 : Int) = ((112 : UInt8).toNat : Int)) := rfl
      go_enter Tryd.func46, Tryd.ntmps46
      go_wp2_with (first
        | (go_at_call 48; (with_reducible refine (has_k k _ rfl _).mono ?_); rintro e w1 ⟨rfl, hb⟩
           have HB := Lib.hid hb
           clear hb)
        | (go_at_call 47; (with_reducible refine (in_k k 112 false LP.out 112 LZ.out _).mono ?_); rintro e w2 ⟨rfl, rfl⟩))
      refine bodyPost_ret (v := .tuple #[.int .i64 0, .bool false]) (by simp [results, Tryd.results46, go_sem]) rfl ⟨rfl, HB.out⟩
    · have LP : Hid ((letS k).contains 112 = false) := ((let_p k).trans HP0.out)
      have LZ : Hid ((112 : Int) = ((112 : UInt8).toNat : Int)) := rfl
      go_enter Tryd.func46, Tryd.ntmps46
      go_wp2_with (first
        | (go_at_call 48; (with_reducible refine (has_k k _ rfl _).mono ?_); rintro e w1 ⟨rfl, hb⟩
           have HB := Lib.hid hb
           clear hb)
        | (go_at_call 47; (with_reducible refine (in_k k 112 false LP.out 112 LZ.out _).mono ?_); rintro e w2 ⟨rfl, rfl⟩))
      refine bodyPost_ret (v := .tuple #[.int .i64 0, .bool false]) (by simp [results, Tryd.results46, go_sem]) rfl ⟨rfl, HB.out⟩
end Go.Proofs.YtokbdkbljgdcpaaDoor

/- The letters of a kind, in the document's spelling. -/
namespace Go.Proofs.YtokbdkbljgdcpaaDoor
open Go.RowKit Go.Own Go.Frm
set_option linter.unusedVariables false
theorem letS_hi (k : Nat) (hk : 10 ≤ k) : letS k = [102, 98] := by
  unfold letS
  repeat rw [if_neg (by omega)]
theorem let_e (k : Nat) : (letS k).contains 101 = hE k := by
  rcases kinds k with rfl | rfl | rfl | rfl | rfl | rfl | rfl | rfl | rfl | rfl | hk
  rotate_right 1
  · rw [letS_hi k hk]
    have e : hE k = false := by simp [hE]; try omega
    rw [e]; rfl
  all_goals rfl
theorem let_h (k : Nat) : (letS k).contains 104 = hH k := by
  rcases kinds k with rfl | rfl | rfl | rfl | rfl | rfl | rfl | rfl | rfl | rfl | hk
  rotate_right 1
  · rw [letS_hi k hk]
    have e : hH k = false := by simp [hH]; try omega
    rw [e]; rfl
  all_goals rfl
theorem let_a (k : Nat) : (letS k).contains 97 = hA k := by
  rcases kinds k with rfl | rfl | rfl | rfl | rfl | rfl | rfl | rfl | rfl | rfl | hk
  rotate_right 1
  · rw [letS_hi k hk]
    have e : hA k = false := by simp [hA]; try omega
    rw [e]; rfl
  all_goals rfl
theorem let_r (k : Nat) : (letS k).contains 114 = hR k := by
  rcases kinds k with rfl | rfl | rfl | rfl | rfl | rfl | rfl | rfl | rfl | rfl | hk
  rotate_right 1
  · rw [letS_hi k hk]
    have e : hR k = false := by simp [hR]; try omega
    rw [e]; rfl
  all_goals rfl
theorem let_b (k : Nat) : (letS k).contains 98 = hB k := by
  rcases kinds k with rfl | rfl | rfl | rfl | rfl | rfl | rfl | rfl | rfl | rfl | hk
  rotate_right 1
  · rw [letS_hi k hk]
    have e : hB k = true := by simp [hB]; try omega
    rw [e]; rfl
  all_goals rfl
theorem let_f (k : Nat) : (letS k).contains 102 = hF k := by
  rcases kinds k with rfl | rfl | rfl | rfl | rfl | rfl | rfl | rfl | rfl | rfl | hk
  rotate_right 1
  · rw [letS_hi k hk]
    have e : hF k = true := by simp [hF]; try omega
    rw [e]; rfl
  all_goals rfl
theorem let_c (k : Nat) : (letS k).contains 99 = hC k := by
  rcases kinds k with rfl | rfl | rfl | rfl | rfl | rfl | rfl | rfl | rfl | rfl | hk
  rotate_right 1
  · rw [letS_hi k hk]
    have e : hC k = false := by simp [hC]; try omega
    rw [e]; rfl
  all_goals rfl
theorem let_l (k : Nat) : (letS k).contains 108 = hL k := by
  rcases kinds k with rfl | rfl | rfl | rfl | rfl | rfl | rfl | rfl | rfl | rfl | hk
  rotate_right 1
  · rw [letS_hi k hk]
    have e : hL k = false := by simp [hL]; try omega
    rw [e]; rfl
  all_goals rfl
theorem let_t (k : Nat) : (letS k).contains 116 = hT k := by
  rcases kinds k with rfl | rfl | rfl | rfl | rfl | rfl | rfl | rfl | rfl | rfl | hk
  rotate_right 1
  · rw [letS_hi k hk]
    have e : hT k = false := by simp [hT]; try omega
    rw [e]; rfl
  all_goals rfl
theorem let_i (k : Nat) : (letS k).contains 105 = hI k := by
  rcases kinds k with rfl | rfl | rfl | rfl | rfl | rfl | rfl | rfl | rfl | rfl | hk
  rotate_right 1
  · rw [letS_hi k hk]
    have e : hI k = false := by simp [hI]; try omega
    rw [e]; rfl
  all_goals rfl
theorem let_w (k : Nat) : (letS k).contains 119 = hW k := by
  rcases kinds k with rfl | rfl | rfl | rfl | rfl | rfl | rfl | rfl | rfl | rfl | hk
  rotate_right 1
  · rw [letS_hi k hk]
    have e : hW k = false := by simp [hW]; try omega
    rw [e]; rfl
  all_goals rfl
end Go.Proofs.YtokbdkbljgdcpaaDoor

/- The document's May: pure facts, and each letter's call. -/
namespace Go.Frm
set_option linter.unusedVariables false
variable {f : Fm} {k : Nat}
theorem may_no (h : ¬ Parts f) : mayB f = false := by
  cases hm : mayB f with
  | false => rfl
  | true => exact absurd ((may_iff f).1 hm) h
theorem no5 (hk : f.k = k) (h : ((((f.fin && !hE k) || (f.eh && !hH k)) || (f.ack && !hA k)) || (f.prio && !hR k)) = true) : mayB f = false := by
  refine may_no fun P => ?_
  subst hk
  simp only [Bool.or_eq_true, Bool.and_eq_true, Bool.not_eq_true'] at h
  rcases h with ((⟨h, g⟩ | ⟨h, g⟩) | ⟨h, g⟩) | ⟨h, g⟩
  · rw [P.e h] at g; cases g
  · rw [P.h h] at g; cases g
  · rw [P.a h] at g; cases g
  · rw [P.r h] at g; cases g
/-- a test: on which side it lies -/
def Tst (x : Bool) (p : Prop) : Prop := (x = true ∧ p) ∨ (x = false ∧ ¬ p)
theorem Tst.mk (p : Prop) [Decidable p] : ∃ x, Tst x p := by
  by_cases h : p
  · exact ⟨true, .inl ⟨rfl, h⟩⟩
  · exact ⟨false, .inr ⟨rfl, h⟩⟩
theorem Tst.yes {x : Bool} {p : Prop} (h : Tst x p) (hx : x = true) : p := by
  rcases h with ⟨_, h⟩ | ⟨h, _⟩
  · exact h
  · rw [hx] at h; cases h
theorem Tst.not {x : Bool} {p : Prop} (h : Tst x p) (hx : x = false) : ¬ p := by
  rcases h with ⟨h, _⟩ | ⟨_, h⟩
  · rw [hx] at h; cases h
  · exact h
theorem no7 (hk : f.k = k) {a b c d e : Bool} (ha : Tst a (0 < f.pay.length)) (hb : Tst b (f.flags ≠ 0)) (hc : Tst c (f.pad ≠ 0)) (hd : Tst d (f.code ≠ 0)) (he : Tst e (0 < f.list.length))
    (h : (((((a && !hB k) || (b && !hF k)) || (c && !hP k)) || (d && !hC k)) || (e && !hL k)) = true) : mayB f = false := by
  refine may_no fun P => ?_
  subst hk
  simp only [Bool.or_eq_true, Bool.and_eq_true, Bool.not_eq_true'] at h
  rcases h with (((⟨h, g⟩ | ⟨h, g⟩) | ⟨h, g⟩) | ⟨h, g⟩) | ⟨h, g⟩
  · rcases P.b with q | q
    · have := ha.yes h; rw [q] at this; simp at this
    · rw [q] at g; cases g
  · rcases P.f' with q | q
    · exact hb.yes h q
    · rw [q] at g; cases g
  · rcases P.p with q | q
    · exact hc.yes h q
    · rw [q] at g; cases g
  · rcases P.c with q | q
    · exact hd.yes h q
    · rw [q] at g; cases g
  · rcases P.l with q | q
    · have := he.yes h; rw [q] at this; simp at this
    · rw [q] at g; cases g
theorem no9 (hk : f.k = k) {a b c d : Bool} (ha : Tst a (f.last ≠ 0)) (hb : Tst b (f.inc ≠ 0)) (hc : Tst c (f.depend ≠ 0)) (hd : Tst d (f.weight ≠ 0))
    (h : (((a && !hT k) || (b && !hI k)) || (!(hW k || hR k && f.prio) && ((c || f.excl) || d))) = true) : mayB f = false := by
  refine may_no fun P => ?_
  subst hk
  simp only [Bool.or_eq_true, Bool.and_eq_true, Bool.not_eq_true'] at h
  rcases h with (⟨h, g⟩ | ⟨h, g⟩) | ⟨h, g⟩
  · rcases P.t with q | q
    · exact ha.yes h q
    · rw [q] at g; cases g
  · rcases P.i with q | q
    · exact hb.yes h q
    · rw [q] at g; cases g
  · rcases P.w with q | ⟨q1, q2, q3⟩
    · unfold Fm.weighed at q; rw [q] at h; cases h
    · rcases g with (g | g) | g
      · exact hc.yes g q1
      · rw [q2] at g; cases g
      · exact hd.yes g q3
theorem no11 (hk : f.k = k) {a b c d : Bool} (ha : Tst a (f.pad < 0 ∨ 256 < f.pad)) (hb : Tst b (f.flags < 0 ∨ 255 < f.flags)) (hc : Tst c (f.last < 0 ∨ 2147483647 < f.last)) (hd : Tst d (k = 5 ∧ f.last = 0))
    (h : (((a || b) || c) || d) = true) : mayB f = false := by
  refine may_no fun P => ?_
  subst hk
  simp only [Bool.or_eq_true] at h
  have h1 := P.p0
  have h2 := P.p1
  have h3 := P.f0
  have h4 := P.f1
  have h5 := P.l0
  have h6 := P.l1
  rcases h with ((h | h) | h) | h
  · have := ha.yes h; omega
  · have := hb.yes h; omega
  · have := hc.yes h; omega
  · have := hd.yes h
    rcases P.l5 with q | q
    · exact q this.1
    · exact q this.2
theorem no13 (hk : f.k = k) {a : Bool} (ha : Tst a (f.depend < 0 ∨ 2147483647 < f.depend ∨ f.weight < 1 ∨ 256 < f.weight)) (h : ((hW k || hR k && f.prio) && a) = true) : mayB f = false := by
  refine may_no fun P => ?_
  subst hk
  rw [Bool.and_eq_true] at h
  rcases P.wb with q | q
  · unfold Fm.weighed at q; rw [q] at h; cases h.1
  · have := ha.yes h.2; omega
theorem no17 {j : Nat} {s : Int × Nat} (hs : f.list[j]? = some s) (h : s.1 < 0 ∨ 65535 < s.1) : mayB f = false := by
  refine may_no fun P => ?_
  have := P.ids s (List.mem_of_getElem? hs)
  omega
theorem no20 (hk : f.k = k) {a b : Bool} (ha : Tst a (0 < f.list.length)) (hb : Tst b (k = 6 ∧ f.pay.length ≠ 8)) (h : ((f.ack && a) || b) = true) : mayB f = false := by
  refine may_no fun P => ?_
  subst hk
  simp only [Bool.or_eq_true, Bool.and_eq_true] at h
  rcases h with ⟨h, g⟩ | h
  · rcases P.al with q | q
    · rw [q] at h; cases h
    · have := ha.yes g; rw [q] at this; simp at this
  · have := hb.yes h
    rcases P.k6 with q | q
    · exact q this.1
    · exact this.2 q
theorem no22 (hk : f.k = k) (h8 : k = 8) (h : f.inc < 1 ∨ 2147483647 < f.inc) : mayB f = false := by
  refine may_no fun P => ?_
  subst hk
  rcases P.k8 with q | q
  · exact q h8
  · omega
theorem or_no {x v : Bool} (h : (x && !v) = false) (hx : x = true) : v = true := by
  rw [hx] at h; cases v
  · cases h
  · rfl
theorem tst_no {x v : Bool} {p : Prop} [Decidable p] (hx : Tst x p) (h : (x && !v) = false) : ¬ p ∨ v = true := by
  by_cases g : p
  · right
    rcases hx with ⟨rfl, _⟩ | ⟨_, h1⟩
    · exact or_no h rfl
    · exact absurd g h1
  · exact .inl g
theorem yes (hk : f.k = k) (k0 : 0 ≤ f.kind) (k1 : f.kind ≤ 255) (s0 : 0 ≤ f.stream) (s1 : f.stream ≤ 2147483647) (hst : stray k f.stream = false)
    (h5 : ((((f.fin && !hE k) || (f.eh && !hH k)) || (f.ack && !hA k)) || (f.prio && !hR k)) = false)
    {a b c d e : Bool} (ha : Tst a (0 < f.pay.length)) (hb : Tst b (f.flags ≠ 0)) (hc : Tst c (f.pad ≠ 0)) (hd : Tst d (f.code ≠ 0)) (he : Tst e (0 < f.list.length))
    (h7 : (((((a && !hB k) || (b && !hF k)) || (c && !hP k)) || (d && !hC k)) || (e && !hL k)) = false)
    {a9 b9 c9 d9 : Bool} (ha9 : Tst a9 (f.last ≠ 0)) (hb9 : Tst b9 (f.inc ≠ 0)) (hc9 : Tst c9 (f.depend ≠ 0)) (hd9 : Tst d9 (f.weight ≠ 0))
    (h9 : (((a9 && !hT k) || (b9 && !hI k)) || (!(hW k || hR k && f.prio) && ((c9 || f.excl) || d9))) = false)
    {a1 b1 c1 d1 : Bool} (ha1 : Tst a1 (f.pad < 0 ∨ 256 < f.pad)) (hb1 : Tst b1 (f.flags < 0 ∨ 255 < f.flags)) (hc1 : Tst c1 (f.last < 0 ∨ 2147483647 < f.last)) (hd1 : Tst d1 (k = 5 ∧ f.last = 0))
    (h11 : (((a1 || b1) || c1) || d1) = false)
    {a3 : Bool} (ha3 : Tst a3 (f.depend < 0 ∨ 2147483647 < f.depend ∨ f.weight < 1 ∨ 256 < f.weight)) (h13 : ((hW k || hR k && f.prio) && a3) = false)
    (hids : ∀ (j : Nat) (s : Int × Nat), f.list[j]? = some s → 0 ≤ s.1 ∧ s.1 ≤ 65535)
    {b2 : Bool} (hb2 : Tst b2 (k = 6 ∧ f.pay.length ≠ 8)) (h20 : ((f.ack && e) || b2) = false) (h22 : k ≠ 8 ∨ (1 ≤ f.inc ∧ f.inc ≤ 2147483647)) : mayB f = true := by
  subst hk
  simp only [Bool.or_eq_false_iff] at h5 h7 h11 h20
  obtain ⟨⟨⟨e1, e2⟩, e3⟩, e4⟩ := h5
  obtain ⟨⟨⟨⟨f1, f2⟩, f3⟩, f4⟩, f5⟩ := h7
  rw [Bool.or_eq_false_iff, Bool.or_eq_false_iff] at h9
  obtain ⟨⟨g1, g2⟩, g3⟩ := h9
  obtain ⟨⟨⟨i1, i2⟩, i3⟩, i4⟩ := h11
  obtain ⟨j1, j2⟩ := h20
  have q1 := ha1.not i1
  have q2 := hb1.not i2
  have q3 := hc1.not i3
  have q4 := hd1.not i4
  have q5 := hb2.not j2
  have el : ∀ {α : Type} {l : List α}, ¬ 0 < l.length → l = [] := fun h => List.eq_nil_of_length_eq_zero (by omega)
  refine (may_iff f).2 ⟨k0, k1, s0, s1, hst, or_no e1, or_no e2, or_no e3, or_no e4, (tst_no ha f1).imp el id, (tst_no hb f2).imp (fun h => by simpa using h) id, (tst_no hc f3).imp (fun h => by simpa using h) id,
    (tst_no hd f4).imp (fun h => by simpa using h) id, (tst_no he f5).imp el id, (tst_no ha9 g1).imp (fun h => by simpa using h) id, (tst_no hb9 g2).imp (fun h => by simpa using h) id, ?_, by omega, by omega, by omega, by omega, by omega, by omega, ?_, ?_,
    fun s hs => by obtain ⟨j, hj, rfl⟩ := List.getElem_of_mem hs; exact hids j _ (List.getElem?_eq_getElem hj), ?_, ?_, h22⟩
  · show f.weighed = true ∨ _
    cases hw : f.weighed with
    | true => exact .inl rfl
    | false =>
      right
      unfold Fm.weighed at hw
      rw [hw] at g3
      simp only [Bool.not_false, Bool.true_and, Bool.or_eq_false_iff] at g3
      obtain ⟨⟨r1, r2⟩, r3⟩ := g3
      exact ⟨by have := hc9.not r1; simpa using this, r2, by have := hd9.not r3; simpa using this⟩
  · by_cases h : f.k = 5
    · exact .inr (fun h2 => q4 ⟨h, h2⟩)
    · exact .inl h
  · cases hw : f.weighed with
    | false => exact .inl rfl
    | true =>
      right
      unfold Fm.weighed at hw
      rw [hw, Bool.true_and] at h13
      have := ha3.not h13
      omega
  · cases hk : f.ack with
    | false => exact .inl rfl
    | true =>
      right
      rw [hk, Bool.true_and] at j1
      exact el (he.not j1)
  · by_cases h : f.k = 6
    · right
      by_cases h2 : f.pay.length = 8
      · exact h2
      · exact absurd ⟨h, h2⟩ q5
    · exact .inl h
end Go.Frm
namespace Go.Proofs.YtokbdkbljgdcpaaDoor
open Go.RowKit Go.Own Go.Frm
set_option linter.unusedVariables false
theorem ltr_e (k : Nat) (b : Bool) (h : hE k = b) (w : World) : Calls Tryd.prog 47 #[.string ⟨(letS k).toArray⟩, .int .u8 101] w fun e w' => e = .returned (.bool b) ∧ w' = w :=
  in_k k 101 b ((let_e k).trans h) 101 rfl w
theorem ltr_h (k : Nat) (b : Bool) (h : hH k = b) (w : World) : Calls Tryd.prog 47 #[.string ⟨(letS k).toArray⟩, .int .u8 104] w fun e w' => e = .returned (.bool b) ∧ w' = w :=
  in_k k 104 b ((let_h k).trans h) 104 rfl w
theorem ltr_a (k : Nat) (b : Bool) (h : hA k = b) (w : World) : Calls Tryd.prog 47 #[.string ⟨(letS k).toArray⟩, .int .u8 97] w fun e w' => e = .returned (.bool b) ∧ w' = w :=
  in_k k 97 b ((let_a k).trans h) 97 rfl w
theorem ltr_r (k : Nat) (b : Bool) (h : hR k = b) (w : World) : Calls Tryd.prog 47 #[.string ⟨(letS k).toArray⟩, .int .u8 114] w fun e w' => e = .returned (.bool b) ∧ w' = w :=
  in_k k 114 b ((let_r k).trans h) 114 rfl w
theorem ltr_b (k : Nat) (b : Bool) (h : hB k = b) (w : World) : Calls Tryd.prog 47 #[.string ⟨(letS k).toArray⟩, .int .u8 98] w fun e w' => e = .returned (.bool b) ∧ w' = w :=
  in_k k 98 b ((let_b k).trans h) 98 rfl w
theorem ltr_f (k : Nat) (b : Bool) (h : hF k = b) (w : World) : Calls Tryd.prog 47 #[.string ⟨(letS k).toArray⟩, .int .u8 102] w fun e w' => e = .returned (.bool b) ∧ w' = w :=
  in_k k 102 b ((let_f k).trans h) 102 rfl w
theorem ltr_p (k : Nat) (b : Bool) (h : hP k = b) (w : World) : Calls Tryd.prog 47 #[.string ⟨(letS k).toArray⟩, .int .u8 112] w fun e w' => e = .returned (.bool b) ∧ w' = w :=
  in_k k 112 b ((let_p k).trans h) 112 rfl w
theorem ltr_c (k : Nat) (b : Bool) (h : hC k = b) (w : World) : Calls Tryd.prog 47 #[.string ⟨(letS k).toArray⟩, .int .u8 99] w fun e w' => e = .returned (.bool b) ∧ w' = w :=
  in_k k 99 b ((let_c k).trans h) 99 rfl w
theorem ltr_l (k : Nat) (b : Bool) (h : hL k = b) (w : World) : Calls Tryd.prog 47 #[.string ⟨(letS k).toArray⟩, .int .u8 108] w fun e w' => e = .returned (.bool b) ∧ w' = w :=
  in_k k 108 b ((let_l k).trans h) 108 rfl w
theorem ltr_t (k : Nat) (b : Bool) (h : hT k = b) (w : World) : Calls Tryd.prog 47 #[.string ⟨(letS k).toArray⟩, .int .u8 116] w fun e w' => e = .returned (.bool b) ∧ w' = w :=
  in_k k 116 b ((let_t k).trans h) 116 rfl w
theorem ltr_i (k : Nat) (b : Bool) (h : hI k = b) (w : World) : Calls Tryd.prog 47 #[.string ⟨(letS k).toArray⟩, .int .u8 105] w fun e w' => e = .returned (.bool b) ∧ w' = w :=
  in_k k 105 b ((let_i k).trans h) 105 rfl w
theorem ltr_w (k : Nat) (b : Bool) (h : hW k = b) (w : World) : Calls Tryd.prog 47 #[.string ⟨(letS k).toArray⟩, .int .u8 119] w fun e w' => e = .returned (.bool b) ∧ w' = w :=
  in_k k 119 b ((let_w k).trans h) 119 rfl w
theorem stray_n (k : Nat) (s : Int) (b : Bool) (h : stray k s = b) (w : World) : Calls Tryd.prog 45 #[.int .i64 (k : Int), .int .i64 s] w fun e w' => e = .returned (.bool b) ∧ w' = w := by
  subst h
  exact stray_c k s w
theorem ways2 (c x : Bool) : (c = false ∧ x = false) ∨ (c = false ∧ x = true) ∨ c = true := by cases c <;> cases x <;> simp
theorem waysT {x : Bool} {p : Prop} (h : Tst x p) (c : Bool) : (c = false ∧ x = false ∧ ¬ p) ∨ (c = false ∧ x = true ∧ p) ∨ c = true := by
  cases c
  · rcases h with h | h
    · exact .inr (.inl ⟨rfl, h⟩)
    · exact .inl ⟨rfl, h⟩
  · exact .inr (.inr rfl)
theorem ways9 {x y : Bool} {p q : Prop} (h : Tst x p) (g : Tst y q) (c v e : Bool) : c = true ∨ (c = false ∧ v = true) ∨ (c = false ∧ v = false ∧ x = true ∧ p) ∨ (c = false ∧ v = false ∧ x = false ∧ ¬ p ∧ e = true) ∨
    (c = false ∧ v = false ∧ x = false ∧ ¬ p ∧ e = false ∧ y = true ∧ q) ∨ (c = false ∧ v = false ∧ x = false ∧ ¬ p ∧ e = false ∧ y = false ∧ ¬ q) := by
  rcases h with ⟨rfl, h⟩ | ⟨rfl, h⟩ <;> rcases g with ⟨rfl, g⟩ | ⟨rfl, g⟩ <;> cases c <;> cases v <;> cases e <;> simp [h, g]
theorem waysR {x : Bool} {z lo hi : Int} (h : Tst x (z < lo ∨ hi < z)) (c : Bool) : c = true ∨ (c = false ∧ x = true ∧ z < lo) ∨ (c = false ∧ x = true ∧ ¬ z < lo ∧ hi < z) ∨ (c = false ∧ x = false ∧ ¬ z < lo ∧ ¬ hi < z) := by
  cases c
  · rcases h with ⟨rfl, h⟩ | ⟨rfl, h⟩
    · by_cases g : z < lo
      · exact .inr (.inl ⟨rfl, rfl, g⟩)
      · exact .inr (.inr (.inl ⟨rfl, rfl, g, h.resolve_left g⟩))
    · exact .inr (.inr (.inr ⟨rfl, rfl, fun g => h (.inl g), fun g => h (.inr g)⟩))
  · exact .inl rfl
theorem waysA {x : Bool} {p q : Prop} (h : Tst x (p ∧ q)) (c : Bool) : c = true ∨ (c = false ∧ x = false ∧ ¬ p) ∨ (c = false ∧ x = false ∧ p ∧ ¬ q) ∨ (c = false ∧ x = true ∧ p ∧ q) := by
  cases c
  · rcases h with ⟨rfl, h⟩ | ⟨rfl, h⟩
    · exact .inr (.inr (.inr ⟨rfl, rfl, h⟩))
    · by_cases g : p
      · exact .inr (.inr (.inl ⟨rfl, rfl, g, fun q => h ⟨g, q⟩⟩))
      · exact .inr (.inl ⟨rfl, rfl, g⟩)
  · exact .inl rfl
theorem ways13 {x : Bool} {z y : Int} (h : Tst x (z < 0 ∨ 2147483647 < z ∨ y < 1 ∨ 256 < y)) (v : Bool) : v = false ∨ (v = true ∧ x = true ∧ z < 0) ∨ (v = true ∧ x = true ∧ ¬ z < 0 ∧ 2147483647 < z) ∨ (v = true ∧ x = true ∧ ¬ z < 0 ∧ ¬ 2147483647 < z ∧ y < 1) ∨
    (v = true ∧ x = true ∧ ¬ z < 0 ∧ ¬ 2147483647 < z ∧ ¬ y < 1 ∧ 256 < y) ∨ (v = true ∧ x = false ∧ ¬ z < 0 ∧ ¬ 2147483647 < z ∧ ¬ y < 1 ∧ ¬ 256 < y) := by
  cases v
  · exact .inl rfl
  · right
    rcases h with ⟨rfl, h⟩ | ⟨rfl, h⟩
    · by_cases g : z < 0
      · exact .inl ⟨rfl, rfl, g⟩
      · by_cases g2 : 2147483647 < z
        · exact .inr (.inl ⟨rfl, rfl, g, g2⟩)
        · by_cases g3 : y < 1
          · exact .inr (.inr (.inl ⟨rfl, rfl, g, g2, g3⟩))
          · exact .inr (.inr (.inr (.inl ⟨rfl, rfl, g, g2, g3, by omega⟩)))
    · exact .inr (.inr (.inr (.inr ⟨rfl, rfl, by omega, by omega, by omega, by omega⟩)))
theorem wpList_end {P : Program} {ops : Array Oper} {Q : Exit → Act → World → Prop} {a : Act} {w : World} (h : Q .normal a w) : wpList P ops Q [] a w := h
end Go.Proofs.YtokbdkbljgdcpaaDoor

/- The document's small answers of layer 6: get. -/
namespace Go.Proofs.YtokbdkbljgdcpaaDoor
open Go.RowKit Go.Own Go.Frm
set_option linter.unusedVariables false
set_option maxRecDepth 100000
theorem num_step (xs : List UInt8) (k j : Nat) (x : UInt8) (h : xs[k + j]? = some x) : num ((xs.drop k).take (j + 1)) = num ((xs.drop k).take j) * 256 + x.toNat := by
  have hlt := (List.getElem?_eq_some_iff.1 h).1
  have he := (List.getElem?_eq_some_iff.1 h).2
  rw [num_take_succ (xs.drop k) j (by rw [List.length_drop]; omega)]
  congr 2
  rw [List.getElem_drop]
  exact he
set_option maxHeartbeats 1000000 in
theorem get_r (xs : List UInt8) (k n : Nat) (hk : k + n ≤ xs.length) (hx : xs.length ≤ 140737488355328) (hn : n ≤ 7) (w : World) : Calls Tryd.prog 42 #[.string ⟨xs.toArray⟩, .int .i64 (k : Int), .int .i64 (n : Int)] w fun e w' => e = .returned (.int .u64 ((num ((xs.drop k).take n) : Nat) : Int)) ∧ w' = w := by
  go_enter Tryd.func42, Tryd.ntmps42
  go_wp2
  go_loopg [7, 8] n (fun gh v t w' => ∃ j : Nat, gh + j = n ∧ t = .int .i64 (j : Int) ∧ v = .int .u64 ((num ((xs.drop k).take j) : Nat) : Int) ∧ w' = w)
  case atStart => exact ⟨0, by omega, rfl, rfl, rfl⟩
  case round =>
    obtain ⟨j, hj, rfl, rfl, rfl⟩ := hrel
    cases gk with
    | zero =>
      obtain rfl : j = n := by omega
      clear hj
      go_wp2
      go_ret
      exact ⟨rfl, rfl⟩
    | succ g1 =>
      have hjn : j < n := by omega
      have k1 : (j : Int) < (n : Int) := by omega
      have k0 : k + j < xs.length := by omega
      obtain ⟨x, hxx⟩ : ∃ x, xs[k + j]? = some x := ⟨_, List.getElem?_eq_getElem k0⟩
      have hel : ∀ h, (({ data := xs.toArray } : ByteArray)[k + j]'h) = x := fun h => by
        have h2 : xs[k + j]'k0 = x := (List.getElem?_eq_some_iff.1 hxx).2
        rw [← h2]
        simp [ByteArray.getElem_eq_getElem_data]
      have hst := num_step xs k j x hxx
      obtain ⟨V, hV⟩ : ∃ V, num ((xs.drop k).take j) = V := ⟨_, rfl⟩
      obtain ⟨U, hU⟩ : ∃ U, num ((xs.drop k).take (j + 1)) = U := ⟨_, rfl⟩
      rw [hV, hU] at hst
      rw [hV]
      have hVb : V < 256 ^ j := by rw [← hV]; exact num_take_lt _ _
      have hUb : U < 256 ^ (j + 1) := by rw [← hU]; exact num_take_lt _ _
      have h256 : (256 : Nat) ^ (j + 1) ≤ 256 ^ 7 := Nat.pow_le_pow_right (by omega) (by omega)
      have hU2 : U < 72057594037927936 := by omega
      have e1 : IntKind.u64.wrap ((V : Int) * 256) = ((V * 256 : Nat) : Int) := by rw [IntKind.wrap_u64]; omega
      have hx8 := x.toNat_lt
      have e2 : IntKind.u64.wrap (x.toNat : Int) = (x.toNat : Int) := by rw [IntKind.wrap_u64]; omega
      have e3 : IntKind.u64.wrap ((V : Int) * 256 + (x.toNat : Int)) = (U : Int) := by rw [IntKind.wrap_u64]; omega
      have HU := Lib.hid hU
      have HST := Lib.hid hst
      have HJ := Lib.hid hj
      clear hV hU hVb hUb h256 hxx hj hst hx8 hU2
      go_wp2
      go_roundg g1
      case measure => omega
      case rel => exact ⟨j + 1, by have := HJ.out; omega, by go_num, by rw [HU.out], rfl⟩
end Go.Proofs.YtokbdkbljgdcpaaDoor

/- The document's parser: New, SetMax, Feed. -/
namespace Go.Proofs.YtokbdkbljgdcpaaDoor
open Go.RowKit Go.Own Go.Frm
set_option linter.unusedVariables false
set_option maxRecDepth 100000
/-- at block p lies the document's parser of Max m that holds xs -/
def RPo (p m : Nat) (st : Pst) : Ob := fun w F => Blk w p 55 [.string ⟨st.held.toArray⟩, .int .i64 (m : Int), .bool st.done] ∧ st.held.length ≤ 16777224 ∧ 16384 ≤ m ∧ m ≤ 16777215 ∧ F = fun i => i = p
theorem framed_RPo (p m : Nat) (st : Pst) : Framed (RPo p m st) := by
  refine ⟨fun w F h i hi => ?_, fun w w' F S h hf hn => ?_⟩
  · obtain ⟨h1, h2, h3, h4, rfl⟩ := h
    obtain rfl : i = p := hi
    exact h1.lt
  · obtain ⟨h1, h2, h3, h4, rfl⟩ := h
    exact ⟨h1.fr hf (hn p rfl), h2, h3, h4, rfl⟩
theorem rSetMaxV {w : World} {p : Nat} {s : Value} {z0 : Int} {d : Bool} (hb : Blk w p 55 [s, .int .i64 z0, .bool d]) (z : Int) (hz : -9223372036854775808 ≤ z ∧ z ≤ 9223372036854775807) (m : Nat) (hm : clampM z = m) :
    Calls Tryd.prog 20 #[.pointer (some ⟨p, 0, none⟩), .int .i64 z] w fun e w' => e = .returned (.tuple #[]) ∧ Blk w' p 55 [s, .int .i64 (m : Int), .bool d] ∧ Fr (· = p) w w' := by
  have z1 := hb.cell 1
  have zf := hb.frozen 1
  have hl := hb.lt
  simp only [List.getElem?_cons_zero, List.getElem?_cons_succ] at z1
  have hm0 : min (max z 16384) 16777215 = (m : Int) := by unfold clampM at hm; omega
  have HB := Lib.hid hb
  have f1 := fun u => Fr.setCell (S := (· = p)) (Fr.refl (· = p) w) (p := ⟨p, 1, none⟩) (.inl rfl) u
  by_cases h1 : z < 16384
  · have hm1 : (m : Int) = 16384 := by omega
    have h2 : ¬ 16777215 < z := by omega
    clear hb hm hm0
    go_enter Tryd.func20, Tryd.ntmps20
    go_wp2
    go_end0
    refine ⟨rfl, ?_, ?_⟩
    · exact (HB.out.set_ 1 (.int .i64 z)).set_ 1 (.int .i64 16384)
    · exact (f1 _).trans (Fr.setCell (S := (· = p)) (Fr.refl (· = p) _) (p := ⟨p, 1, none⟩) (.inl rfl) _) (fun _ _ h => h)
  · by_cases h2 : 16777215 < z
    · have hm1 : (m : Int) = 16777215 := by omega
      clear hb hm hm0
      go_enter Tryd.func20, Tryd.ntmps20
      go_wp2
      go_end0
      refine ⟨rfl, ?_, ?_⟩
      · exact (HB.out.set_ 1 (.int .i64 z)).set_ 1 (.int .i64 16777215)
      · exact (f1 _).trans (Fr.setCell (S := (· = p)) (Fr.refl (· = p) _) (p := ⟨p, 1, none⟩) (.inl rfl) _) (fun _ _ h => h)
    · have hm1 : (m : Int) = z := by omega
      clear hb hm hm0
      go_enter Tryd.func20, Tryd.ntmps20
      go_wp2
      go_end0
      refine ⟨rfl, ?_, f1 _⟩
      exact HB.out.set_ 1 (.int .i64 z)
theorem rNew_c {w : World} (z : Int) (hz : -9223372036854775808 ≤ z ∧ z ≤ 9223372036854775807) : Calls Tryd.prog 18 #[.int .i64 z] w fun e w' => ∃ p, e = .returned (.pointer (some ⟨p, 0, none⟩)) ∧ St (fun _ => False) w w' [RPo p (clampM z) ⟨[], false⟩] := by
  have HB := Lib.hid (Blk.new w 55 [.string ⟨#[]⟩, .int .i64 0, .bool false])
  have HZ := Lib.hid hz
  clear hz
  go_enter Tryd.func18, Tryd.ntmps18
  go_wp2_with (first
    | (go_at_call 20; (with_reducible refine (rSetMaxV HB.out z HZ.out _ rfl).mono ?_); rintro e w1 ⟨rfl, hb, hf⟩
       have HB1 := Lib.hid hb
       have HF1 := Lib.hid hf
       clear hb hf))
  go_ret
  have hbd := HZ.out
  have hm : 16384 ≤ clampM z ∧ clampM z ≤ 16777215 := by unfold clampM; omega
  refine ⟨_, rfl, St.made (framed_RPo _ _ _) ⟨HB1.out, by show 0 ≤ 16777224; omega, hm.1, hm.2, rfl⟩ (fun i hi => by obtain rfl : i = w.heap.size := hi; exact Nat.le_refl _) ?_⟩
  exact ((Below.refl _ _).alloc (Nat.le_refl _) _).trans (HF1.out.below (by simp) (fun i _ e => by have e : i = w.heap.size := e; omega))
end Go.Proofs.YtokbdkbljgdcpaaDoor

/- The document's parser: Feed. -/
namespace Go.Proofs.YtokbdkbljgdcpaaDoor
open Go.RowKit Go.Own Go.Frm
set_option linter.unusedVariables false
set_option maxRecDepth 100000
theorem str_app (xs ys : List UInt8) (q : Nat) : ({ data := xs.toArray } : ByteArray) ++ ({ data := ys.toArray } : ByteArray).extract 0 q = ⟨(xs ++ ys.take q).toArray⟩ := by
  apply ByteArray.ext
  simp
set_option maxHeartbeats 1000000 in
theorem rFeedV {w : World} {p m : Nat} {xs ys : List UInt8} {d : Bool} (hb : Blk w p 55 [.string ⟨xs.toArray⟩, .int .i64 (m : Int), .bool d]) (hx : xs.length ≤ 16777224) (hm : m ≤ 16777215) (hy : ys.length ≤ 140737488355328) (q : Nat) (hq : feedN m ⟨xs, d⟩ ys.length = q) :
    Calls Tryd.prog 24 #[.pointer (some ⟨p, 0, none⟩), .string ⟨ys.toArray⟩] w fun e w' => e = .returned (.int .i64 (q : Int)) ∧ Blk w' p 55 [.string ⟨(xs ++ ys.take q).toArray⟩, .int .i64 (m : Int), .bool d] ∧ Fr (· = p) w w' := by
  have z0 := hb.cell 0
  have z1 := hb.cell 1
  have z2 := hb.cell 2
  have zf := hb.frozen 0
  have hl := hb.lt
  simp only [List.getElem?_cons_zero, List.getElem?_cons_succ] at z0 z1 z2
  have HB := Lib.hid hb
  have wm : IntKind.i64.wrap ((m : Int) + 9) = (m : Int) + 9 := by rw [IntKind.wrap_i64]; omega
  have wr0 : IntKind.i64.wrap ((m : Int) + 9 - (xs.length : Int)) = (m : Int) + 9 - (xs.length : Int) := by rw [IntKind.wrap_i64]; omega
  cases d with
  | true =>
    have hq0 : q = 0 := by rw [← hq]; rfl
    subst hq0
    clear hb hq
    go_enter Tryd.func24, Tryd.ntmps24
    go_wp2
    go_quiet (fail)
    go_wp2
    go_ret
    exact ⟨rfl, by rw [List.take_zero, List.append_nil]; exact HB.out.drewN _, (Fr.refl _ _).drewN _⟩
  | false =>
    have hq1 : q = min ys.length (m + 9 - xs.length) := by rw [← hq]; rfl
    by_cases hr : m + 9 < xs.length
    · have hr2 : (m : Int) + 9 - (xs.length : Int) < 0 := by omega
      have hq0 : q = 0 := by omega
      subst hq0
      clear hb hq hq1 hr
      go_enter Tryd.func24, Tryd.ntmps24
      go_wp2
      go_quiet (fail)
      go_wp2
      go_ret
      exact ⟨rfl, by rw [List.take_zero, List.append_nil]; exact HB.out.drewN _, (Fr.refl _ _).drewN _⟩
    · obtain ⟨r, hrr⟩ : ∃ r, m + 9 - xs.length = r := ⟨_, rfl⟩
      have e1 : (m : Int) + 9 - (xs.length : Int) = (r : Int) := by omega
      rw [e1] at wr0
      by_cases hrk : ys.length < r
      · have hq0 : q = ys.length := by omega
        subst hq0
        have k1 : (ys.length : Int) < (r : Int) := by omega
        clear hb hq hq1 hr hrr
        go_enter Tryd.func24, Tryd.ntmps24
        go_wp2
        go_quiet (fail)
        go_wp2
        go_region_with (fail)
        go_wp2
        go_ret
        refine ⟨rfl, ?_, Fr.setCell (S := (· = p)) ((Fr.refl (· = p) w).drewN _) (p := ⟨p, 0, none⟩) (.inl rfl) _⟩
        have h := (HB.out.drewN (nq + 1)).set_ 0 (.string (({ data := xs.toArray } : ByteArray) ++ ({ data := ys.toArray } : ByteArray).extract 0 ys.length))
        rw [str_app] at h ⊢
        exact h
      · have hq0 : q = r := by omega
        subst hq0
        have k1 : ¬ (ys.length : Int) < (q : Int) := by omega
        have k2 : q ≤ ys.length := by omega
        clear hb hq hq1 hr hrr
        go_enter Tryd.func24, Tryd.ntmps24
        go_wp2
        go_quiet (fail)
        go_wp2
        go_region_with (fail)
        go_wp2
        go_ret
        refine ⟨rfl, ?_, Fr.setCell (S := (· = p)) ((Fr.refl (· = p) w).drewN _) (p := ⟨p, 0, none⟩) (.inl rfl) _⟩
        have h := (HB.out.drewN (nq + 1)).set_ 0 (.string (({ data := xs.toArray } : ByteArray) ++ ({ data := ys.toArray } : ByteArray).extract 0 q))
        rw [str_app] at h ⊢
        exact h
theorem rFeed_c {w : World} {p m : Nat} {st : Pst} {F : Nat → Prop} (h : RPo p m st w F) (ys : List UInt8) (hy : ys.length ≤ 140737488355328) (q : Nat) (hq : feedN m st ys.length = q) (st' : Pst) (hst : feedP m st ys = st') :
    Calls Tryd.prog 24 #[.pointer (some ⟨p, 0, none⟩), .string ⟨ys.toArray⟩] w fun e w' => e = .returned (.int .i64 (q : Int)) ∧ St F w w' [RPo p m st'] := by
  obtain ⟨h1, h2, h3, h4, rfl⟩ := h
  obtain ⟨xs, d⟩ := st
  refine (rFeedV h1 h2 h4 hy q hq).mono ?_
  rintro e w' ⟨rfl, hb, hf⟩
  have e' : st' = ⟨xs ++ ys.take q, d⟩ := by rw [← hst, ← hq]; rfl
  have hl : (xs ++ ys.take q).length ≤ 16777224 := by
    have hq2 : q ≤ m + 9 - xs.length := by
      rw [← hq]
      unfold feedN
      cases d
      · exact Nat.min_le_right _ _
      · exact Nat.zero_le _
    simp only [List.length_append, List.length_take]
    simp only at h2
    omega
  rw [e']
  exact ⟨rfl, St.changed (framed_RPo _ _ _) ⟨hb, hl, h3, h4, rfl⟩ (fun i hi => .inl hi) hf⟩
end Go.Proofs.YtokbdkbljgdcpaaDoor

/- The document's parser: broken. -/
namespace Go.Proofs.YtokbdkbljgdcpaaDoor
open Go.RowKit Go.Own Go.Frm
set_option linter.unusedVariables false
set_option maxRecDepth 100000
set_option maxHeartbeats 4000000 in
theorem broken_c {w : World} {p : Nat} {s m d : Value} (hb : Blk w p 55 [s, m, d]) (c : Nat) :
    Calls Tryd.prog 44 #[.pointer (some ⟨p, 0, none⟩), .int .u32 (c : Int)] w fun e w' => e = .returned (.tuple #[frV zeroF (.slice none 0 0) (.slice none 0 0), .agg #[.bool true, .int .u32 (c : Int), .int .i64 0], .bool true]) ∧ Blk w' p 55 [.string ⟨#[]⟩, m, .bool true] ∧ Fr (· = p) w w' := by
  have hl := hb.lt
  have B2 : Below w.heap.size w ((w.alloc (.cells #[.int .i64 0, .int .i64 0, .bool false, .bool false, .bool false, .bool false, .slice none 0 0, .int .i64 0, .int .i64 0, .int .i64 0, .bool false, .int .i64 0, .int .u32 0, .slice none 0 0, .int .i64 0, .int .i64 0] 27)).alloc (.cells #[.bool false, .int .u32 0, .int .i64 0] 46)) := ((Below.refl _ w).alloc (Nat.le_refl _) _).alloc (by simp) _
  have K2 : Blk ((w.alloc (.cells #[.int .i64 0, .int .i64 0, .bool false, .bool false, .bool false, .bool false, .slice none 0 0, .int .i64 0, .int .i64 0, .int .i64 0, .bool false, .int .i64 0, .int .u32 0, .slice none 0 0, .int .i64 0, .int .i64 0] 27)).alloc (.cells #[.bool false, .int .u32 0, .int .i64 0] 46)) p 55 [s, m, d] := (hb.alloc _).alloc _
  have X2 : Blk ((w.alloc (.cells #[.int .i64 0, .int .i64 0, .bool false, .bool false, .bool false, .bool false, .slice none 0 0, .int .i64 0, .int .i64 0, .int .i64 0, .bool false, .int .i64 0, .int .u32 0, .slice none 0 0, .int .i64 0, .int .i64 0] 27)).alloc (.cells #[.bool false, .int .u32 0, .int .i64 0] 46)) w.heap.size 27 zero16 := (Blk.new w 27 zero16).alloc _
  have Y2 : Blk ((w.alloc (.cells #[.int .i64 0, .int .i64 0, .bool false, .bool false, .bool false, .bool false, .slice none 0 0, .int .i64 0, .int .i64 0, .int .i64 0, .bool false, .int .i64 0, .int .u32 0, .slice none 0 0, .int .i64 0, .int .i64 0] 27)).alloc (.cells #[.bool false, .int .u32 0, .int .i64 0] 46)) (w.heap.size + 1) 46 [.bool false, .int .u32 0, .int .i64 0] := blk_new2 _ _ _ _
  have HX := Lib.hid X2
  have HY := Lib.hid Y2
  have HK := Lib.hid K2
  have HB2 := Lib.hid B2
  clear X2 Y2 K2 B2 hb
  go_enter Tryd.func44, Tryd.ntmps44
  go_upto_region 1 with (fail)
  generalize ((w.alloc (.cells #[.int .i64 0, .int .i64 0, .bool false, .bool false, .bool false, .bool false, .slice none 0 0, .int .i64 0, .int .i64 0, .int .i64 0, .bool false, .int .i64 0, .int .u32 0, .slice none 0 0, .int .i64 0, .int .i64 0] 27)).alloc (.cells #[.bool false, .int .u32 0, .int .i64 0] 46)) = u at HX HY HK HB2 ⊢
  have z0 := HK.out.cell 0
  have z2 := HK.out.cell 2
  have y0 := HK.out.frozen 0
  have y2 := HK.out.frozen 2
  have hlu := HK.out.lt
  simp only [List.getElem?_cons_zero, List.getElem?_cons_succ] at z0 z2
  go_upto_region 3 with (fail)
  have f1 := Fr.setCell (S := (· = p)) (Fr.refl (· = p) u) (p := ⟨p, 0, none⟩) (.inl rfl) (.string ⟨#[]⟩)
  have f2 := Fr.setCell (S := (· = p)) f1 (p := ⟨p, 2, none⟩) (.inl rfl) (.bool true)
  have K3 : Hid (Blk ((u.setCell ⟨p, 0, none⟩ (.string ⟨#[]⟩)).setCell ⟨p, 2, none⟩ (.bool true)) p 55 [.string ⟨#[]⟩, m, .bool true]) := (HK.out.set_ 0 (.string ⟨#[]⟩)).set_ 2 (.bool true)
  have X3 := Lib.hid (HX.out.fr f2 (fun e => by omega))
  have Y3 := Lib.hid (HY.out.fr f2 (fun e => by omega))
  have F3 := Lib.hid f2
  clear f1 f2 z0 z2 y0 y2 hlu
  generalize ((u.setCell ⟨p, 0, none⟩ (.string ⟨#[]⟩)).setCell ⟨p, 2, none⟩ (.bool true)) = v at K3 X3 Y3 F3 ⊢
  obtain ⟨r0, r1, r2, r3, r4, r5, r6, r7, r8, r9, r10, r11, r12, r13, r14, r15⟩ := cells16 X3.out
  have q0 := Y3.out.cell 0
  have q1 := Y3.out.cell 1
  have q2 := Y3.out.cell 2
  simp only [List.getElem?_cons_zero, List.getElem?_cons_succ] at q0 q1 q2
  have yf := fun i => X3.out.frozen i
  have yg := fun i => Y3.out.frozen i
  have l1 := X3.out.lt
  have l2 := Y3.out.lt
  go_wp2
  obtain ⟨S1, S2⟩ := store16 X3.out (.int .i64 0) (.int .i64 0) (.bool false) (.bool false) (.bool false) (.bool false) (.slice none 0 0) (.int .i64 0) (.int .i64 0) (.int .i64 0) (.bool false) (.int .i64 0) (.int .u32 0) (.slice none 0 0) (.int .i64 0) (.int .i64 0)
  obtain ⟨S3, S4⟩ := store3 (Y3.out.fr S2 (fun e => by omega)) (.bool true) (.int .u32 (c : Int)) (.int .i64 0)
  refine bodyPost_ret (res_ffb (p := 4) (q := 5) (r := 6) rfl rfl rfl rfl rfl (S1.fr S4 (fun e => by omega)) S3) rfl ⟨rfl, (K3.out.fr S2 (fun e => by omega)).fr S4 (fun e => by omega), ?_⟩
  have s2 := S2.mono (S' := fun i => i = w.heap.size ∨ i = w.heap.size + 1) (fun i _ h => .inl h)
  have s4 := S4.mono (S' := fun i => i = w.heap.size ∨ i = w.heap.size + 1) (fun i _ h => .inr h)
  have a1 := (Fr.of_below (S := (· = p)) HB2.out (fun i h1 h2 => by omega)).trans F3.out (fun _ _ h => h)
  exact a1.trans (s2.trans s4 (fun _ _ h => h)) (fun i hi h => by rcases h with h | h <;> omega)
end Go.Proofs.YtokbdkbljgdcpaaDoor

/- The document's read of a payload. -/
namespace Go.Frm
set_option linter.unusedVariables false
set_option linter.unusedSimpArgs false
/-- what must stand in a payload, by its parts -/
structure Need (k fl : Nat) (xs : List UInt8) (S1 S2 S3 S4 : List UInt8) (pd wB : Bool) : Prop where
  n0 : pd = true → 0 < xs.length ∧ (xs.headD 0).toNat + 1 ≤ xs.length
  n1 : wB = true → 5 ≤ S1.length
  n2 : hT k = true → 4 ≤ S2.length
  n3 : hC k = true → 4 ≤ S3.length
  n4 : hI k = true → 4 ≤ S4.length
  n5 : hL k = true → S4.length = 6 * (S4.length / 6)
  le : S1.length ≤ xs.length ∧ S2.length ≤ xs.length ∧ S3.length ≤ xs.length ∧ S4.length ≤ xs.length
theorem need_of (k fl : Nat) (xs : List UInt8) (hsz : badSize k fl xs.length = false) (hpad : padded k fl = true → (xs.headD 0).toNat ≤ xs.length - must k fl) {S1 S2 S3 S4 : List UInt8} (h1 : unpad (padded k fl) xs = S1)
    (h2 : (bif withP k fl || hW k then S1.drop 5 else S1) = S2) (h3 : (bif hT k then S2.drop 4 else S2) = S3) (h4 : (bif hC k then S3.drop 4 else S3) = S4) : Need k fl xs S1 S2 S3 S4 (padded k fl) (withP k fl || hW k) := by
  simp only [badSize, Bool.or_eq_false_iff, decide_eq_false_iff_not] at hsz
  obtain ⟨⟨m1, m2⟩, m3⟩ := hsz
  have hm : must k fl = base k + (bif padded k fl then 1 else 0) + (bif withP k fl then 5 else 0) := rfl
  have hl1 : base k + (bif withP k fl then 5 else 0) ≤ S1.length ∧ S1.length ≤ xs.length := by
    rw [← h1]
    unfold unpad
    cases hp : padded k fl with
    | false => rw [hp] at hm; simp only [cond_false] at hm ⊢; omega
    | true =>
      rw [hp] at hm
      have := hpad hp
      simp only [cond_true, List.length_take, List.length_drop] at hm ⊢
      omega
  have hl2 : S2.length = S1.length - (bif withP k fl || hW k then 5 else 0) := by rw [← h2]; cases (withP k fl || hW k) <;> simp
  have hl3 : S3.length = S2.length - (bif hT k then 4 else 0) := by rw [← h3]; cases hT k <;> simp
  have hl4 : S4.length = S3.length - (bif hC k then 4 else 0) := by rw [← h4]; cases hC k <;> simp
  obtain ⟨hl1, hl1b⟩ := hl1
  have hw0 : withP k fl = true → k = 1 := by intro h; unfold withP at h; rw [Bool.and_eq_true] at h; simpa [hR] using h.1
  refine ⟨fun h => ?_, fun h => ?_, fun h => ?_, fun h => ?_, fun h => ?_, fun h => ?_, ?_⟩
  · have := hpad h
    rw [h] at hm
    simp only [cond_true] at hm
    omega
  · rcases Bool.or_eq_true _ _ |>.mp h with h | h
    · rw [h] at hl1; simp only [cond_true] at hl1; omega
    · have e : k = 2 := by simpa [hW] using h
      subst e
      have : base 2 = 5 := rfl
      omega
  · have e : k = 5 ∨ k = 7 := by simpa [hT] using h
    rcases e with rfl | rfl
    · have : base 5 = 4 := rfl
      have hw : withP 5 fl = false := rfl
      have hw2 : hW 5 = false := rfl
      rw [hw, hw2] at hl2
      simp at hl2
      omega
    · have : base 7 = 8 := rfl
      have hw : withP 7 fl = false := rfl
      have hw2 : hW 7 = false := rfl
      rw [hw, hw2] at hl2
      simp at hl2
      omega
  · have e : k = 3 ∨ k = 7 := by simpa [hC] using h
    rcases e with rfl | rfl
    · have : base 3 = 4 := rfl
      have hw : withP 3 fl = false := rfl
      have hw2 : hW 3 = false := rfl
      have hw3 : hT 3 = false := rfl
      rw [hw, hw2] at hl2
      rw [hw3] at hl3
      simp at hl2 hl3
      omega
    · have : base 7 = 8 := rfl
      have hw : withP 7 fl = false := rfl
      have hw2 : hW 7 = false := rfl
      have hw3 : hT 7 = true := rfl
      rw [hw, hw2] at hl2
      rw [hw3] at hl3
      simp at hl2 hl3
      omega
  · have e : k = 8 := by simpa [hI] using h
    subst e
    have : base 8 = 4 := rfl
    have hw : withP 8 fl = false := rfl
    have hw2 : hW 8 = false := rfl
    have hw3 : hT 8 = false := rfl
    have hw4 : hC 8 = false := rfl
    rw [hw, hw2] at hl2
    rw [hw3] at hl3
    rw [hw4] at hl4
    simp at hl2 hl3 hl4
    omega
  · have e : k = 4 := by simpa [hL] using h
    subst e
    have hw : withP 4 fl = false := rfl
    have hw2 : hW 4 = false := rfl
    have hw3 : hT 4 = false := rfl
    have hw4 : hC 4 = false := rfl
    have hw5 : padded 4 fl = false := rfl
    rw [hw, hw2] at hl2
    rw [hw3] at hl3
    rw [hw4] at hl4
    simp at hl2 hl3 hl4
    have e1 : S1.length = xs.length := by rw [← h1, hw5]; rfl
    simp at m3
    omega
  · exact ⟨hl1b, by omega, by omega, by omega⟩
end Go.Frm
namespace Go.Proofs.YtokbdkbljgdcpaaDoor
open Go.RowKit Go.Own Go.Frm
set_option linter.unusedVariables false
set_option maxRecDepth 100000
theorem get_w (xs : List UInt8) (k n : Nat) (z y : Int) (hz : z = (k : Int)) (hy : y = (n : Int)) (hk : k + n ≤ xs.length) (hx : xs.length ≤ 140737488355328) (hn : n ≤ 7) (v : Nat) (hv : num ((xs.drop k).take n) = v) (w : World) :
    Calls Tryd.prog 42 #[.string ⟨xs.toArray⟩, .int .i64 z, .int .i64 y] w fun e w' => e = .returned (.int .u64 (v : Int)) ∧ w' = w := by
  subst hz hy hv
  exact get_r xs k n hk hx hn w
theorem low_w (n r : Nat) (hr : low n = r) (hn : n < 18446744073709551616) (w : World) : Calls Tryd.prog 43 #[.int .u64 (n : Int)] w fun e w' => e = .returned (.int .i64 (r : Int)) ∧ w' = w := by
  subst hr
  exact low_c n hn w
theorem ba_el (xs : List UInt8) (j : Nat) (x : UInt8) (h : xs[j]? = some x) : ∀ h, (({ data := xs.toArray } : ByteArray)[j]'h) = x := fun h' => by
  have k0 := (List.getElem?_eq_some_iff.1 h).1
  have h2 : xs[j]'k0 = x := (List.getElem?_eq_some_iff.1 h).2
  rw [← h2]
  simp [ByteArray.getElem_eq_getElem_data]
theorem ba_ext (xs : List UInt8) (a b : Nat) : ({ data := xs.toArray } : ByteArray).extract a b = ⟨((xs.drop a).take (b - a)).toArray⟩ := by
  apply ByteArray.ext
  simp [List.take_drop]
theorem i64w {z : Int} (h : -9223372036854775808 ≤ z ∧ z ≤ 9223372036854775807) : IntKind.i64.wrap z = z := by rw [IntKind.wrap_i64]; omega
/-- octets that can be read, as a thing -/
def RdO (A : Option Addr) (n : Nat) (xs : List UInt8) : Ob := fun w F => Rd w 1 A n (xs.map BV) ∧ (∀ a, A = some a → F a.block) ∧ ∀ i, F i → i < w.heap.size
theorem framed_RdO (A : Option Addr) (n : Nat) (xs : List UInt8) : Framed (RdO A n xs) :=
  ⟨fun w F h => h.2.2, fun w w' F S h hf hn => ⟨h.1.fr hf (fun a ha => hn _ (h.2.1 a ha)), h.2.1, fun i hi => Nat.lt_of_lt_of_le (h.2.2 i hi) hf.size⟩⟩
theorem rdO_nil (w : World) : St (fun _ => False) w w [RdO none 0 []] :=
  St.made (framed_RdO _ _ _) (F := fun _ => False) (show RdO none 0 [] w (fun _ => False) from ⟨Rd.nil _ _ _, fun a h => (by cases h), fun i h => h.elim⟩) (fun _ h => h.elim) (Below.refl _ _)
theorem rdO_mk {w W1 : World} {C : Nat} {xs : List UInt8} (h : Mk W1 w.heap.size C xs) (hb : Below w.heap.size w W1) : St (fun _ => False) w W1 [RdO (some ⟨w.heap.size, 0, none⟩) xs.length xs] :=
  St.made (framed_RdO _ _ _) (F := fun i => i = w.heap.size) ⟨h.rd, fun a e => by cases e; rfl, fun i hi => by rw [hi]; obtain ⟨cur, h1, _⟩ := h; exact (Array.getElem?_eq_some_iff.1 h1).1⟩ (fun i hi => by rw [hi]; exact Nat.le_refl _) hb
theorem conv_st {S : Nat → Prop} {w0 w : World} {L : List Ob} (s : St S w0 w L) (xs : List UInt8) (hl : xs.length ≤ 16777215) : ∃ g2 C W1, (convert 9 22 (.string ⟨xs.toArray⟩)).run Tryd.prog w = .ok (.slice (some ⟨g2, 0, none⟩) xs.length C) W1 ∧
    St S w0 W1 (L ++ [RdO (some ⟨g2, 0, none⟩) xs.length xs]) := by
  obtain ⟨C, W1, h1, _, _, h2, h3, _⟩ := run_conv_str xs w (by unfold maxLen; omega)
  exact ⟨w.heap.size, C, W1, h1, s.add (rdO_mk h2 h3)⟩
theorem wpList_conv_big {w : World} {ops : Array Oper} {rest : List Oper} {o : Oper} {a : Act} {Q : Exit → Act → World → Prop} (hgd : o.guard = none) (s : Operand) (ho : o.op = .convert 9 22 s) (xs : List UInt8) (hs : a.eval s = .string ⟨xs.toArray⟩) (hl : xs.length ≤ 16777215)
    (h : ∀ C W1, Mk W1 w.heap.size C xs → Below w.heap.size w W1 → wpList Tryd.prog ops Q rest (a.put o.dst (.slice (some ⟨w.heap.size, 0, none⟩) xs.length C)) W1) : wpList Tryd.prog ops Q (o :: rest) a w :=
  wpList_plain hgd fun _ hK => by
    obtain ⟨C, W1, hrun, h1, h2, h3, h4, h5⟩ := run_conv_str xs w (by unfold maxLen; omega)
    unfold Oper.wp execOp
    simp only [ho, hs, Sem.run_bind, Sem.run_pure, Result.andThen_ok, hrun]
    exact hK _ _ (h C W1 h3 h4)
theorem slo_nil {S : Nat → Prop} {w0 w : World} {A0 A1 : Ob} (s : St S w0 w [A0, A1]) : St S w0 w [A0, A1, SLo w0.heap.size 50 2 (.slice none 0 0) 0 []] :=
  St.floor2 (s.add (St.made_own (World.ownsRow_nil _ _ _ _) (Below.refl _ _))) s.size
theorem st_eq {a b : ByteArray} (h : a = b) : Value.string a = .string b := by rw [h]
end Go.Proofs.YtokbdkbljgdcpaaDoor
