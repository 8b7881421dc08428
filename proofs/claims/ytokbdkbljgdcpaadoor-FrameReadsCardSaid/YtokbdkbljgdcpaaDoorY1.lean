/- Several texts in one: Base, Cut, Frm, FrmM, FrmR, FrmS, FrmT, Fa, Fbit, St. -/
import Derived.WalkKit
import Derived.WalkSpells
import Derived.WalkLawsBesides
import Derived.Below
import Derived.Lib.Hide
import Derived.Laws.CopyOwn
import Derived.Laws.OwnMore
import Derived.Laws.BitsAllLaws
import Derived.Laws.BytesString
import Derived.Laws.BytesArg
import Derived.Maps.AppendAt
import Derived.Deep.AppendLies
import Derived.Deep.Draws
import Derived.RegionTactic
import Derived.OwnWalk
import Derived.ProofKit
import Derived.SizedLaws
import Derived.Orders
import Derived.Test.YtokbdkbljgdcpaaDoorRows
/- Words for memory that all proofs of this seat share: a block that is known whole, a slice that reads as a list, a frame, and laws for the walk (copy, append, a text of bytes). No condition; nothing of the program. -/
namespace Go.Own
open Go.RowKit

theorem ret_bool {a b : Bool} (h : a = b) : Ending.returned (.bool a) = .returned (.bool b) := by rw [h]
theorem ret_int {k : IntKind} {a b : Int} (h : a = b) : Ending.returned (.int k a) = .returned (.int k b) := by rw [h]

/-- the value of a byte -/
def BV (b : UInt8) : Value := .int .u8 (b.toNat : Int)
theorem BV_one (xs : List UInt8) : ∀ v ∈ xs.map BV, v.oneCell' = true := by
  intro v hv
  obtain ⟨y, _, rfl⟩ := List.mem_map.1 hv
  rfl

/-- block g holds just the cells cs, of elements of type t -/
def Blk (w : World) (g : Nat) (t : TypeId) (cs : List Value) : Prop := w.heap[g]? = some (.cells cs.toArray t (0, 0))
/-- what S does not name is as it was -/
structure Fr (S : Nat → Prop) (w w' : World) : Prop where
  os : w'.os = w.os
  tape : w'.tape = w.tape
  output : w'.output = w.output
  size : w.heap.size ≤ w'.heap.size
  block : ∀ k, k < w.heap.size → ¬ S k → w'.heap[k]? = w.heap[k]?
/-- the slice A of n elements, of size cells each, reads as the values vs -/
def Rd (w : World) (size : Nat) (A : Option Addr) (n : Nat) (vs : List Value) : Prop :=
  vs.length = n * size ∧ (0 < n → ∃ b o, A = some ⟨b, o, none⟩ ∧ ∀ j v, vs[j]? = some v → w.cell? ⟨b, o + j, none⟩ = some v)

section
variable {w w' w'' : World} {g size n : Nat} {t : TypeId} {cs : List Value} {S S' : Nat → Prop} {A : Option Addr} {vs : List Value}
theorem Blk.lt (h : Blk w g t cs) : g < w.heap.size := by
  rcases Nat.lt_or_ge g w.heap.size with hlt | hge
  · exact hlt
  · unfold Blk at h; rw [Array.getElem?_eq_none hge] at h; cases h
theorem Blk.cell (h : Blk w g t cs) (i : Nat) : w.cell? ⟨g, i, none⟩ = cs[i]? := by
  rw [cell_of_row w g i cs.toArray t (0, 0) h]; simp
theorem Blk.frozen (h : Blk w g t cs) (i : Nat) : w.frozen? ⟨g, i, none⟩ = false := frozen_of_row w g i cs.toArray t h
theorem Blk.new (w : World) (t : TypeId) (cs : List Value) : Blk (w.alloc (.cells cs.toArray t)) w.heap.size t cs := heap_alloc_new w _
theorem Blk.drew (h : Blk w g t cs) : Blk w.drew g t cs := h
theorem Blk.drewN (h : Blk w g t cs) (n : Nat) : Blk (w.drewN n) g t cs := h
theorem Blk.alloc (h : Blk w g t cs) (o : Obj) : Blk (w.alloc o) g t cs := (Below.heap_alloc w o g h.lt).trans h
theorem Blk.set_ (h : Blk w g t cs) (i : Nat) (u : Value) : Blk (w.setCell ⟨g, i, none⟩ u) g t (cs.set i u) := by
  unfold Blk at h ⊢
  simp [World.setCell, Array.getElem?_modify, h]
theorem Blk.far (h : Blk w g t cs) {p : Addr} (hp : g ≠ p.block) (u : Value) : Blk (w.setCell p u) g t cs := (Below.heap_setCell w p u g hp).trans h
theorem Blk.fr (h : Blk w g t cs) (hf : Fr S w w') (hg : ¬ S g) : Blk w' g t cs := (hf.block g h.lt hg).trans h
theorem Blk.below {B : Nat} (h : Blk w g t cs) (hb : Below B w w') (hg : g < B) : Blk w' g t cs := (hb.block g hg).trans h
theorem Blk.ne_ {g' : Nat} {t' : TypeId} {cs' : List Value} (h : Blk w g t cs) (h' : Blk w g' t' cs') (hne : t ≠ t') : g ≠ g' := by
  rintro rfl
  unfold Blk at h h'
  rw [h] at h'
  injection h' with h'
  injection h' with _ ht
  exact hne ht

theorem Fr.refl (S : Nat → Prop) (w : World) : Fr S w w := ⟨rfl, rfl, rfl, Nat.le_refl _, fun _ _ _ => rfl⟩
theorem Fr.trans (h : Fr S w w') (k : Fr S' w' w'') (hs : ∀ i, i < w.heap.size → S' i → S i) : Fr S w w'' :=
  ⟨k.os.trans h.os, k.tape.trans h.tape, k.output.trans h.output, Nat.le_trans h.size k.size, fun i hi hn =>
    (k.block i (Nat.lt_of_lt_of_le hi h.size) (fun hs' => hn (hs i hi hs'))).trans (h.block i hi hn)⟩
theorem Fr.mono (h : Fr S w w') (hs : ∀ i, i < w.heap.size → S i → S' i) : Fr S' w w' :=
  ⟨h.os, h.tape, h.output, h.size, fun i hi hn => h.block i hi (fun x => hn (hs i hi x))⟩
theorem Fr.below {B : Nat} (h : Fr S w w') (hB : B ≤ w.heap.size) (hs : ∀ i, i < w.heap.size → S i → B ≤ i) : Below B w w' :=
  ⟨h.os, h.tape, h.output, h.size, fun k hk => h.block k (by omega) (fun x => by have := hs k (by omega) x; omega)⟩
theorem Fr.of_below {B : Nat} (h : Below B w w') (hs : ∀ i, i < w.heap.size → B ≤ i → S i) : Fr S w w' :=
  ⟨h.os, h.tape, h.output, h.size, fun k hk hn => h.block k (Nat.lt_of_not_le fun x => hn (hs k hk x))⟩
theorem Fr.of_grown {row : Option Nat} (h : w.grownBy w' row) (hs : ∀ i, i < w.heap.size → some i = row → S i) : Fr S w w' :=
  ⟨h.os, h.tape, h.output, h.size, fun k hk hn => h.block k hk (fun e => hn (hs k hk e))⟩
theorem Fr.drew (h : Fr S w w') : Fr S w w'.drew := ⟨h.os, h.tape, h.output, h.size, h.block⟩
theorem Fr.drewN (h : Fr S w w') (n : Nat) : Fr S w (w'.drewN n) := ⟨h.os, h.tape, h.output, h.size, h.block⟩
theorem Fr.alloc (h : Fr S w w') (o : Obj) : Fr S w (w'.alloc o) :=
  ⟨h.os, h.tape, h.output, Nat.le_trans h.size (by simp), fun i hi hn => (Below.heap_alloc w' o i (Nat.lt_of_lt_of_le hi h.size)).trans (h.block i hi hn)⟩
theorem Fr.setCell (h : Fr S w w') {p : Addr} (hp : S p.block ∨ w.heap.size ≤ p.block) (u : Value) : Fr S w (w'.setCell p u) :=
  ⟨h.os, h.tape, h.output, by simpa [World.setCell] using h.size, fun i hi hn => (Below.heap_setCell w' p u i (by
    rintro rfl
    rcases hp with hp | hp
    · exact hn hp
    · omega)).trans (h.block i hi hn)⟩
theorem Fr.cell (h : Fr S w w') {p : Addr} {v : Value} (hc : w.cell? p = some v) (hp : ¬ S p.block) : w'.cell? p = some v :=
  (World.cell?_of_block (h.block p.block (World.block_lt_of_cell? w p hc) hp)).trans hc

theorem below_drewN {B : Nat} {a w : World} (h : Below B a w) (n : Nat) : Below B a (w.drewN n) := ⟨h.os, h.tape, h.output, h.size, h.block⟩
theorem Rd.nil (w : World) (size : Nat) (A : Option Addr) : Rd w size A 0 [] := ⟨by simp, fun h => absurd h (by omega)⟩
theorem Rd.at_ {k : Nat} (h : Rd w 1 A n vs) (hk : k < n) : ∃ b o u, A = some ⟨b, o, none⟩ ∧ vs[k]? = some u ∧ w.cell? ⟨b, o + k, none⟩ = some u := by
  obtain ⟨b, o, e, hc⟩ := h.2 (by omega)
  have hl : k < vs.length := by have := h.1; omega
  exact ⟨b, o, vs[k], e, List.getElem?_eq_getElem hl, hc k _ (List.getElem?_eq_getElem hl)⟩
theorem Rd.keep (h : Rd w size A n vs) (hk : ∀ p : Addr, ∀ v, (∀ a, A = some a → p.block = a.block) → w.cell? p = some v → w'.cell? p = some v) : Rd w' size A n vs :=
  ⟨h.1, fun hn => by
    obtain ⟨b, o, e, hc⟩ := h.2 hn
    exact ⟨b, o, e, fun j u hu => hk _ _ (by rw [e]; rintro a ⟨⟩; rfl) (hc j u hu)⟩⟩
theorem Rd.fr (h : Rd w size A n vs) (hf : Fr S w w') (hs : ∀ a, A = some a → ¬ S a.block) : Rd w' size A n vs := by
  refine ⟨h.1, fun hn => ?_⟩
  obtain ⟨b, o, e, hc⟩ := h.2 hn
  exact ⟨b, o, e, fun j u hu => hf.cell (hc j u hu) (show ¬ S b from hs _ e)⟩
theorem Rd.below (h : Rd w size A n vs) (hb : Below w.heap.size w w') : Rd w' size A n vs := by
  refine ⟨h.1, fun hn => ?_⟩
  obtain ⟨b, o, e, hc⟩ := h.2 hn
  exact ⟨b, o, e, fun j u hu => (hb.cell (World.block_lt_of_cell? w _ (hc j u hu))).trans (hc j u hu)⟩
theorem Rd.of_blk (h : Blk w g t cs) (hl : n * size ≤ cs.length) : Rd w size (some ⟨g, 0, none⟩) n (cs.take (n * size)) := by
  refine ⟨by simp; omega, fun _ => ⟨g, 0, rfl, fun j v hv => ?_⟩⟩
  rw [Nat.zero_add, h.cell]
  rw [List.getElem?_take] at hv
  split at hv
  · exact hv
  · cases hv
theorem Rd.take {k : Nat} (h : Rd w size A n vs) (hk : k ≤ n) : Rd w size A k (vs.take (k * size)) := by
  have hm : k * size ≤ n * size := Nat.mul_le_mul_right _ hk
  refine ⟨by rw [List.length_take, h.1]; omega, fun hp => ?_⟩
  obtain ⟨b, o, e, hc⟩ := h.2 (by omega)
  refine ⟨b, o, e, fun j u hu => hc j u ?_⟩
  rw [List.getElem?_take] at hu
  split at hu
  · exact hu
  · cases hu
theorem add_plain (b o j : Nat) : (⟨b, o, none⟩ : Addr).add j = ⟨b, o + j, none⟩ := by unfold Addr.add; split <;> simp [*]
theorem Rd.drop {k cap : Nat} (h : Rd w size A n vs) (hk : k ≤ n) (hc : n ≤ cap) :
    Rd w size (if cap = k then A else A.map (·.add (k * size))) (n - k) (vs.drop (k * size)) := by
  refine ⟨by rw [List.length_drop, h.1, Nat.sub_mul], fun hn => ?_⟩
  obtain ⟨b, o, rfl, hcell⟩ := h.2 (by omega)
  rw [if_neg (by omega)]
  refine ⟨b, o + k * size, by simp [add_plain], fun j u hu => ?_⟩
  rw [Nat.add_assoc]
  exact hcell _ u (by rw [← hu, List.getElem?_drop])
theorem Rd.of_own {base : Nat} {e : TypeId} {c : Nat} (h : w.ownsRow base e size (.slice A n c) n vs) : Rd w size A n vs := by
  refine ⟨h.1, fun hn => ?_⟩
  obtain ⟨g, cap, hv, _, hlt⟩ := h.form hn
  have hA : A = some ⟨g, 0, none⟩ := by injection hv
  subst hA
  exact ⟨g, 0, rfl, fun j u hu => by have := h.cells (g := g) rfl j u hu; rwa [add_plain] at this⟩
end

/-- copy onto a block that is known whole -/
theorem wpList_copy_blk {P : Program} {w : World} {ops : Array Oper} {rest : List Oper} {o : Oper} {a : Act} {Q : Exit → Act → World → Prop} (hgd : o.guard = none) (d s : Operand) (dT sT : TypeId)
    (ho : o.op = .call { callee := .builtin .copy, args := #[d, s], argTypes := #[dT, sT] }) (elem : TypeId) (hu : P.underlying dT = some (.slice elem)) (hsz : (P.info? elem).map (·.size) = some 1)
    (dp sp : Option Addr) (dLen dCap sLen sCap : Nat) (hd : a.eval d = .slice dp dLen dCap) (hs : a.eval s = .slice sp sLen sCap)
    (g off : Nat) (cur : List Value) (t : TypeId) (hg : Blk w g t cur) (vs : List Value) (hr : Rd w 1 sp sLen vs) (h1 : ∀ v ∈ vs, v.oneCell' = true)
    (hdp : 0 < Nat.min sLen dLen → dp = some ⟨g, off, none⟩) (hfit : off + Nat.min sLen dLen ≤ cur.length)
    (h : ∀ w' m, Hid (m = Nat.min sLen dLen) → Blk w' g t (splice cur off (vs.take m)) → Fr (· = g) w w' → wpList P ops Q rest (a.put o.dst (goInt m)) w') :
    wpList P ops Q (o :: rest) a w := by
  have hl : vs.length = sLen := by simpa using hr.1
  have hmin : Nat.min sLen dLen ≤ sLen := Nat.min_le_left _ _
  have hcl : (vs.take (Nat.min sLen dLen)).length = Nat.min sLen dLen := by rw [List.length_take, hl]; omega
  by_cases h0 : Nat.min sLen dLen = 0
  · refine wpList_copy_nothing hgd d s dT sT ho elem hu hsz dp sp dLen dCap sLen sCap hd hs h0 ?_
    exact h w 0 h0.symm (by simpa [splice] using hg) (Fr.refl _ _)
  · obtain ⟨b, o', rfl, hsrc⟩ := hr.2 (by omega)
    have hdp' := hdp (by omega)
    subst hdp'
    refine wpList_copy_own hgd d s dT sT ho elem hu hsz g off dLen dCap ⟨b, o', none⟩ sLen sCap hd hs cur.toArray t hg (vs.take (Nat.min sLen dLen)) hcl ?_ (by simp only [List.size_toArray]; omega) (fun v hv => h1 v (List.mem_of_mem_take hv)) ?_
    · intro j v hv
      rw [add_plain]
      refine hsrc j v ?_
      rw [List.getElem?_take] at hv
      split at hv
      · exact hv
      · cases hv
    · rw [hcl]
      refine h _ _ rfl (show _ = _ by rw [splice, hcl]; exact setRow_heap w g _ _ t _ hg) ⟨rfl, rfl, rfl, by simp [World.setRow], fun k _ hk => setRow_other w g k _ hk⟩

/-- string(b) of a slice of bytes -/
theorem run_conv_bytes {P : Program} {w : World} {src dst e : TypeId} (hs : P.underlying src = some (.slice e)) (he : P.underlying e = some (.int .u8)) (hd : P.underlying dst = some .string)
    {A : Option Addr} {n c : Nat} {xs : List UInt8} (hr : Rd w 1 A n (xs.map BV)) : (convert src dst (.slice A n c)).run P w = .ok (.string ⟨xs.toArray⟩) w := by
  have hl : xs.length = n := by simpa using hr.1
  rcases Nat.eq_zero_or_pos n with h0 | h0
  · subst h0
    obtain rfl : xs = [] := List.eq_nil_of_length_eq_zero hl
    rw [run_convert_bytes_string w src dst e _ 0 c hs he hd]
    rcases A with _ | a
    · simp [Conv.bytesToString]; rfl
    · rw [run_bytesToString w a 0 c [] (by simpa using run_loadCells (P := P) (w := w) a 0 (fun _ => .int .u8 0) (by omega))]
      rfl
  · obtain ⟨b, o, rfl, hc⟩ := hr.2 h0
    rw [run_convert_bytes_arg w src e hs he b o n c (xs.map fun x => (x.toNat : Int)) (by simpa using hl) (fun i hi => ?_) dst hd]
    · congr 2
      have hm : xs.map ((fun n : Int => UInt8.ofNat n.toNat) ∘ fun x : UInt8 => (x.toNat : Int)) = xs := by
        have : xs.map ((fun n : Int => UInt8.ofNat n.toNat) ∘ fun x : UInt8 => (x.toNat : Int)) = xs.map id := List.map_congr_left (fun x _ => by simp)
        simpa using this
      simp [strOfNums, hm]
    · have := hc i (BV xs[i]) (by simp [List.getElem?_eq_getElem (show i < xs.length by omega)])
      rw [this]
      simp [BV, List.getD, List.getElem?_eq_getElem (show i < xs.length by omega)]
theorem wpList_conv_bytes {P : Program} {w : World} {ops : Array Oper} {rest : List Oper} {o : Oper} {a : Act} {Q : Exit → Act → World → Prop} (hgd : o.guard = none) (s : Operand) (src dst : TypeId)
    (ho : o.op = .convert src dst s) (e : TypeId) (hs : P.underlying src = some (.slice e)) (he : P.underlying e = some (.int .u8)) (hd : P.underlying dst = some .string)
    (A : Option Addr) (n c : Nat) (hv : a.eval s = .slice A n c) (xs : List UInt8) (hr : Rd w 1 A n (xs.map BV))
    (h : wpList P ops Q rest (a.put o.dst (.string ⟨xs.toArray⟩)) w) : wpList P ops Q (o :: rest) a w := by
  refine wpList_plain hgd fun K hK => ?_
  have hrun := run_conv_bytes (P := P) hs he hd (c := c) hr
  unfold Oper.wp
  simp [execOp, ho, hv, hrun, Result.andThen]
  exact hK _ _ h

/-- what a law on append asks of a slice's type -/
structure Elt (P : Program) (t e : TypeId) (z : Value) (size bytes : Nat) : Prop where
  ht : P.underlying t = some (.slice e)
  hi : ∃ i, P.info? e = some i ∧ i.zero = some z ∧ i.size = size ∧ i.bytes = bytes
  hzs : z.cells.size = size
  hsz : 0 < size

/-- n times the zero value: a definition of its own, so that the walk lets it stand -/
def zeros (z : Value) (n : Nat) : List Value := List.replicate n z
theorem zeros_length (z : Value) (n : Nat) : (zeros z n).length = n := by simp [zeros]
/-- make([]T, n) of elements of one cell -/
theorem run_make_zeros {P : Program} {t e : TypeId} {z : Value} {bytes : Nat} (E : Elt P t e z 1 bytes) (hz : z.cells = #[z]) (kl kc : IntKind) (k : Int) (n : Nat) (hk : k = n) (hb : bytes * n ≤ 281474976710656) (h63 : n ≤ 9223372036854775807) :
    ∀ w : World, (Instr.makeSlice t (.int kl k) (.int kc k)).run P w = .ok (.slice (some ⟨w.heap.size, 0, none⟩) n n) (w.alloc (.cells (zeros z n).toArray e)) := by
  intro w
  obtain ⟨ht, ⟨i, hi, hz0, hsize, hby⟩, hzs, hsz⟩ := E
  subst hk
  subst hby
  have hb' : (i.bytes : Int) * (n : Int) ≤ 281474976710656 := by
    have h : ((i.bytes * n : Nat) : Int) ≤ 281474976710656 := by omega
    rwa [Int.natCast_mul] at h
  have hr := run_make (P := P) w t e i z ht hi hz0 kl kc n n (by omega) (Int.le_refl _) hb' (by omega)
  simp only [Int.toNat_natCast, hsize, Nat.mul_one, hz] at hr
  rw [hr]
  congr 3
  apply Array.toList_inj.1
  rw [toList_madeCells_one]
  rfl

theorem own_shape {w : World} {base : Nat} {e : TypeId} {size : Nat} {v : Value} {n : Nat} {xs : List Value} (h : w.ownsRow base e size v n xs) :
    ∃ A c, v = .slice A n c ∧ n ≤ c ∧ c ≤ maxLen ∧ Rd w size A n xs ∧ (∀ a, A = some a → a.off = 0 ∧ a.spot = none) := by
  have h' := h
  rcases h.2 with ⟨rfl, rfl⟩ | ⟨g, cap, cur, rfl, _, _, h1, h2, _⟩
  · exact ⟨none, 0, rfl, Nat.le_refl _, by simp [maxLen], ⟨h.1, fun h => absurd h (by omega)⟩, by simp⟩
  · exact ⟨_, cap, rfl, h1, h2, Rd.of_own h', by rintro a ⟨⟩; exact ⟨rfl, rfl⟩⟩
theorem run_append_rd {P : Program} {w : World} {t ty e : TypeId} {z : Value} {size bytes : Nat} (E : Elt P t e z size bytes) {base : Nat}
    {v : Value} {n : Nat} {xs : List Value} (hown : w.ownsRow base e size v n xs) {A : Option Addr} {m c : Nat} {news : List Value} (hr : Rd w size A m news) (h1 : ∀ u ∈ news, u.oneCell' = true)
    (hb : (n + m) * bytes ≤ 140737488355328) (h63 : n + m ≤ maxLen) (hbase : base ≤ w.heap.size) :
    ∃ v' w', (Builtin.append_ #[t, t] ty #[v, .slice A m c]).run P w = .ok v' w' ∧ w'.ownsRow base e size v' (n + m) (xs ++ news) ∧ Fr (fun i => some i = v.ownBlock) w w' ∧
      (v'.ownBlock = v.ownBlock ∨ v'.ownBlock = some w.heap.size) := by
  obtain ⟨ht, ⟨i, hi, hz, hsize, hby⟩, hzs, hsz⟩ := E
  rcases A with _ | ad
  · have hm : m = 0 := by
      rcases Nat.eq_zero_or_pos m with h0 | h0
      · exact h0
      · obtain ⟨b, o, h, _⟩ := hr.2 h0
        cases h
    subst hm
    have hn : news = [] := List.eq_nil_of_length_eq_zero (by simpa using hr.1)
    subst hn
    refine ⟨v, w, ?_, by simpa using hown, Fr.refl _ _, .inl rfl⟩
    rcases hown.2 with ⟨rfl, rfl⟩ | ⟨g, cap, cur, rfl, _, _, hnc, _⟩
    · simp [Builtin.append_, run_underlying ht, sizeOf, typeInfo, hi, Builtin.lenOf, Builtin.firstCells]
    · simp [Builtin.append_, run_underlying ht, sizeOf, typeInfo, hi, Builtin.lenOf, Builtin.firstCells, hnc, storeCells]
  · have hcells : ∀ j u, news[j]? = some u → w.cell? (ad.add j) = some u := by
      intro j u hu
      rcases Nat.eq_zero_or_pos m with h0 | h0
      · subst h0
        have hn : news = [] := List.eq_nil_of_length_eq_zero (by simpa using hr.1)
        subst hn
        simp at hu
      · obtain ⟨b, o, h, hc⟩ := hr.2 h0
        injection h with h
        subst h
        rw [add_plain]
        exact hc j u hu
    obtain ⟨v', w', hrun, h2, h3, _, h5⟩ := run_append_own_at (P := P) w base t ty e i z size bytes ht hi hz hsize hby hzs hsz v n xs hown ad m c news hr.1 hcells h1 h63 hb hbase
    exact ⟨v', w', hrun, h2, Fr.of_grown h3 (fun _ _ h => h), h5⟩
theorem wp_append_rd {P : Program} {w : World} {o : Oper} {a : Act} {K : Act → World → Prop} {Q : Exit → Act → World → Prop} (s x : Operand) (t : TypeId)
    (ho : o.op = .call { callee := .builtin .append, args := #[s, x], argTypes := #[t, t] }) {e : TypeId} {z : Value} {size bytes : Nat} (E : Elt P t e z size bytes) {base : Nat}
    (v : Value) (n : Nat) (xs : List Value) (hs : a.eval s = v) (hown : w.ownsRow base e size v n xs) (A : Option Addr) (m c : Nat) (news : List Value) (hx : a.eval x = .slice A m c)
    (hr : Rd w size A m news) (h1 : ∀ u ∈ news, u.oneCell' = true)
    (hb : (n + m) * bytes ≤ 140737488355328) (h63 : n + m ≤ maxLen) (hbase : base ≤ w.heap.size)
    (h : ∀ A' c' w', w'.ownsRow base e size (.slice A' (n + m) c') (n + m) (xs ++ news) → Fr (fun i => some i = v.ownBlock) w w' → ((Value.slice A' (n + m) c').ownBlock = v.ownBlock ∨ (Value.slice A' (n + m) c').ownBlock = some w.heap.size) → K (a.put o.dst (.slice A' (n + m) c')) w') : o.wp P a w K Q := by
  obtain ⟨v', w', hrun, h2, h3, h4⟩ := run_append_rd (ty := o.type) (c := c) E hown hr h1 hb h63 hbase
  unfold Oper.wp execOp
  obtain ⟨A', c', rfl, _⟩ := own_shape h2
  simp only [ho, resolve, invoke, builtin, Sem.run_bind, Sem.run_pure, Result.andThen_ok, List.map_toArray, List.map_cons, List.map_nil, hs, hx, hrun]
  exact h A' c' w' h2 h3 h4
theorem wpList_append_rd {P : Program} {w : World} {ops : Array Oper} {rest : List Oper} {o : Oper} {a : Act} {Q : Exit → Act → World → Prop} (hgd : o.guard = none) (s x : Operand) (t : TypeId)
    (ho : o.op = .call { callee := .builtin .append, args := #[s, x], argTypes := #[t, t] }) {e : TypeId} {z : Value} {size bytes : Nat} (E : Elt P t e z size bytes) {base : Nat}
    (v : Value) (n : Nat) (xs : List Value) (hs : a.eval s = v) (hown : w.ownsRow base e size v n xs) (A : Option Addr) (m c : Nat) (news : List Value) (hx : a.eval x = .slice A m c)
    (hr : Rd w size A m news) (h1 : ∀ u ∈ news, u.oneCell' = true)
    (hb : (n + m) * bytes ≤ 140737488355328) (h63 : n + m ≤ maxLen) (hbase : base ≤ w.heap.size)
    (h : ∀ A' c' w', w'.ownsRow base e size (.slice A' (n + m) c') (n + m) (xs ++ news) → Fr (fun i => some i = v.ownBlock) w w' → ((Value.slice A' (n + m) c').ownBlock = v.ownBlock ∨ (Value.slice A' (n + m) c').ownBlock = some w.heap.size) → wpList P ops Q rest (a.put o.dst (.slice A' (n + m) c')) w') : wpList P ops Q (o :: rest) a w :=
  wpList_plain hgd fun _ hK => wp_append_rd s x t ho E v n xs hs hown A m c news hx hr h1 hb h63 hbase fun A' c' w' h2 h3 h4 => hK _ _ (h A' c' w' h2 h3 h4)
theorem step_append_rd {P : Program} {w : World} {ops : Array Oper} {o : Oper} {a : Act} {K : Act → World → Prop} {Q : Exit → Act → World → Prop} {E' : Prop} (hgd : o.guard = none) (s x : Operand) (t : TypeId)
    (ho : o.op = .call { callee := .builtin .append, args := #[s, x], argTypes := #[t, t] }) {e : TypeId} {z : Value} {size bytes : Nat} (E : Elt P t e z size bytes) {base : Nat}
    (v : Value) (n : Nat) (xs : List Value) (hs : a.eval s = v) (hown : w.ownsRow base e size v n xs) (A : Option Addr) (m c : Nat) (news : List Value) (hx : a.eval x = .slice A m c)
    (hr : Rd w size A m news) (h1 : ∀ u ∈ news, u.oneCell' = true)
    (hb : (n + m) * bytes ≤ 140737488355328) (h63 : n + m ≤ maxLen) (hbase : base ≤ w.heap.size)
    (h : ∀ A' c' w', w'.ownsRow base e size (.slice A' (n + m) c') (n + m) (xs ++ news) → Fr (fun i => some i = v.ownBlock) w w' → ((Value.slice A' (n + m) c').ownBlock = v.ownBlock ∨ (Value.slice A' (n + m) c').ownBlock = some w.heap.size) → K (a.put o.dst (.slice A' (n + m) c')) w') :
    if Region.wanted o (yielded ops a.tmps) = true then Oper.wp P o a w K Q else E' := by
  have hw : Region.wanted o (yielded ops a.tmps) = true := by simp [Region.wanted, hgd]
  rw [if_pos hw]
  exact wp_append_rd s x t ho E v n xs hs hown A m c news hx hr h1 hb h63 hbase h

theorem own_fr {w w' : World} {base : Nat} {e : TypeId} {size : Nat} {v : Value} {n : Nat} {xs : List Value} {S : Nat → Prop} (h : w.ownsRow base e size v n xs) (hf : Fr S w w') (hs : ∀ g, v.ownBlock = some g → ¬ S g) : w'.ownsRow base e size v n xs := by
  refine ⟨h.1, ?_⟩
  rcases h.2 with hn | ⟨g, cap, cur, rfl, hb, hgg, rest⟩
  · exact .inl hn
  · refine .inr ⟨g, cap, cur, rfl, hb, ?_, rest⟩
    rw [hf.block g (Array.getElem?_eq_some_iff.1 hgg).1 (hs g rfl)]
    exact hgg
theorem own_lt {w : World} {base : Nat} {e : TypeId} {size : Nat} {v : Value} {n : Nat} {xs : List Value} (h : w.ownsRow base e size v n xs) {g : Nat} (hg : v.ownBlock = some g) : g < w.heap.size := (h.lt g hg).2
theorem own_ne_blk {w : World} {base : Nat} {e : TypeId} {size n g : Nat} {v : Value} {xs cs : List Value} {t : TypeId} (h : w.ownsRow base e size v n xs) (hg : Blk w g t cs) (hne : e ≠ t) : v.ownBlock ≠ some g := by
  rcases h.2 with ⟨rfl, _⟩ | ⟨g', cap, cur, rfl, _, hh, _⟩
  · simp [Value.ownBlock]
  · intro he
    have : g' = g := by simpa [Value.ownBlock] using he
    subst this
    unfold Blk at hg
    rw [hg] at hh
    injection hh with hh
    injection hh with _ ht
    exact hne ht.symm
/-- copy onto a slice that is owned, of elements of one cell -/
theorem run_copy_owned {P : Program} {w : World} {dT sT ty e : TypeId} (hu : P.underlying dT = some (.slice e)) (hsz : (P.info? e).map (·.size) = some 1) {base : Nat}
    {v : Value} {n : Nat} {xs : List Value} (hown : w.ownsRow base e 1 v n xs) {A : Option Addr} {m c : Nat} {vs : List Value} (hr : Rd w 1 A m vs) (h1 : ∀ u ∈ vs, u.oneCell' = true) :
    ∃ w', (Builtin.copy_ #[dT, sT] ty #[v, .slice A m c]).run P w = .ok (goInt (Nat.min m n : Nat)) w' ∧ w'.ownsRow base e 1 v n (vs.take (Nat.min m n) ++ xs.drop (Nat.min m n)) ∧ Fr (fun i => some i = v.ownBlock) w w' := by
  by_cases h0 : Nat.min m n = 0
  · obtain ⟨B, d, rfl, _⟩ := own_shape hown
    refine ⟨w, ?_, by rw [h0]; simpa using hown, Fr.refl _ _⟩
    rw [h0]
    exact run_copy_none (P := P) w dT sT ty e B A n d m c hu hsz h0
  · have hvs : vs.length = m := by simpa using hr.1
    have hxs : xs.length = n := by simpa using hown.1
    have hm1 : Nat.min m n ≤ m := Nat.min_le_left _ _
    have hm2 : Nat.min m n ≤ n := Nat.min_le_right _ _
    obtain ⟨b, o, rfl, hc⟩ := hr.2 (by omega)
    rcases hown.2 with ⟨_, hn⟩ | ⟨g, cap, cur, rfl, hb, hg, hnc, hcm, hcs, htake⟩
    · omega
    · have hcl : (vs.take (Nat.min m n)).length = Nat.min m n := by rw [List.length_take]; omega
      have hrun := run_copy_row (P := P) w dT sT ty e g 0 n cap ⟨b, o, none⟩ m c cur e (vs.take (Nat.min m n)) hu hsz hg hcl
        (fun j v hv => by
          rw [add_plain]
          refine hc j v ?_
          rw [List.getElem?_take] at hv
          split at hv
          · exact hv
          · cases hv) (by omega) (fun v hv => h1 v (List.mem_of_mem_take hv))
      rw [hcl] at hrun
      refine ⟨_, hrun, ⟨by rw [List.length_append, hcl, List.length_drop]; omega, .inr ⟨g, cap, _, rfl, hb, setRow_heap w g cur _ e _ hg, hnc, hcm, ?_, ?_⟩⟩, ⟨rfl, rfl, rfl, by simp [World.setRow], fun k _ hk => setRow_other w g k _ (fun e => hk (by rw [e]; rfl))⟩⟩
      · have : cur.toList.length = cap * 1 := by simpa using hcs
        simp only [List.take_zero, List.nil_append, List.size_toArray, List.length_append, hcl, List.length_drop]
        omega
      · have hcl2 : cur.toList.length = cap * 1 := by simpa using hcs
        rw [← htake]
        simp only [List.take_zero, List.nil_append, Nat.zero_add, Nat.mul_one]
        rw [List.take_append, hcl]
        rw [List.take_take, Nat.min_eq_right hm2]
        congr 1
        rw [List.take_drop]
        congr 2
        omega
theorem wp_copy_owned {P : Program} {w : World} {o : Oper} {a : Act} {K : Act → World → Prop} {Q : Exit → Act → World → Prop} (d s : Operand) (dT sT : TypeId)
    (ho : o.op = .call { callee := .builtin .copy, args := #[d, s], argTypes := #[dT, sT] }) {e : TypeId} (hu : P.underlying dT = some (.slice e)) (hsz : (P.info? e).map (·.size) = some 1) {base : Nat}
    (v : Value) (n : Nat) (xs : List Value) (hd : a.eval d = v) (hown : w.ownsRow base e 1 v n xs) (A : Option Addr) (m c : Nat) (vs : List Value) (hs : a.eval s = .slice A m c) (hr : Rd w 1 A m vs) (h1 : ∀ u ∈ vs, u.oneCell' = true)
    (h : ∀ w' k, Hid (k = Nat.min m n) → w'.ownsRow base e 1 v n (vs.take k ++ xs.drop k) → Fr (fun i => some i = v.ownBlock) w w' → K (a.put o.dst (goInt (k : Nat))) w') : o.wp P a w K Q := by
  obtain ⟨w', hrun, h2, h3⟩ := run_copy_owned (ty := o.type) (sT := sT) (c := c) hu hsz hown hr h1
  unfold Oper.wp
  simp [execOp, ho, resolve, invoke, builtin, hd, hs, hrun, Result.andThen]
  exact h w' _ rfl h2 h3
theorem wpList_copy_owned {P : Program} {w : World} {ops : Array Oper} {rest : List Oper} {o : Oper} {a : Act} {Q : Exit → Act → World → Prop} (hgd : o.guard = none) (d s : Operand) (dT sT : TypeId)
    (ho : o.op = .call { callee := .builtin .copy, args := #[d, s], argTypes := #[dT, sT] }) {e : TypeId} (hu : P.underlying dT = some (.slice e)) (hsz : (P.info? e).map (·.size) = some 1) {base : Nat}
    (v : Value) (n : Nat) (xs : List Value) (hd : a.eval d = v) (hown : w.ownsRow base e 1 v n xs) (A : Option Addr) (m c : Nat) (vs : List Value) (hs : a.eval s = .slice A m c) (hr : Rd w 1 A m vs) (h1 : ∀ u ∈ vs, u.oneCell' = true)
    (h : ∀ w' k, Hid (k = Nat.min m n) → w'.ownsRow base e 1 v n (vs.take k ++ xs.drop k) → Fr (fun i => some i = v.ownBlock) w w' → wpList P ops Q rest (a.put o.dst (goInt (k : Nat))) w') : wpList P ops Q (o :: rest) a w :=
  wpList_plain hgd fun _ hK => wp_copy_owned d s dT sT ho hu hsz v n xs hd hown A m c vs hs hr h1 fun w' k h2 h3 h4 => hK _ _ (h w' k h2 h3 h4)
theorem step_copy_owned {P : Program} {w : World} {ops : Array Oper} {o : Oper} {a : Act} {K : Act → World → Prop} {Q : Exit → Act → World → Prop} {E' : Prop} (hgd : o.guard = none) (d s : Operand) (dT sT : TypeId)
    (ho : o.op = .call { callee := .builtin .copy, args := #[d, s], argTypes := #[dT, sT] }) {e : TypeId} (hu : P.underlying dT = some (.slice e)) (hsz : (P.info? e).map (·.size) = some 1) {base : Nat}
    (v : Value) (n : Nat) (xs : List Value) (hd : a.eval d = v) (hown : w.ownsRow base e 1 v n xs) (A : Option Addr) (m c : Nat) (vs : List Value) (hs : a.eval s = .slice A m c) (hr : Rd w 1 A m vs) (h1 : ∀ u ∈ vs, u.oneCell' = true)
    (h : ∀ w' k, Hid (k = Nat.min m n) → w'.ownsRow base e 1 v n (vs.take k ++ xs.drop k) → Fr (fun i => some i = v.ownBlock) w w' → K (a.put o.dst (goInt (k : Nat))) w') :
    if Region.wanted o (yielded ops a.tmps) = true then Oper.wp P o a w K Q else E' := by
  have hw : Region.wanted o (yielded ops a.tmps) = true := by simp [Region.wanted, hgd]
  rw [if_pos hw]
  exact wp_copy_owned d s dT sT ho hu hsz v n xs hd hown A m c vs hs hr h1 h
theorem own_take {w : World} {base : Nat} {e : TypeId} {size n k c : Nat} {A : Option Addr} {xs : List Value} (h : w.ownsRow base e size (.slice A n c) n xs) (hk : k ≤ n) : w.ownsRow base e size (.slice A k c) k (xs.take (k * size)) := by
  have hle : k * size ≤ n * size := Nat.mul_le_mul_right _ hk
  refine ⟨by rw [List.length_take, h.1]; omega, ?_⟩
  rcases h.2 with ⟨h', h0⟩ | ⟨g, cap, cur, h', hb, hg, h1, h2, h3, h4⟩
  · subst h0
    obtain rfl : k = 0 := by omega
    exact .inl ⟨h', rfl⟩
  · simp only [Value.slice.injEq] at h'
    obtain ⟨rfl, _, rfl⟩ := h'
    refine .inr ⟨g, c, cur, rfl, hb, hg, by omega, h2, h3, ?_⟩
    rw [← h4, List.take_take, Nat.min_eq_left hle]
/-- a block that is known whole, as the slice that owns it -/
theorem own_of_blk {w : World} {e : TypeId} {size n g cap : Nat} {cs : List Value} (h : Blk w g e cs) (hc : cs.length = cap * size) (hn : n ≤ cap) (hm : cap ≤ maxLen) : w.ownsRow 0 e size (.slice (some ⟨g, 0, none⟩) n cap) n (cs.take (n * size)) := by
  have hle : n * size ≤ cap * size := Nat.mul_le_mul_right _ hn
  exact ⟨by rw [List.length_take]; omega, .inr ⟨g, cap, cs.toArray, rfl, Nat.zero_le _, h, hn, hm, by simpa using hc, by simp⟩⟩
theorem own_blk {w : World} {base : Nat} {e : TypeId} {size n g cap : Nat} {xs : List Value} (h : w.ownsRow base e size (.slice (some ⟨g, 0, none⟩) n cap) n xs) : ∃ cur : List Value, Blk w g e cur ∧ n ≤ cap ∧ cap ≤ maxLen ∧ cur.length = cap * size ∧ cur.take (n * size) = xs := by
  rcases h.2 with ⟨h', _⟩ | ⟨g', cap', cur, h', _, hg, h1, h2, h3, h4⟩
  · simp at h'
  · simp only [Value.slice.injEq, Option.some.injEq, Addr.mk.injEq, and_true, true_and] at h'
    obtain ⟨rfl, rfl⟩ := h'
    exact ⟨cur.toList, by simpa [Blk] using hg, h1, h2, by simpa using h3, h4⟩

section
open Go.ChangeShapes Go.WideShapes Go.ChangeAt
/-- numbers that fit a byte are bytes -/
theorem bytes_of_wf (zs : List Int) (h : ∀ n ∈ zs, (Lit.int .u8 n).wf = true) : zs.map (Value.int .u8) = (zs.map fun n => UInt8.ofNat n.toNat).map BV := by
  rw [List.map_map]
  refine List.map_congr_left fun n hn => ?_
  have hw := h n hn
  have hb : 0 ≤ n ∧ n ≤ 255 := by simpa [Lit.wf, IntKind.min, IntKind.max, IntKind.signed, IntKind.bits] using hw
  simp only [Function.comp_apply, BV]
  congr 1
  simp
  omega
theorem opened_bytes {H : Type} {enc : TypeId × Value → H} {P : Program} {W : World} {base : Nat} {t e : TypeId} {v : Value} {d : DataW H} {ps : List MemPlace} (ht : P.underlying t = some (.slice e)) (he : P.underlying e = some (.int .u8)) (hc : P.cellsOf e = 1) (hby : P.bytesOf e = 1)
    (hv : Value.okWide P W .any base t v) (h : DataW.Trod enc P W 0 (fun _ => true) true t v d ps)
    (hsz : ∀ elems spare, d = .slice elems spare → (elems.length + spare.length) * P.bytesOf e ≤ reachBytes) :
    ∃ (A : Option Addr) (len cap : Nat) (xs : List UInt8), v = .slice A len cap ∧ Rd W 1 A len (xs.map BV) ∧ len ≤ cap ∧ cap ≤ 140737488351232 := by
  obtain ⟨A, len, cap, rfl⟩ := okWide_slice ht hv
  obtain ⟨fuel, hf⟩ := h
  rcases open_ints ht he hc hf with ⟨hcs, _⟩ | ⟨x, l, c, zs, hcs, _, hl, hm, hz, hd, hcell, hwz⟩
  · simp [Value.cells] at hcs
    obtain ⟨rfl, rfl, rfl⟩ := hcs
    exact ⟨none, 0, 0, [], rfl, Rd.nil _ _ _, Nat.le_refl _, by omega⟩
  · simp [Value.cells] at hcs
    obtain ⟨rfl, rfl, rfl⟩ := hcs
    have hz' : zs.length = cap := by simpa using hz
    have hb := hsz (lits .u8 (zs.take len)) (lits .u8 (zs.drop len)) (by simp only [Prod.mk.injEq] at hd; exact hd.1)
    rw [hby] at hb
    simp only [lits, List.length_map, List.length_take, List.length_drop, reachBytes] at hb
    refine ⟨some x, len, cap, (zs.take len).map fun n => UInt8.ofNat n.toNat, rfl, ⟨by simp; omega, fun hn => ?_⟩, hl, by omega⟩
    have h0 := hcell 0 (by omega)
    obtain ⟨b, o, spot⟩ := x
    have hspot : spot = none := by simpa [Addr.add] using World.cell?_spot h0
    subst hspot
    refine ⟨b, o, rfl, fun j u hu => ?_⟩
    rw [← bytes_of_wf _ (fun n hn => hwz n (List.mem_of_mem_take hn))] at hu
    simp only [List.getElem?_map, Option.map_eq_some_iff] at hu
    obtain ⟨y, hy, rfl⟩ := hu
    rw [List.getElem?_take] at hy
    split at hy
    · have := hcell j (by omega)
      rw [add_plain] at this
      rw [this, List.getD_eq_getElem?_getD, hy]
      rfl
    · cases hy
end
end Go.Own

/- A list of operations, cut in two: what holds between them is named by hand. -/
namespace Go.Proofs.YtokbdkbljgdcpaaDoor
open Go.RowKit Go.Own
set_option linter.unusedVariables false
section
variable {P : Program} {ops : Array Oper} {Q Q' : Exit → Act → World → Prop} {a : Act} {w : World} {o : Oper} {K K' : Act → World → Prop}
theorem wp_exits (hp : ∀ c a w, Q (.panic c) a w → Q' (.panic c) a w) (ho : LetsOut Q → LetsOut Q') (h : ∀ a w, K a w → K' a w) (hh : o.wp P a w K Q) : o.wp P a w K' Q' := by
  unfold Oper.wp at *
  generalize (execOp a.eval o).run P w = r at *
  cases r with
  | ok n w' =>
    cases n <;> simp only [Oper.upon] at hh ⊢ <;>
      first
        | exact h _ _ hh
        | exact Calls.mono hh (fun e w'' he => by cases e <;> first | exact h _ _ he | exact hp _ _ _ he | exact ho he)
        | exact Rows.mono hh (fun _ _ he => h _ _ he)
  | halt x w' =>
    cases x <;> simp only [Oper.upon] at hh ⊢ <;> first | exact hp _ _ _ hh | exact hh
theorem wpList_cut (R : Act → World → Prop) : ∀ (l1 l2 : List Oper) (a : Act) (w : World), wpList P ops (Exit.then R Q) l1 a w → (∀ a w, R a w → wpList P ops Q l2 a w) → wpList P ops Q (l1 ++ l2) a w
  | [], l2, a, w, h1, h2 => h2 a w h1
  | o :: l1, l2, a, w, h1, h2 => by
    have ih := fun a w h => wpList_cut R l1 l2 a w h h2
    rw [List.cons_append]
    unfold wpList at h1 ⊢
    split
    · rename_i hw
      rw [if_pos hw] at h1
      rcases h1 with h | ⟨h, hl⟩
      · exact .inl (wp_exits (fun c a w x => x) (fun ⟨a, w, x⟩ => ⟨a, w, x⟩) ih h)
      · exact .inr ⟨h, by obtain ⟨a, w, x⟩ := hl; exact ⟨a, w, x⟩⟩
    · rename_i hw
      rw [if_neg hw] at h1
      exact ih _ _ h1
/-- cut behind n operations -/
theorem wpList_cutN (n : Nat) (R : Act → World → Prop) {l : List Oper} (h1 : wpList P ops (Exit.then R Q) (l.take n) a w) (h2 : ∀ a w, R a w → wpList P ops Q (l.drop n) a w) : wpList P ops Q l a w := by
  have h := wpList_cut R (l.take n) (l.drop n) a w h1 h2
  rwa [List.take_append_drop] at h
end
/-- what is known of the slots: of some, their values; of none but these more than that they are there -/
def SlotsAre (l : List (Nat × Value)) (a : Act) : Prop := a.defers = [] ∧ ∀ p ∈ l, a.tmps[p.1]? = some p.2
end Go.Proofs.YtokbdkbljgdcpaaDoor

/- Frames: plain mathematics: what a frame is written as, what octets are read as; that what was written is read as it was. Nothing of the program. -/
namespace Go.Frm
set_option linter.unusedVariables false

/-- the number of some octets, the highest first -/
def num (xs : List UInt8) : Nat := xs.foldl (fun v b => v * 256 + b.toNat) 0
theorem num_snoc (xs : List UInt8) (b : UInt8) : num (xs ++ [b]) = num xs * 256 + b.toNat := by simp [num]
theorem num_take_succ (xs : List UInt8) (k : Nat) (h : k < xs.length) : num (xs.take (k + 1)) = num (xs.take k) * 256 + xs[k].toNat := by
  rw [List.take_succ_eq_append_getElem h, num_snoc]
theorem num_lt (xs : List UInt8) : num xs < 256 ^ xs.length := by
  suffices h : ∀ n, ∀ xs : List UInt8, xs.length = n → num xs < 256 ^ n from h _ xs rfl
  intro n
  induction n with
  | zero => intro xs h; have := List.eq_nil_of_length_eq_zero h; subst this; simp [num]
  | succ n ih =>
    intro xs h
    have hne : xs ≠ [] := by intro e; subst e; simp at h
    obtain ⟨ys, y, rfl⟩ : ∃ ys y, xs = ys ++ [y] := ⟨xs.dropLast, xs.getLast hne, (List.dropLast_concat_getLast hne).symm⟩
    rw [num_snoc]
    have := ih ys (by simpa using h)
    have hy := y.toNat_lt
    rw [Nat.pow_succ]
    omega
theorem num_take_lt (xs : List UInt8) (k : Nat) : num (xs.take k) < 256 ^ k := by
  have h1 := num_lt (xs.take k)
  have h2 : (xs.take k).length ≤ k := List.length_take_le _ _
  exact Nat.lt_of_lt_of_le h1 (Nat.pow_le_pow_right (by omega) h2)
/-- the lowest n octets of v, the highest first -/
def be (v : Nat) : Nat → List UInt8
  | 0 => []
  | n + 1 => be (v / 256) n ++ [UInt8.ofNat v]
theorem be_length (v n : Nat) : (be v n).length = n := by
  induction n generalizing v with
  | zero => rfl
  | succ n ih => simp [be, ih]
theorem be_succ (v n : Nat) : be v (n + 1) = UInt8.ofNat (v / 256 ^ n) :: be v n := by
  induction n generalizing v with
  | zero => simp [be]
  | succ n ih =>
    rw [be, ih (v / 256), be, Nat.div_div_eq_div_mul, Nat.pow_succ, Nat.mul_comm 256]; rfl
theorem num_be (v n : Nat) : num (be v n) = v % 256 ^ n := by
  induction n generalizing v with
  | zero => simp [be, num, Nat.mod_one]
  | succ n ih =>
    rw [be, num_snoc, ih, Nat.pow_succ, Nat.mul_comm (256 ^ n) 256, Nat.mod_mul]
    have : (UInt8.ofNat v).toNat = v % 256 := by simp
    omega
theorem num_be_eq {v n : Nat} (h : v < 256 ^ n) : num (be v n) = v := by rw [num_be, Nat.mod_eq_of_lt h]

structure Fm where
  kind : Int
  stream : Int
  fin : Bool
  eh : Bool
  ack : Bool
  prio : Bool
  pay : List UInt8
  flags : Int
  pad : Int
  depend : Int
  excl : Bool
  weight : Int
  code : Nat
  list : List (Int × Nat)
  last : Int
  inc : Int
/-- a fault -/
structure Flt where
  is : Bool
  code : Nat
  stream : Int
def zeroF : Fm := ⟨0, 0, false, false, false, false, [], 0, 0, 0, false, 0, 0, [], 0, 0⟩
def noF : Flt := ⟨false, 0, 0⟩
def conF (c : Nat) : Flt := ⟨true, c, 0⟩

/-! what a kind has -/
def hE (k : Nat) : Bool := k == 0 || k == 1
def hP (k : Nat) : Bool := k == 0 || k == 1 || k == 5
def hH (k : Nat) : Bool := k == 1 || k == 5 || k == 9
def hR (k : Nat) : Bool := k == 1
def hW (k : Nat) : Bool := k == 2
def hC (k : Nat) : Bool := k == 3 || k == 7
def hA (k : Nat) : Bool := k == 4 || k == 6
def hL (k : Nat) : Bool := k == 4
def hT (k : Nat) : Bool := k == 5 || k == 7
def hI (k : Nat) : Bool := k == 8
def hF (k : Nat) : Bool := decide (10 ≤ k)
def hB (k : Nat) : Bool := k == 0 || k == 1 || k == 5 || k == 6 || k == 7 || k == 9 || decide (10 ≤ k)
/-- must it be on a stream, must it not -/
def onS (k : Nat) : Bool := decide (k < 4) || k == 5 || k == 9
def onC (k : Nat) : Bool := k == 4 || k == 6 || k == 7
def stray (k : Nat) (stream : Int) : Bool := onS k && stream == 0 || onC k && stream != 0

/-! what may be -/
def Fm.k (f : Fm) : Nat := f.kind.toNat
def Fm.weighed (f : Fm) : Bool := hW f.k || hR f.k && f.prio
def headOk (f : Fm) : Bool := decide (0 ≤ f.kind) && decide (f.kind ≤ 255) && decide (0 ≤ f.stream) && decide (f.stream ≤ 2147483647) && !stray f.k f.stream
def only (f : Fm) : Bool :=
  (!f.fin || hE f.k) && (!f.eh || hH f.k) && (!f.ack || hA f.k) && (!f.prio || hR f.k) && (f.pay.isEmpty || hB f.k) && (f.flags == 0 || hF f.k) && (f.pad == 0 || hP f.k) && (f.code == 0 || hC f.k)
    && (f.list.isEmpty || hL f.k) && (f.last == 0 || hT f.k) && (f.inc == 0 || hI f.k) && (f.weighed || (f.depend == 0 && !f.excl && f.weight == 0))
def idsOk (l : List (Int × Nat)) : Bool := l.all fun s => decide (0 ≤ s.1) && decide (s.1 ≤ 65535)
def bounds (f : Fm) : Bool :=
  decide (0 ≤ f.pad) && decide (f.pad ≤ 256) && decide (0 ≤ f.flags) && decide (f.flags ≤ 255) && decide (0 ≤ f.last) && decide (f.last ≤ 2147483647) && (f.k != 5 || f.last != 0)
    && (!f.weighed || (decide (0 ≤ f.depend) && decide (f.depend ≤ 2147483647) && decide (1 ≤ f.weight) && decide (f.weight ≤ 256)))
    && idsOk f.list && (!f.ack || f.list.isEmpty) && (f.k != 6 || f.pay.length == 8) && (f.k != 8 || (decide (1 ≤ f.inc) && decide (f.inc ≤ 2147483647)))
def mayB (f : Fm) : Bool := headOk f && only f && bounds f
/-- what comes by the types of its numbers -/
def okF (f : Fm) : Prop := f.code < 4294967296 ∧ ∀ s ∈ f.list, s.2 < 4294967296

/-! what is written -/
def listB (l : List (Int × Nat)) : List UInt8 := l.flatMap fun s => be s.1.toNat 2 ++ be s.2 4
def padA (f : Fm) : List UInt8 := bif decide (0 < f.pad) then be (f.pad - 1).toNat 1 else []
def padZ (f : Fm) : List UInt8 := bif decide (0 < f.pad) then List.replicate (f.pad - 1).toNat 0 else []
def depN (f : Fm) : Nat := f.depend.toNat + (bif f.excl then 2147483648 else 0)
def prioB (f : Fm) : List UInt8 := bif f.prio || hW f.k then be (depN f) 4 ++ be (f.weight - 1).toNat 1 else []
def lastB (f : Fm) : List UInt8 := bif hT f.k then be f.last.toNat 4 else []
def codeB (f : Fm) : List UInt8 := bif hC f.k then be f.code 4 else []
def incB (f : Fm) : List UInt8 := bif hI f.k then be f.inc.toNat 4 else []
def mustB (f : Fm) : List UInt8 := prioB f ++ (lastB f ++ (codeB f ++ (incB f ++ listB f.list)))
def body (f : Fm) : List UInt8 := padA f ++ (mustB f ++ (f.pay ++ padZ f))
def flagsN (f : Fm) : Nat := f.flags.toNat + (bif f.fin || f.ack then 1 else 0) + (bif f.eh then 4 else 0) + (bif decide (0 < f.pad) then 8 else 0) + (bif f.prio then 32 else 0)
def headB (n k fl s : Nat) : List UInt8 := be n 3 ++ (be k 1 ++ (be fl 1 ++ be s 4))
def wr (f : Fm) : List UInt8 := headB (body f).length f.k (flagsN f) f.stream.toNat ++ body f
/-- the octets, and the error -/
def writeP (f : Fm) : List UInt8 × Int := bif mayB f then (bif decide ((body f).length ≤ 16777215) then (wr f, 0) else ([], 4)) else ([], 1)

/-! what is read -/
def padded (k fl : Nat) : Bool := hP k && fl.testBit 3
def withP (k fl : Nat) : Bool := hR k && fl.testBit 5
def withA (k fl : Nat) : Bool := hA k && fl.testBit 0
def base (k : Nat) : Nat := if k = 2 then 5 else if k = 3 then 4 else if k = 5 then 4 else if k = 6 then 8 else if k = 7 then 8 else if k = 8 then 4 else 0
def must (k fl : Nat) : Nat := base k + (bif padded k fl then 1 else 0) + (bif withP k fl then 5 else 0)
def just (k : Nat) : Bool := k == 2 || k == 3 || k == 6 || k == 8
def badSize (k fl n : Nat) : Bool := decide (n < must k fl) || just k && n != must k fl || k == 4 && (n % 6 != 0 || withA k fl && decide (0 < n))
def settsN : Nat → List UInt8 → List (Int × Nat)
  | 0, _ => []
  | n + 1, s => ((num (s.take 2) : Int), num ((s.drop 2).take 4)) :: settsN n (s.drop 6)
def low (n : Nat) : Nat := n % 2147483648
def hi31 (n : Nat) : Bool := decide (2147483648 ≤ n)
def unpad (pd : Bool) (s : List UInt8) : List UInt8 := bif pd then (s.drop 1).take (s.length - 1 - (s.headD 0).toNat) else s
/-- the frame, of a payload without its padding -/
def readB (k fl stream padN : Nat) (s : List UInt8) : Fm :=
  let w := withP k fl || hW k
  let s2 := bif w then s.drop 5 else s
  let s3 := bif hT k then s2.drop 4 else s2
  let s4 := bif hC k then s3.drop 4 else s3
  { kind := k, stream := stream, fin := hE k && fl.testBit 0, eh := hH k && fl.testBit 2, ack := withA k fl, prio := withP k fl,
    pay := bif hB k then s4 else [], flags := bif hF k then (fl : Int) else 0, pad := padN,
    depend := bif w then (low (num (s.take 4)) : Int) else 0, excl := w && hi31 (num (s.take 4)), weight := bif w then ((s.drop 4).headD 0).toNat + 1 else 0,
    code := bif hC k then num (s3.take 4) else 0, list := bif hL k then settsN (s4.length / 6) s4 else [], last := bif hT k then (low (num (s2.take 4)) : Int) else 0, inc := bif hI k then (low (num (s4.take 4)) : Int) else 0 }
def readP (k fl stream : Nat) (s : List UInt8) : Fm := readB k fl stream (bif padded k fl then (s.headD 0).toNat + 1 else 0) (unpad (padded k fl) s)
def unfitP (f : Fm) : Flt := bif f.kind == 5 && f.last == 0 then conF 1 else bif f.kind == 8 && f.inc == 0 then ⟨true, 1, f.stream⟩ else noF
def parseP (k fl stream : Nat) (s : List UInt8) : Fm × Flt :=
  bif stray k stream then (zeroF, conF 1)
  else bif badSize k fl s.length then (zeroF, ⟨true, 6, bif k == 2 then (stream : Int) else 0⟩)
  else bif padded k fl && decide (s.length - must k fl < (s.headD 0).toNat) then (zeroF, conF 1)
  else bif (unfitP (readP k fl stream s)).is then (zeroF, unfitP (readP k fl stream s)) else (readP k fl stream s, noF)

/-! a parser -/
structure Pst where
  held : List UInt8
  done : Bool
structure Out where
  f : Fm
  x : Flt
  ok : Bool
def hdN (s : List UInt8) : Nat := num (s.take 3)
def hdK (s : List UInt8) : Nat := num ((s.drop 3).take 1)
def hdF (s : List UInt8) : Nat := num ((s.drop 4).take 1)
def hdS (s : List UInt8) : Nat := low (num ((s.drop 5).take 4))
def clampM (n : Int) : Nat := (min (max n 16384) 16777215).toNat
def feedN (m : Nat) (p : Pst) (n : Nat) : Nat := bif p.done then 0 else min n (m + 9 - p.held.length)
def feedP (m : Nat) (p : Pst) (b : List UInt8) : Pst := ⟨p.held ++ b.take (feedN m p b.length), p.done⟩
/-- behind a fault of the connection nothing is held -/
def settle (o : Fm × Flt) (rest : List UInt8) : Out × Pst := (⟨o.1, o.2, true⟩, bif o.2.is && o.2.stream == 0 then ⟨[], true⟩ else ⟨rest, false⟩)
def none_ : Out := ⟨zeroF, noF, false⟩
def nextP (m : Nat) (p : Pst) : Out × Pst :=
  bif p.done || decide (p.held.length < 9) then (none_, p)
  else bif decide (m < hdN p.held) then settle (zeroF, conF 6) []
  else bif decide (p.held.length < 9 + hdN p.held) then (none_, p)
  else settle (parseP (hdK p.held) (hdF p.held) (hdS p.held) ((p.held.drop 9).take (hdN p.held))) (p.held.drop (9 + hdN p.held))
/-- what a parser is: done it holds nothing; it holds no more than a frame -/
def Pst.ok (p : Pst) : Prop := p.done = true → p.held = []
end Go.Frm

/- Frames: what is written is read as it was, what is read may be written. Nothing of the program. -/
namespace Go.Frm
set_option linter.unusedVariables false

theorem fl_bits (a b c d : Bool) (n : Nat) (h : n = (bif a then 1 else 0) + (bif b then 4 else 0) + (bif c then 8 else 0) + (bif d then 32 else 0)) :
    n.testBit 0 = a ∧ n.testBit 2 = b ∧ n.testBit 3 = c ∧ n.testBit 5 = d ∧ n < 256 := by
  subst h
  cases a <;> cases b <;> cases c <;> cases d <;> decide
theorem kinds (k : Nat) : k = 0 ∨ k = 1 ∨ k = 2 ∨ k = 3 ∨ k = 4 ∨ k = 5 ∨ k = 6 ∨ k = 7 ∨ k = 8 ∨ k = 9 ∨ 10 ≤ k := by omega
/-- the letters of a kind from 10 on -/
theorem hi_letters (k : Nat) (h : 10 ≤ k) : hE k = false ∧ hP k = false ∧ hH k = false ∧ hR k = false ∧ hW k = false ∧ hC k = false ∧ hA k = false ∧ hL k = false ∧ hT k = false ∧ hI k = false ∧ hF k = true ∧ hB k = true ∧ onS k = false ∧ onC k = false ∧ base k = 0 ∧ just k = false ∧ (k == 2) = false ∧ (k == 4) = false ∧ (k == 5) = false ∧ (k == 6) = false ∧ (k == 8) = false := by
  have q : ∀ j, j < 10 → (k == j) = false := fun j hj => by simp; omega
  have e : decide (10 ≤ k) = true := by simp; omega
  have e2 : decide (k < 4) = false := by simp; omega
  have q2 : ∀ j, j < 10 → (k = j) = False := fun j hj => by simp; omega
  simp [hE, hP, hH, hR, hW, hC, hA, hL, hT, hI, hF, hB, onS, onC, base, just, q, q2, e2, h]
/-- what may be, taken apart -/
structure Parts (f : Fm) : Prop where
  k0 : 0 ≤ f.kind
  k1 : f.kind ≤ 255
  s0 : 0 ≤ f.stream
  s1 : f.stream ≤ 2147483647
  st : stray f.k f.stream = false
  e : f.fin = true → hE f.k = true
  h : f.eh = true → hH f.k = true
  a : f.ack = true → hA f.k = true
  r : f.prio = true → hR f.k = true
  b : f.pay = [] ∨ hB f.k = true
  f' : f.flags = 0 ∨ hF f.k = true
  p : f.pad = 0 ∨ hP f.k = true
  c : f.code = 0 ∨ hC f.k = true
  l : f.list = [] ∨ hL f.k = true
  t : f.last = 0 ∨ hT f.k = true
  i : f.inc = 0 ∨ hI f.k = true
  w : f.weighed = true ∨ (f.depend = 0 ∧ f.excl = false ∧ f.weight = 0)
  p0 : 0 ≤ f.pad
  p1 : f.pad ≤ 256
  f0 : 0 ≤ f.flags
  f1 : f.flags ≤ 255
  l0 : 0 ≤ f.last
  l1 : f.last ≤ 2147483647
  l5 : f.k ≠ 5 ∨ f.last ≠ 0
  wb : f.weighed = false ∨ (0 ≤ f.depend ∧ f.depend ≤ 2147483647 ∧ 1 ≤ f.weight ∧ f.weight ≤ 256)
  ids : ∀ s ∈ f.list, 0 ≤ s.1 ∧ s.1 ≤ 65535
  al : f.ack = false ∨ f.list = []
  k6 : f.k ≠ 6 ∨ f.pay.length = 8
  k8 : f.k ≠ 8 ∨ (1 ≤ f.inc ∧ f.inc ≤ 2147483647)
theorem may_iff (f : Fm) : mayB f = true ↔ Parts f := by
  constructor
  · intro h
    simp only [mayB, headOk, only, bounds, idsOk, Bool.and_eq_true, Bool.or_eq_true, Bool.not_eq_true', decide_eq_true_eq, beq_iff_eq, bne_iff_ne, List.isEmpty_iff, List.all_eq_true] at h
    obtain ⟨⟨⟨⟨⟨⟨h1, h2⟩, h3⟩, h4⟩, h5⟩, ⟨⟨⟨⟨⟨⟨⟨⟨⟨⟨⟨o1, o2⟩, o3⟩, o4⟩, o5⟩, o6⟩, o7⟩, o8⟩, o9⟩, o10⟩, o11⟩, o12⟩⟩, ⟨⟨⟨⟨⟨⟨⟨⟨⟨⟨⟨b1, b2⟩, b3⟩, b4⟩, b5⟩, b6⟩, b7⟩, b8⟩, b9⟩, b10⟩, b11⟩, b12⟩⟩ := h
    refine ⟨h1, h2, h3, h4, h5, ?_, ?_, ?_, ?_, o5, o6, o7, o8, o9, o10, o11, ?_, b1, b2, b3, b4, b5, b6, b7, ?_, b9, b10, b11, b12⟩
    · exact fun h => o1.resolve_left (by simp [h])
    · exact fun h => o2.resolve_left (by simp [h])
    · exact fun h => o3.resolve_left (by simp [h])
    · exact fun h => o4.resolve_left (by simp [h])
    · exact o12.imp id (fun h => ⟨h.1.1, h.1.2, h.2⟩)
    · exact b8.imp id (fun h => ⟨h.1.1.1, h.1.1.2, h.1.2, h.2⟩)
  · intro h
    simp only [mayB, headOk, only, bounds, idsOk, Bool.and_eq_true, Bool.or_eq_true, Bool.not_eq_true', decide_eq_true_eq, beq_iff_eq, bne_iff_ne, List.isEmpty_iff, List.all_eq_true]
    have im : ∀ {a b : Bool}, (a = true → b = true) → a = false ∨ b = true := by intro a b h; cases a; exact .inl rfl; exact .inr (h rfl)
    exact ⟨⟨⟨⟨⟨⟨h.k0, h.k1⟩, h.s0⟩, h.s1⟩, h.st⟩, ⟨⟨⟨⟨⟨⟨⟨⟨⟨⟨⟨im h.e, im h.h⟩, im h.a⟩, im h.r⟩, h.b⟩, h.f'⟩, h.p⟩, h.c⟩, h.l⟩, h.t⟩, h.i⟩, h.w.imp id (fun h => ⟨⟨h.1, h.2.1⟩, h.2.2⟩)⟩⟩, ⟨⟨⟨⟨⟨⟨⟨⟨⟨⟨⟨h.p0, h.p1⟩, h.f0⟩, h.f1⟩, h.l0⟩, h.l1⟩, h.l5⟩, h.wb.imp id (fun h => ⟨⟨⟨h.1, h.2.1⟩, h.2.2.1⟩, h.2.2.2⟩)⟩, h.ids⟩, h.al⟩, h.k6⟩, h.k8⟩⟩

theorem be1 (v : Nat) : be v 1 = [UInt8.ofNat v] := rfl
theorem num1 (b : UInt8) : num [b] = b.toNat := by simp [num]
theorem headD_be1 {v : Nat} (h : v < 256) (r : List UInt8) : ((be v 1 ++ r).headD 0).toNat = v := by simp [be1]; omega
theorem take_be (v n : Nat) (r : List UInt8) : (be v n ++ r).take n = be v n := by rw [List.take_append_of_le_length (by rw [be_length]; omega), List.take_of_length_le (by rw [be_length]; omega)]
theorem drop_be (v n : Nat) (r : List UInt8) : (be v n ++ r).drop n = r := by rw [List.drop_append_of_le_length (by rw [be_length]; omega), List.drop_of_length_le (by rw [be_length]; omega), List.nil_append]
theorem take_all (v n : Nat) : (be v n).take n = be v n := List.take_of_length_le (by rw [be_length]; omega)
theorem listB_cons (s : Int × Nat) (l : List (Int × Nat)) : listB (s :: l) = be s.1.toNat 2 ++ (be s.2 4 ++ listB l) := by simp [listB]
theorem listB_length (l : List (Int × Nat)) : (listB l).length = 6 * l.length := by
  induction l with
  | nil => rfl
  | cons s l ih => rw [listB_cons]; simp only [List.length_append, be_length, ih, List.length_cons]; omega
theorem setts_listB (l : List (Int × Nat)) (h : ∀ s ∈ l, 0 ≤ s.1 ∧ s.1 ≤ 65535) (h2 : ∀ s ∈ l, s.2 < 4294967296) : settsN l.length (listB l) = l := by
  induction l with
  | nil => rfl
  | cons s l ih =>
    obtain ⟨a, b⟩ := s
    have h3 := h _ (List.mem_cons_self ..)
    have h4 := h2 _ (List.mem_cons_self ..)
    simp only at h3 h4
    rw [List.length_cons, listB_cons, settsN, take_be, drop_be, take_be, ← List.append_assoc, List.drop_append_of_le_length (by simp [be_length]), List.drop_of_length_le (by simp [be_length]), List.nil_append,
      ih (fun s hs => h s (List.mem_cons_of_mem _ hs)) (fun s hs => h2 s (List.mem_cons_of_mem _ hs)), num_be_eq (by simp; omega), num_be_eq (by simp; omega)]
    congr 2
    simp
    omega
theorem settsN_ids (n : Nat) (s : List UInt8) : ∀ e ∈ settsN n s, 0 ≤ e.1 ∧ e.1 ≤ 65535 := by
  induction n generalizing s with
  | zero => intro e he; cases he
  | succ n ih =>
    intro e he
    rcases List.mem_cons.1 he with rfl | he
    · have := num_take_lt s 2
      simp only
      omega
    · exact ih _ e he
theorem settsN_vals (n : Nat) (s : List UInt8) : ∀ e ∈ settsN n s, e.2 < 4294967296 := by
  induction n generalizing s with
  | zero => intro e he; cases he
  | succ n ih =>
    intro e he
    rcases List.mem_cons.1 he with rfl | he
    · exact num_take_lt _ 4
    · exact ih _ e he
theorem settsN_length (n : Nat) (s : List UInt8) : (settsN n s).length = n := by
  induction n generalizing s with
  | zero => rfl
  | succ n ih => simp [settsN, ih]
theorem settsN_snoc (n : Nat) (s : List UInt8) : settsN (n + 1) s = settsN n s ++ [((num ((s.drop (6 * n)).take 2) : Int), num ((s.drop (6 * n + 2)).take 4))] := by
  induction n generalizing s with
  | zero => simp [settsN]
  | succ n ih =>
    rw [settsN, ih, settsN]
    simp only [List.drop_drop, List.cons_append]
    rw [show 6 + 6 * n = 6 * (n + 1) by omega, show 6 + (6 * n + 2) = 6 * (n + 1) + 2 by omega]
theorem body_len (f : Fm) : (body f).length = (padA f).length + ((mustB f).length + (f.pay.length + (padZ f).length)) := by simp [body]
theorem padA_len (f : Fm) : (padA f).length = bif decide (0 < f.pad) then 1 else 0 := by unfold padA; cases decide (0 < f.pad) <;> simp [be_length]
theorem padZ_len (f : Fm) : (padZ f).length = bif decide (0 < f.pad) then (f.pad - 1).toNat else 0 := by unfold padZ; cases decide (0 < f.pad) <;> simp
theorem unpad_body (f : Fm) (p1 : f.pad ≤ 256) : unpad (decide (0 < f.pad)) (body f) = mustB f ++ f.pay := by
  by_cases h : 0 < f.pad
  · have e : decide (0 < f.pad) = true := by simp [h]
    have hA : padA f = be (f.pad - 1).toNat 1 := by simp [padA, h]
    have hl : (body f).length = 1 + ((mustB f).length + (f.pay.length + (f.pad - 1).toNat)) := by rw [body_len, padA_len, padZ_len, e]; rfl
    have hh : ((body f).headD 0).toNat = (f.pad - 1).toNat := by rw [body, hA, headD_be1 (by omega)]
    unfold unpad
    rw [e, cond_true, hl, hh, body, hA, drop_be, ← List.append_assoc, List.take_append_of_le_length (by simp; omega), List.take_of_length_le (by simp; omega)]
  · have e : decide (0 < f.pad) = false := by simp; omega
    simp [unpad, body, padA, padZ, e]
theorem pad_ok (f : Fm) (p1 : f.pad ≤ 256) (h : 0 < f.pad) (m : Nat) (hm : m ≤ 1 + (mustB f).length + f.pay.length) : ¬ (body f).length - m < ((body f).headD 0).toNat := by
  have e : decide (0 < f.pad) = true := by simp [h]
  have hA : padA f = be (f.pad - 1).toNat 1 := by simp [padA, h]
  have hl : (body f).length = 1 + ((mustB f).length + (f.pay.length + (f.pad - 1).toNat)) := by rw [body_len, padA_len, padZ_len, e]; rfl
  have hh : ((body f).headD 0).toNat = (f.pad - 1).toNat := by rw [body, hA, headD_be1 (by omega)]
  omega
end Go.Frm

/- Frames: what is written is read as it was. Nothing of the program. -/
namespace Go.Frm
set_option linter.unusedVariables false

theorem hEA (k : Nat) (h : hE k = true) : hA k = false := by
  simp [hE] at h; rcases h with rfl | rfl <;> rfl
theorem hAE (k : Nat) (h : hA k = true) : hE k = false := by
  simp [hA] at h; rcases h with rfl | rfl <;> rfl
theorem hF_hi (k : Nat) (h : hF k = true) : 10 ≤ k := by simpa [hF] using h
theorem hB_no (k : Nat) (h : hB k = true) : hI k = false ∧ hL k = false ∧ hW k = false := by
  rcases kinds k with rfl | rfl | rfl | rfl | rfl | rfl | rfl | rfl | rfl | rfl | hk
  all_goals first
    | (simp [hB, hI, hL, hW] at h ⊢; done)
    | (obtain ⟨_, _, _, _, h5, _, _, h8, _, h10, _⟩ := hi_letters k hk; exact ⟨h10, h8, h5⟩)
theorem hL_no (k : Nat) (h : hL k = true) : hI k = false ∧ hB k = false ∧ k = 4 := by
  simp [hL] at h; subst h; exact ⟨rfl, rfl, rfl⟩
theorem hI_k (k : Nat) (h : hI k = true) : k = 8 := by simpa [hI] using h
theorem hR_k (k : Nat) (h : hR k = true) : k = 1 := by simpa [hR] using h
theorem Parts.no {a b : Bool} (h : a = true → b = true) (hb : b = false) : a = false := by
  cases a with
  | false => rfl
  | true => have := h rfl; rw [hb] at this; cases this
structure Bits (f : Fm) : Prop where
  pd : padded f.k (flagsN f) = decide (0 < f.pad)
  pr : withP f.k (flagsN f) = f.prio
  ak : withA f.k (flagsN f) = f.ack
  en : (hE f.k && (flagsN f).testBit 0) = f.fin
  eh : (hH f.k && (flagsN f).testBit 2) = f.eh
  hi : hF f.k = true → ((flagsN f : Nat) : Int) = f.flags
  lt : flagsN f < 256
theorem bits_of (f : Fm) (P : Parts f) : Bits f := by
  by_cases hk : 10 ≤ f.k
  · obtain ⟨h1, h2, h3, h4, h5, h6, h7, h8, h9, h10, h11, h12, h13, h14, h15, h16, _⟩ := hi_letters f.k hk
    have e1 := Parts.no P.e h1
    have e2 := Parts.no P.h h3
    have e3 := Parts.no P.a h7
    have e4 := Parts.no P.r h4
    have e5 : f.pad = 0 := P.p.resolve_right (by simp [h2])
    have e6 : flagsN f = f.flags.toNat := by simp [flagsN, e1, e2, e3, e4, e5]
    have := P.f0
    have := P.f1
    refine ⟨?_, ?_, ?_, ?_, ?_, fun _ => by omega, by omega⟩
    · simp [padded, h2, e5]
    · simp [withP, h4, e4]
    · simp [withA, h7, e3]
    · simp [h1, e1]
    · simp [h3, e2]
  · have hF0 : hF f.k = false := by simp [hF]; omega
    have e0 : f.flags = 0 := P.f'.resolve_right (by simp [hF0])
    obtain ⟨t0, t2, t3, t5, tl⟩ := fl_bits (f.fin || f.ack) f.eh (decide (0 < f.pad)) f.prio (flagsN f) (by simp [flagsN, e0])
    refine ⟨?_, ?_, ?_, ?_, ?_, fun h => (by rw [hF0] at h; cases h), tl⟩
    · rw [padded, t3]
      cases h : hP f.k with
      | true => simp
      | false => have : f.pad = 0 := P.p.resolve_right (by simp [h]); simp [this]
    · rw [withP, t5]
      cases h : hR f.k with
      | true => simp
      | false => simp [Parts.no P.r h]
    · rw [withA, t0]
      cases h : hA f.k with
      | true => simp [Parts.no P.e (hAE _ h)]
      | false => simp [Parts.no P.a h]
    · rw [t0]
      cases h : hE f.k with
      | true => simp [Parts.no P.a (hEA _ h)]
      | false => simp [Parts.no P.e h]
    · rw [t2]
      cases h : hH f.k with
      | true => simp
      | false => simp [Parts.no P.h h]
theorem weighed_eq (f : Fm) (P : Parts f) : f.weighed = (f.prio || hW f.k) := by
  unfold Fm.weighed
  cases h : f.prio with
  | false => simp
  | true => simp [P.r h]
theorem drop_be' (b : Bool) (v n : Nat) (r : List UInt8) : (bif b then ((bif b then be v n else []) ++ r).drop n else (bif b then be v n else []) ++ r) = r := by
  cases b
  · rfl
  · exact drop_be v n r
theorem prio_drop (f : Fm) (r : List UInt8) : (bif (f.prio || hW f.k) then (prioB f ++ r).drop 5 else prioB f ++ r) = r := by
  unfold prioB
  cases (f.prio || hW f.k)
  · rfl
  · show List.drop 5 ((be (depN f) 4 ++ be (f.weight - 1).toNat 1) ++ r) = r
    rw [List.drop_append_of_le_length (by simp [be_length]), List.drop_of_length_le (by simp [be_length]), List.nil_append]
theorem depN_lt (f : Fm) (h0 : 0 ≤ f.depend) (h1 : f.depend ≤ 2147483647) : depN f < 4294967296 ∧ ((low (depN f) : Nat) : Int) = f.depend ∧ hi31 (depN f) = f.excl := by
  unfold depN low hi31
  cases f.excl
  · simp only [cond_false]
    refine ⟨by omega, by omega, by simp; omega⟩
  · simp only [cond_true]
    refine ⟨by omega, by omega, by simp⟩
theorem readB_eq (f : Fm) (P : Parts f) (hc : okF f) : readB f.k (flagsN f) f.stream.toNat f.pad.toNat (mustB f ++ f.pay) = f := by
  have B := bits_of f P
  have hw := B.pr
  have e2 := prio_drop f (lastB f ++ (codeB f ++ (incB f ++ (listB f.list ++ f.pay))))
  have e3 : (bif hT f.k then (lastB f ++ (codeB f ++ (incB f ++ (listB f.list ++ f.pay)))).drop 4 else lastB f ++ (codeB f ++ (incB f ++ (listB f.list ++ f.pay)))) = _ := drop_be' (hT f.k) f.last.toNat 4 _
  have e4 : (bif hC f.k then (codeB f ++ (incB f ++ (listB f.list ++ f.pay))).drop 4 else codeB f ++ (incB f ++ (listB f.list ++ f.pay))) = _ := drop_be' (hC f.k) f.code 4 _
  have em : mustB f ++ f.pay = prioB f ++ (lastB f ++ (codeB f ++ (incB f ++ (listB f.list ++ f.pay)))) := by simp [mustB]
  have q1 : ((f.k : Nat) : Int) = f.kind := by have := P.k0; unfold Fm.k; omega
  have q2 : ((f.stream.toNat : Nat) : Int) = f.stream := by have := P.s0; omega
  have q3 : (bif hB f.k then incB f ++ (listB f.list ++ f.pay) else []) = f.pay := by
    cases h : hB f.k with
    | false => exact (P.b.resolve_right (by simp [h])).symm
    | true =>
      obtain ⟨h1, h2, h3⟩ := hB_no _ h
      have : f.list = [] := P.l.resolve_right (by simp [h2])
      simp [incB, h1, this, listB]
  have q4 : (bif hF f.k then ((flagsN f : Nat) : Int) else 0) = f.flags := by
    cases h : hF f.k with
    | false => exact (P.f'.resolve_right (by simp [h])).symm
    | true => exact B.hi h
  have q5 : ((f.pad.toNat : Nat) : Int) = f.pad := by have := P.p0; omega
  have q6 : (bif (f.prio || hW f.k) then ((low (num ((prioB f ++ (lastB f ++ (codeB f ++ (incB f ++ (listB f.list ++ f.pay))))).take 4)) : Nat) : Int) else 0) = f.depend ∧ ((f.prio || hW f.k) && hi31 (num ((prioB f ++ (lastB f ++ (codeB f ++ (incB f ++ (listB f.list ++ f.pay))))).take 4))) = f.excl ∧ (bif (f.prio || hW f.k) then ((((prioB f ++ (lastB f ++ (codeB f ++ (incB f ++ (listB f.list ++ f.pay))))).drop 4).headD 0).toNat : Int) + 1 else 0) = f.weight := by
    have hwq := weighed_eq f P
    cases h : (f.prio || hW f.k) with
    | false =>
      rw [h] at hwq
      obtain ⟨a, b, c⟩ := P.w.resolve_left (by simp [hwq])
      simp [a, b, c]
    | true =>
      rw [h] at hwq
      obtain ⟨a, b, c, d⟩ := P.wb.resolve_left (by simp [hwq])
      obtain ⟨x, y, z⟩ := depN_lt f a b
      have ep : prioB f = be (depN f) 4 ++ be (f.weight - 1).toNat 1 := by unfold prioB; rw [h]; rfl
      rw [ep, List.append_assoc, take_be, drop_be, num_be_eq (by simpa using x), headD_be1 (by omega)]
      refine ⟨by simpa using y, by simpa using z, ?_⟩
      simp only [cond_true]
      omega
  have q7 : (bif hC f.k then num ((codeB f ++ (incB f ++ (listB f.list ++ f.pay))).take 4) else 0) = f.code := by
    cases h : hC f.k with
    | false => exact (P.c.resolve_right (by simp [h])).symm
    | true => simp only [codeB, h, cond_true]; rw [take_be, num_be_eq (by simpa using hc.1)]
  have q8 : (bif hL f.k then settsN ((incB f ++ (listB f.list ++ f.pay)).length / 6) (incB f ++ (listB f.list ++ f.pay)) else []) = f.list := by
    cases h : hL f.k with
    | false => exact (P.l.resolve_right (by simp [h])).symm
    | true =>
      obtain ⟨h1, h2, h3⟩ := hL_no _ h
      have : f.pay = [] := P.b.resolve_right (by simp [h2])
      have e : incB f ++ (listB f.list ++ f.pay) = listB f.list := by simp [incB, h1, this]
      rw [e, listB_length, Nat.mul_div_cancel_left _ (by omega)]
      exact setts_listB f.list P.ids hc.2
  have q9 : (bif hT f.k then ((low (num ((lastB f ++ (codeB f ++ (incB f ++ (listB f.list ++ f.pay)))).take 4)) : Nat) : Int) else 0) = f.last := by
    cases h : hT f.k with
    | false => exact (P.t.resolve_right (by simp [h])).symm
    | true =>
      have := P.l0
      have := P.l1
      simp only [lastB, h, cond_true]; rw [take_be, num_be_eq (by simp; omega)]
      unfold low
      omega
  have q10 : (bif hI f.k then ((low (num ((incB f ++ (listB f.list ++ f.pay)).take 4)) : Nat) : Int) else 0) = f.inc := by
    cases h : hI f.k with
    | false => exact (P.i.resolve_right (by simp [h])).symm
    | true =>
      obtain ⟨a, b⟩ := P.k8.resolve_left (by simp [hI_k _ h])
      simp only [incB, h, cond_true]; rw [take_be, num_be_eq (by simp; omega)]
      unfold low
      omega
  rw [em]
  simp only [readB, B.pr, B.ak, B.en, B.eh, e2, e3, e4, q1, q2, q3, q4, q5, q6.1, q6.2.1, q6.2.2, q7, q8, q9, q10]
theorem mustB_len (f : Fm) : (mustB f).length = (bif f.prio || hW f.k then 5 else 0) + (bif hT f.k then 4 else 0) + (bif hC f.k then 4 else 0) + (bif hI f.k then 4 else 0) + 6 * f.list.length := by
  simp only [mustB, List.length_append, listB_length, prioB, lastB, codeB, incB]
  cases (f.prio || hW f.k) <;> cases hT f.k <;> cases hC f.k <;> cases hI f.k <;> simp [be_length] <;> omega
theorem size_ok (f : Fm) (P : Parts f) : badSize f.k (flagsN f) (body f).length = false ∧ must f.k (flagsN f) ≤ (bif decide (0 < f.pad) then 1 else 0) + (mustB f).length + f.pay.length := by
  have B := bits_of f P
  have hl := body_len f
  rw [padA_len, padZ_len, mustB_len] at hl
  rw [mustB_len]
  have hm : must f.k (flagsN f) = base f.k + (bif decide (0 < f.pad) then 1 else 0) + (bif f.prio then 5 else 0) := by rw [must, B.pd, B.pr]
  unfold badSize
  rw [hm, B.ak]
  generalize (body f).length = bn at hl ⊢
  rcases kinds f.k with hk | hk | hk | hk | hk | hk | hk | hk | hk | hk | hk
  all_goals first
    | (have : f.k ≠ 10 := by omega
       have hp := P.p
       have hr := P.r
       have ha := P.a
       have hb := P.b
       have hll := P.l
       have h6 := P.k6
       have hal := P.al
       simp only [hk, hP, hR, hW, hT, hC, hI, hA, hB, hL, base, just] at hl hp hr ha hb hll h6 hal ⊢
       simp at hl hp hr ha hb hll h6 hal ⊢
       first
         | (cases h1 : f.prio <;> cases h2 : decide (0 < f.pad) <;> simp_all <;> omega)
         | (cases h1 : f.prio <;> cases h2 : decide (0 < f.pad) <;> cases h3 : f.ack <;> simp_all <;> omega))
    | (obtain ⟨h1, h2, h3, h4, h5, h6, h7, h8, h9, h10, h11, h12, h13, h14, h15, h16, h17, h18, _⟩ := hi_letters f.k hk
       have e5 : f.pad = 0 := P.p.resolve_right (by simp [h2])
       have e4 := Parts.no P.r h4
       simp [h15, h16, h18, e5, e4])
theorem parse_wr (f : Fm) (h : mayB f = true) (hc : okF f) : parseP f.k (flagsN f) f.stream.toNat (body f) = (f, noF) := by
  have P := (may_iff f).1 h
  have B := bits_of f P
  obtain ⟨hs, hm⟩ := size_ok f P
  have q2 : ((f.stream.toNat : Nat) : Int) = f.stream := by have := P.s0; omega
  have e1 : stray f.k ((f.stream.toNat : Nat) : Int) = false := by rw [q2]; exact P.st
  have e3 : (padded f.k (flagsN f) && decide ((body f).length - must f.k (flagsN f) < ((body f).headD 0).toNat)) = false := by
    rw [B.pd]
    by_cases hp : 0 < f.pad
    · rw [decide_eq_true hp] at hm
      simp only [cond_true] at hm
      rw [decide_eq_false (pad_ok f P.p1 hp _ hm), Bool.and_false]
    · rw [decide_eq_false hp, Bool.false_and]
  have e4 : readP f.k (flagsN f) f.stream.toNat (body f) = f := by
    unfold readP
    have ep : (bif padded f.k (flagsN f) then ((body f).headD 0).toNat + 1 else 0) = f.pad.toNat := by
      rw [B.pd]
      have := P.p0
      by_cases hp : 0 < f.pad
      · have hA : padA f = be (f.pad - 1).toNat 1 := by simp [padA, hp]
        have := P.p1
        rw [decide_eq_true hp, cond_true, body, hA, headD_be1 (by omega)]
        omega
      · rw [decide_eq_false hp, cond_false]; omega
    rw [ep, B.pd, unpad_body f P.p1]
    exact readB_eq f P hc
  have e5 : unfitP f = noF := by
    unfold unfitP
    have k0 := P.k0
    have a5 : (f.kind == 5 && f.last == 0) = false := by
      rcases P.l5 with h | h
      · have : ¬ f.kind = 5 := by unfold Fm.k at h; omega
        simp [this]
      · simp [h]
    have a8 : (f.kind == 8 && f.inc == 0) = false := by
      rcases P.k8 with h | h
      · have : ¬ f.kind = 8 := by unfold Fm.k at h; omega
        simp [this]
      · have : ¬ f.inc = 0 := by omega
        simp [this]
    rw [a5, a8]; rfl
  unfold parseP
  rw [e1, hs, e3, e4, e5]
  rfl
end Go.Frm

/- Frames: in which pieces octets come does not matter; frames behind one another. Nothing of the program. -/
namespace Go.Frm
set_option linter.unusedVariables false

theorem hd_app (a b : List UInt8) (h : 9 ≤ a.length) : hdN (a ++ b) = hdN a ∧ hdK (a ++ b) = hdK a ∧ hdF (a ++ b) = hdF a ∧ hdS (a ++ b) = hdS a := by
  unfold hdN hdK hdF hdS
  rw [List.take_append_of_le_length (by omega), List.drop_append_of_le_length (by omega), List.drop_append_of_le_length (by omega), List.drop_append_of_le_length (by omega),
    List.take_append_of_le_length (by rw [List.length_drop]; omega), List.take_append_of_le_length (by rw [List.length_drop]; omega), List.take_append_of_le_length (by rw [List.length_drop]; omega)]
  exact ⟨rfl, rfl, rfl, rfl⟩
/-- the ways of Next -/
theorem next_ways (m : Nat) (st : Pst) :
    ((st.done = true ∨ st.held.length < 9) ∧ nextP m st = (none_, st)) ∨
    (st.done = false ∧ 9 ≤ st.held.length ∧ m < hdN st.held ∧ nextP m st = (⟨zeroF, conF 6, true⟩, ⟨[], true⟩)) ∨
    (st.done = false ∧ 9 ≤ st.held.length ∧ hdN st.held ≤ m ∧ st.held.length < 9 + hdN st.held ∧ nextP m st = (none_, st)) ∨
    (st.done = false ∧ 9 + hdN st.held ≤ st.held.length ∧ hdN st.held ≤ m ∧ nextP m st = settle (parseP (hdK st.held) (hdF st.held) (hdS st.held) ((st.held.drop 9).take (hdN st.held))) (st.held.drop (9 + hdN st.held))) := by
  cases hd : st.done with
  | true => exact .inl ⟨.inl rfl, by unfold nextP; rw [hd]; rfl⟩
  | false =>
    by_cases hs : st.held.length < 9
    · exact .inl ⟨.inr hs, by unfold nextP; rw [decide_eq_true hs, Bool.or_true]; rfl⟩
    · by_cases hm : m < hdN st.held
      · exact .inr (.inl ⟨rfl, by omega, hm, by unfold nextP; rw [hd, decide_eq_false hs, decide_eq_true hm]; rfl⟩)
      · by_cases hz : st.held.length < 9 + hdN st.held
        · exact .inr (.inr (.inl ⟨rfl, by omega, by omega, hz, by unfold nextP; rw [hd, decide_eq_false hs, decide_eq_false hm, decide_eq_true hz]; rfl⟩))
        · exact .inr (.inr (.inr ⟨rfl, by omega, by omega, by unfold nextP; rw [hd, decide_eq_false hs, decide_eq_false hm, decide_eq_false hz]; rfl⟩))
theorem next_app (m : Nat) (st : Pst) (b : List UInt8) (hd : st.done = false) (hok : (nextP m st).1.ok = true) :
    nextP m ⟨st.held ++ b, false⟩ = ((nextP m st).1, bif (nextP m st).2.done then ⟨[], true⟩ else ⟨(nextP m st).2.held ++ b, false⟩) := by
  rcases next_ways m st with ⟨_, h⟩ | ⟨_, h9, h1, h⟩ | ⟨_, _, _, _, h⟩ | ⟨_, h9, h1, h⟩
  · rw [h] at hok; cases hok
  · rw [h]
    obtain ⟨a1, a2, a3, a4⟩ := hd_app st.held b h9
    unfold nextP
    simp only [Bool.false_or]
    rw [decide_eq_false (by rw [List.length_append]; omega), a1, decide_eq_true h1]
    rfl
  · rw [h] at hok; cases hok
  · rw [h]
    obtain ⟨a1, a2, a3, a4⟩ := hd_app st.held b (by omega)
    unfold nextP
    simp only [Bool.false_or]
    rw [decide_eq_false (by rw [List.length_append]; omega), a1, a2, a3, a4, decide_eq_false (by omega), decide_eq_false (by rw [List.length_append]; omega),
      List.drop_append_of_le_length (by omega), List.drop_append_of_le_length (by omega), List.take_append_of_le_length (by rw [List.length_drop]; omega)]
    simp only [cond_false, settle]
    generalize parseP (hdK st.held) (hdF st.held) (hdS st.held) ((st.held.drop 9).take (hdN st.held)) = o
    cases (o.2.is && o.2.stream == 0) <;> rfl
theorem next_less (m : Nat) (st : Pst) (hok : (nextP m st).1.ok = true) : st.done = false ∧ (nextP m st).2.held.length + 9 ≤ st.held.length ∧ (nextP m st).2.ok := by
  rcases next_ways m st with ⟨_, h⟩ | ⟨hd, h9, h1, h⟩ | ⟨_, _, _, _, h⟩ | ⟨hd, h9, h1, h⟩
  · rw [h] at hok; cases hok
  · rw [h]; exact ⟨hd, by simpa using h9, fun _ => rfl⟩
  · rw [h] at hok; cases hok
  · rw [h]
    refine ⟨hd, ?_, ?_⟩
    · simp only [settle]
      generalize parseP (hdK st.held) (hdF st.held) (hdS st.held) ((st.held.drop 9).take (hdN st.held)) = o
      cases (o.2.is && o.2.stream == 0)
      · simp only [cond_false, List.length_drop]; omega
      · simp only [cond_true, List.length_nil]; omega
    · simp only [settle, Pst.ok]
      generalize parseP (hdK st.held) (hdF st.held) (hdS st.held) ((st.held.drop 9).take (hdN st.held)) = o
      cases (o.2.is && o.2.stream == 0)
      · intro h; cases h
      · intro _; rfl
theorem next_no (m : Nat) (st : Pst) (hok : (nextP m st).1.ok = false) : nextP m st = (none_, st) ∧ (st.done = true ∨ st.held.length < m + 9) := by
  rcases next_ways m st with ⟨hd, h⟩ | ⟨hd, h9, h1, h⟩ | ⟨_, _, _, h2, h⟩ | ⟨hd, h9, h1, h⟩
  · exact ⟨h, hd.imp id (fun x => by omega)⟩
  · rw [h] at hok; cases hok
  · exact ⟨h, .inr (by omega)⟩
  · rw [h] at hok; cases hok

/-- all that is told; what is left -/
def drainP (m : Nat) : Nat → Pst → List (Fm × Flt) × Pst
  | 0, st => ([], st)
  | n + 1, st => bif (nextP m st).1.ok then (((nextP m st).1.f, (nextP m st).1.x) :: (drainP m n (nextP m st).2).1, (drainP m n (nextP m st).2).2) else ([], st)
def drain (m : Nat) (st : Pst) : List (Fm × Flt) × Pst := drainP m (st.held.length + 1) st
theorem drainP_fuel (m : Nat) : ∀ (n n' : Nat) (st : Pst), st.held.length < n → st.held.length < n' → drainP m n st = drainP m n' st
  | 0, _, _, h, _ => absurd h (by omega)
  | _ + 1, 0, _, _, h => absurd h (by omega)
  | n + 1, n' + 1, st, h, h' => by
    unfold drainP
    cases hok : (nextP m st).1.ok with
    | false => rfl
    | true =>
      have := (next_less m st hok).2.1
      rw [drainP_fuel m n n' _ (by omega) (by omega)]
theorem drain_no (m : Nat) (st : Pst) (h : (nextP m st).1.ok = false) : drain m st = ([], st) := by
  unfold drain drainP; rw [h]; rfl
theorem drain_yes (m : Nat) (st : Pst) (h : (nextP m st).1.ok = true) : drain m st = (((nextP m st).1.f, (nextP m st).1.x) :: (drain m (nextP m st).2).1, (drain m (nextP m st).2).2) := by
  have := (next_less m st h).2.1
  unfold drain
  rw [drainP, h, cond_true, drainP_fuel m st.held.length ((nextP m st).2.held.length + 1) _ (by omega) (by omega)]
theorem done_ok (m : Nat) (st : Pst) (h : st.done = true) : (nextP m st).1.ok = false := by unfold nextP; rw [h]; rfl
/-- nothing more is told -/
structure Dry (m : Nat) (st : Pst) : Prop where
  no : (nextP m st).1.ok = false
  ok : st.ok
theorem drain_dry (m : Nat) : ∀ (n : Nat) (st : Pst), st.held.length < n → st.ok → Dry m (drain m st).2
  | 0, _, h, _ => absurd h (by omega)
  | n + 1, st, h, hok => by
    cases hn : (nextP m st).1.ok with
    | false => rw [drain_no m st hn]; exact ⟨hn, hok⟩
    | true =>
      obtain ⟨_, h2, h3⟩ := next_less m st hn
      rw [drain_yes m st hn]
      exact drain_dry m n _ (by omega) h3
theorem drain_app (m : Nat) (b : List UInt8) : ∀ (n : Nat) (st : Pst), st.held.length < n → st.done = false →
    drain m ⟨st.held ++ b, false⟩ = bif (drain m st).2.done then ((drain m st).1, ⟨[], true⟩) else ((drain m st).1 ++ (drain m ⟨(drain m st).2.held ++ b, false⟩).1, (drain m ⟨(drain m st).2.held ++ b, false⟩).2)
  | 0, _, h, _ => absurd h (by omega)
  | n + 1, st, h, hd => by
    cases hn : (nextP m st).1.ok with
    | false => rw [drain_no m st hn, hd]; rfl
    | true =>
      obtain ⟨_, h2, h3⟩ := next_less m st hn
      have ha := next_app m st b hd hn
      have hy : (nextP m ⟨st.held ++ b, false⟩).1.ok = true := by rw [ha]; exact hn
      rw [drain_yes m st hn, drain_yes m ⟨st.held ++ b, false⟩ hy, ha]
      simp only
      cases hdn : (nextP m st).2.done with
      | true =>
        have e1 : (nextP m ⟨[], true⟩).1.ok = false := done_ok m _ rfl
        have e2 := drain_no m (nextP m st).2 (done_ok m _ hdn)
        rw [e2, hdn]
        simp only [cond_true]
        rw [drain_no m _ e1]
      | false =>
        have ih := drain_app m b n (nextP m st).2 (by omega) hdn
        simp only [cond_false]
        rw [ih]
        cases (drain m (nextP m st).2).2.done
        · rfl
        · rfl
/-- octets that are fed as there is room for them, and what is told of them -/
def turnP (m : Nat) : Nat → Pst → List UInt8 → List (Fm × Flt) × Pst
  | 0, st, _ => ([], st)
  | n + 1, st, b => bif decide (b.length - feedN m st b.length = 0) || decide (feedN m st b.length = 0) then drain m (feedP m st b)
    else ((drain m (feedP m st b)).1 ++ (turnP m n (drain m (feedP m st b)).2 (b.drop (feedN m st b.length))).1, (turnP m n (drain m (feedP m st b)).2 (b.drop (feedN m st b.length))).2)
theorem Pst.eta {st : Pst} (h : st.done = false) : st = ⟨st.held, false⟩ := by cases st; simp only at h; subst h; rfl
theorem turn_spec (m : Nat) : ∀ (n : Nat) (st : Pst) (b : List UInt8), b.length < n → Dry m st → turnP m n st b = bif st.done then ([], st) else drain m ⟨st.held ++ b, false⟩
  | 0, _, _, h, _ => absurd h (by omega)
  | n + 1, st, b, h, D => by
    unfold turnP
    cases hd : st.done with
    | true =>
      have e1 : feedN m st b.length = 0 := by unfold feedN; rw [hd]; rfl
      have e2 : feedP m st b = st := by
        unfold feedP; rw [e1, List.take_zero, List.append_nil]
      rw [e1, e2, decide_eq_true (rfl : 0 = 0), Bool.or_true, cond_true, drain_no m st D.no]; rfl
    | false =>
      have hl : st.held.length < m + 9 := by
        rcases (next_no m st D.no).2 with h | h
        · rw [hd] at h; cases h
        · exact h
      have e0 : feedN m st b.length = min b.length (m + 9 - st.held.length) := by unfold feedN; rw [hd]; rfl
      have e1 : feedP m st b = ⟨st.held ++ b.take (feedN m st b.length), false⟩ := by unfold feedP; rw [hd]
      rw [e1]
      generalize hk : feedN m st b.length = k at *
      by_cases hb : b.length ≤ k
      · have : decide (b.length - k = 0) = true := by simp; omega
        rw [this, Bool.true_or, cond_true, List.take_of_length_le hb]; rfl
      · have h1 : decide (b.length - k = 0) = false := by simp; omega
        have h2 : decide (k = 0) = false := by simp; omega
        rw [h1, h2]
        simp only [Bool.or_false, cond_false]
        have hdry := drain_dry m (st.held.length + (b.take k).length + 1) ⟨st.held ++ b.take k, false⟩ (by simp) (fun h => by cases h)
        have ih := turn_spec m n (drain m ⟨st.held ++ b.take k, false⟩).2 (b.drop k) (by rw [List.length_drop]; omega) hdry
        have ha := drain_app m (b.drop k) (st.held.length + (b.take k).length + 1) ⟨st.held ++ b.take k, false⟩ (by simp) rfl
        simp only at ha
        rw [List.append_assoc, List.take_append_drop] at ha
        rw [ih, ha]
        cases hq : (drain m ⟨st.held ++ b.take k, false⟩).2.done with
        | true =>
          have h0 := hdry.ok hq
          simp only [cond_true, List.append_nil]
          have : (drain m ⟨st.held ++ b.take k, false⟩).2 = ⟨[], true⟩ := by
            generalize (drain m ⟨st.held ++ b.take k, false⟩).2 = q at *
            cases q; simp only at hq h0; rw [hq, h0]
          rw [this]
        | false => rfl
def toldP (m : Nat) : Pst → List (List UInt8) → List (Fm × Flt) × Pst
  | st, [] => ([], st)
  | st, b :: l => ((turnP m (b.length + 1) st b).1 ++ (toldP m (turnP m (b.length + 1) st b).2 l).1, (toldP m (turnP m (b.length + 1) st b).2 l).2)
theorem turn_dry (m : Nat) (st : Pst) (b : List UInt8) (D : Dry m st) : Dry m (turnP m (b.length + 1) st b).2 := by
  rw [turn_spec m (b.length + 1) st b (by omega) D]
  cases hd : st.done with
  | true => exact D
  | false => exact drain_dry m ((st.held ++ b).length + 1) _ (by simp) (fun h => by cases h)
theorem told_spec (m : Nat) : ∀ (l : List (List UInt8)) (st : Pst), Dry m st → toldP m st l = bif st.done then ([], st) else drain m ⟨st.held ++ l.flatten, false⟩
  | [], st, D => by
    unfold toldP
    cases hd : st.done with
    | true => rfl
    | false => rw [cond_false, List.flatten_nil, List.append_nil, ← Pst.eta hd, drain_no m st D.no]
  | b :: l, st, D => by
    unfold toldP
    have hD := turn_dry m st b D
    rw [told_spec m l _ hD]
    have hT := turn_spec m (b.length + 1) st b (by omega) D
    rw [hT] at hD ⊢
    cases hd : st.done with
    | true => rw [hd] at hD; simp only [cond_true] at hD ⊢; rw [hd]; rfl
    | false =>
      rw [hd] at hD
      simp only [cond_false] at hD ⊢
      rw [List.flatten_cons, ← List.append_assoc]
      have ha := drain_app m l.flatten ((st.held ++ b).length + 1) ⟨st.held ++ b, false⟩ (by simp) rfl
      simp only at ha
      rw [ha]
      cases hq : (drain m ⟨st.held ++ b, false⟩).2.done with
      | true =>
        have h0 := hD.ok hq
        simp only [cond_true, List.append_nil]
        have : (drain m ⟨st.held ++ b, false⟩).2 = ⟨[], true⟩ := by
          generalize (drain m ⟨st.held ++ b, false⟩).2 = q at *
          cases q; simp only at hq h0; rw [hq, h0]
        rw [this]
      | false => rfl
theorem new_dry (m : Nat) : Dry m ⟨[], false⟩ := ⟨rfl, fun h => by cases h⟩
/-- in which pieces octets come does not matter -/
theorem told_pieces (m : Nat) (l : List (List UInt8)) : toldP m ⟨[], false⟩ l = drain m ⟨l.flatten, false⟩ := by
  rw [told_spec m l _ (new_dry m)]; rfl

/-! frames that were written, behind one another -/
theorem headB_len (n k fl s : Nat) : (headB n k fl s).length = 9 := by simp [headB, be_length]
theorem head_parts (n k fl s : Nat) (hn : n < 16777216) (hk : k < 256) (hf : fl < 256) (hs : s < 2147483648) (r : List UInt8) : hdN (headB n k fl s ++ r) = n ∧ hdK (headB n k fl s ++ r) = k ∧ hdF (headB n k fl s ++ r) = fl ∧ hdS (headB n k fl s ++ r) = s := by
  have e : headB n k fl s ++ r = be n 3 ++ (be k 1 ++ (be fl 1 ++ (be s 4 ++ r))) := by simp [headB]
  have d3 : (be n 3 ++ (be k 1 ++ (be fl 1 ++ (be s 4 ++ r)))).drop 3 = be k 1 ++ (be fl 1 ++ (be s 4 ++ r)) := drop_be ..
  have d4 : (be n 3 ++ (be k 1 ++ (be fl 1 ++ (be s 4 ++ r)))).drop 4 = be fl 1 ++ (be s 4 ++ r) := by
    rw [show 4 = 3 + 1 from rfl, ← List.drop_drop, d3, drop_be]
  have d5 : (be n 3 ++ (be k 1 ++ (be fl 1 ++ (be s 4 ++ r)))).drop 5 = be s 4 ++ r := by
    rw [show 5 = 4 + 1 from rfl, ← List.drop_drop, d4, drop_be]
  unfold hdN hdK hdF hdS
  rw [e, d3, d4, d5, take_be, take_be, take_be, take_be, num_be_eq (by omega), num_be_eq (by omega), num_be_eq (by omega), num_be_eq (by omega)]
  exact ⟨rfl, rfl, rfl, by unfold low; omega⟩
theorem wr_len (f : Fm) : (wr f).length = 9 + (body f).length := by rw [wr, List.length_append, headB_len]
theorem next_wr (m : Nat) (f : Fm) (rest : List UInt8) (h : mayB f = true) (hc : okF f) (hm : (body f).length ≤ m) (hm2 : m ≤ 16777215) : nextP m ⟨wr f ++ rest, false⟩ = (⟨f, noF, true⟩, ⟨rest, false⟩) := by
  have P := (may_iff f).1 h
  have B := bits_of f P
  have hk : f.k < 256 := by have := P.k0; have := P.k1; unfold Fm.k; omega
  have hs : f.stream.toNat < 2147483648 := by have := P.s0; have := P.s1; omega
  obtain ⟨a1, a2, a3, a4⟩ := head_parts (body f).length f.k (flagsN f) f.stream.toNat (by omega) hk B.lt hs (body f ++ rest)
  have e : wr f ++ rest = headB (body f).length f.k (flagsN f) f.stream.toNat ++ (body f ++ rest) := by simp [wr]
  rw [e]
  unfold nextP
  simp only [Bool.false_or]
  have hl := headB_len (body f).length f.k (flagsN f) f.stream.toNat
  rw [a1, a2, a3, a4, decide_eq_false (by rw [List.length_append, hl]; omega), decide_eq_false (by omega), decide_eq_false (by rw [List.length_append, List.length_append, hl]; omega)]
  have d9 : (headB (body f).length f.k (flagsN f) f.stream.toNat ++ (body f ++ rest)).drop 9 = body f ++ rest := by
    rw [List.drop_append_of_le_length (by omega), List.drop_of_length_le (by omega), List.nil_append]
  rw [← List.drop_drop, d9, List.take_append_of_le_length (Nat.le_refl _), List.take_length, parse_wr f h hc, List.drop_append_of_le_length (Nat.le_refl _), List.drop_length, List.nil_append]
  rfl
theorem drain_wrs (m : Nat) (hm2 : m ≤ 16777215) : ∀ (l : List Fm), (∀ f ∈ l, mayB f = true ∧ okF f ∧ (body f).length ≤ m) → drain m ⟨(l.map wr).flatten, false⟩ = (l.map fun f => (f, noF), ⟨[], false⟩)
  | [], _ => by rw [drain_no]; rfl; rfl
  | f :: l, h => by
    obtain ⟨h1, h2, h3⟩ := h f (List.mem_cons_self ..)
    have hn := next_wr m f (l.map wr).flatten h1 h2 h3 hm2
    rw [List.map_cons, List.flatten_cons, drain_yes m _ (by rw [hn]), hn, drain_wrs m hm2 l (fun g hg => h g (List.mem_cons_of_mem _ hg))]
    rfl
end Go.Frm

/- Frames: what is read may be written, and is as long. Nothing of the program. -/
namespace Go.Frm
set_option linter.unusedVariables false
/-- what parseP says where it tells a frame -/
theorem parse_ok {k fl s : Nat} {xs : List UInt8} {f : Fm} {x : Flt} (h : parseP k fl s xs = (f, x)) (hx : x.is = false) :
    stray k s = false ∧ badSize k fl xs.length = false ∧ (padded k fl = true → (xs.headD 0).toNat ≤ xs.length - must k fl) ∧ (unfitP (readP k fl s xs)).is = false ∧ f = readP k fl s xs ∧ x = noF := by
  unfold parseP at h
  cases h1 : stray k s with
  | true => rw [h1] at h; cases h; cases hx
  | false =>
    rw [h1] at h
    cases h2 : badSize k fl xs.length with
    | true => rw [h2] at h; cases h; cases hx
    | false =>
      rw [h2] at h
      cases h3 : (padded k fl && decide (xs.length - must k fl < (xs.headD 0).toNat)) with
      | true => rw [h3] at h; cases h; cases hx
      | false =>
        rw [h3] at h
        cases h4 : (unfitP (readP k fl s xs)).is with
        | true =>
          rw [h4] at h
          simp only [cond_false, cond_true] at h
          cases h
          rw [h4] at hx
          cases hx
        | false =>
          rw [h4] at h
          cases h
          refine ⟨rfl, rfl, fun hp => ?_, rfl, rfl, rfl⟩
          rw [hp, Bool.true_and] at h3
          simpa using h3
/-- where it tells a fault there is no frame -/
theorem parse_fault {k fl s : Nat} {xs : List UInt8} {f : Fm} {x : Flt} (h : parseP k fl s xs = (f, x)) (hx : x.is = true) : f = zeroF ∧ x.code ≠ 0 := by
  unfold parseP at h
  cases h1 : stray k s with
  | true => rw [h1] at h; cases h; exact ⟨rfl, by decide⟩
  | false =>
    rw [h1] at h
    cases h2 : badSize k fl xs.length with
    | true => rw [h2] at h; cases h; exact ⟨rfl, by show (6 : Nat) ≠ 0; decide⟩
    | false =>
      rw [h2] at h
      cases h3 : (padded k fl && decide (xs.length - must k fl < (xs.headD 0).toNat)) with
      | true => rw [h3] at h; cases h; exact ⟨rfl, by decide⟩
      | false =>
        rw [h3] at h
        cases h4 : (unfitP (readP k fl s xs)).is with
        | false => rw [h4] at h; cases h; cases hx
        | true =>
          rw [h4] at h
          simp only [cond_false, cond_true] at h
          cases h
          refine ⟨rfl, ?_⟩
          unfold unfitP at h4 ⊢
          generalize ((readP k fl s xs).kind == 5 && (readP k fl s xs).last == 0) = a at *
          generalize ((readP k fl s xs).kind == 8 && (readP k fl s xs).inc == 0) = b at *
          cases a <;> cases b <;> first | (show (1 : Nat) ≠ 0; decide) | (cases h4)
theorem unpad_len (p : Bool) (xs : List UInt8) (m : Nat) (h : p = true → 1 ≤ m) (hm : m ≤ xs.length) (hp : p = true → (xs.headD 0).toNat ≤ xs.length - m) : (unpad p xs).length + (bif p then (xs.headD 0).toNat + 1 else 0) = xs.length ∧ m ≤ (unpad p xs).length + (bif p then 1 else 0) := by
  cases p
  · exact ⟨rfl, hm⟩
  · have := hp rfl
    have := h rfl
    simp only [unpad, cond_true, List.length_take, List.length_drop]
    omega
theorem low_lt (n : Nat) : low n < 2147483648 := Nat.mod_lt _ (by omega)
theorem headD_lt (xs : List UInt8) : (xs.headD 0).toNat < 256 := UInt8.toNat_lt _
theorem unfit_no {f : Fm} (h : (unfitP f).is = false) (h0 : 0 ≤ f.kind) : (f.k ≠ 5 ∨ f.last ≠ 0) ∧ (f.k ≠ 8 ∨ f.inc ≠ 0) := by
  unfold unfitP at h
  cases a : (f.kind == 5 && f.last == 0) with
  | true => rw [a] at h; cases h
  | false =>
    rw [a] at h
    cases b : (f.kind == 8 && f.inc == 0) with
    | true => rw [b] at h; cases h
    | false =>
      simp only [Bool.and_eq_false_iff, beq_eq_false_iff_ne] at a b
      exact ⟨a.imp (fun h e => h (by unfold Fm.k at e; omega)) id, b.imp (fun h e => h (by unfold Fm.k at e; omega)) id⟩
theorem okF_read (k fl s : Nat) (xs : List UInt8) : okF (readP k fl s xs) := by
  refine ⟨?_, ?_⟩
  · show (bif hC k then num _ else 0) < 4294967296
    cases hC k
    · show 0 < 4294967296; decide
    · exact num_take_lt _ 4
  · show ∀ e ∈ (bif hL k then settsN _ _ else []), e.2 < 4294967296
    cases hL k
    · intro e he; cases he
    · exact settsN_vals _ _
set_option maxHeartbeats 4000000 in
theorem read_may {k fl s : Nat} {xs : List UInt8} (hk : k < 256) (hfl : fl < 256) (hs : s < 2147483648) (h1 : stray k s = false) (h2 : badSize k fl xs.length = false)
    (h3 : padded k fl = true → (xs.headD 0).toNat ≤ xs.length - must k fl) (h4 : (unfitP (readP k fl s xs)).is = false) :
    Parts (readP k fl s xs) ∧ (readP k fl s xs).k = k ∧ (body (readP k fl s xs)).length = xs.length := by
  have hkk : (readP k fl s xs).k = k := by show ((k : Nat) : Int).toNat = k; omega
  obtain ⟨u5, u8⟩ := unfit_no h4 (by show (0 : Int) ≤ (k : Int); omega)
  have hmust : must k fl ≤ xs.length := by
    unfold badSize at h2
    simp only [Bool.or_eq_false_iff, decide_eq_false_iff_not] at h2
    omega
  have hpm : padded k fl = true → 1 ≤ must k fl := fun h => by unfold must; rw [h]; simp only [cond_true]; omega
  obtain ⟨l1, l2⟩ := unpad_len (padded k fl) xs (must k fl) hpm hmust h3
  have hh := headD_lt xs
  have hpr : withP k fl = true → hR k = true := fun h => by unfold withP at h; simp only [Bool.and_eq_true] at h; exact h.1
  have hak : withA k fl = true → hA k = true := fun h => by unfold withA at h; simp only [Bool.and_eq_true] at h; exact h.1
  have hpd : padded k fl = true → hP k = true := fun h => by unfold padded at h; simp only [Bool.and_eq_true] at h; exact h.1
  have hwe : (readP k fl s xs).weighed = (withP k fl || hW k) := by
    show (hW (readP k fl s xs).k || hR (readP k fl s xs).k && withP k fl) = _
    rw [hkk]
    cases h : withP k fl
    · simp
    · simp [hpr h]
  have hlen : (body (readP k fl s xs)).length = (bif decide (0 < (readP k fl s xs).pad) then 1 else 0) + (((bif withP k fl || hW k then 5 else 0) + (bif hT k then 4 else 0) + (bif hC k then 4 else 0) + (bif hI k then 4 else 0) + 6 * (readP k fl s xs).list.length) + ((readP k fl s xs).pay.length + (bif decide (0 < (readP k fl s xs).pad) then ((readP k fl s xs).pad - 1).toNat else 0))) := by
    rw [body_len, padA_len, padZ_len, mustB_len, hkk]; rfl
  have hpad : (readP k fl s xs).pad = ((bif padded k fl then (xs.headD 0).toNat + 1 else 0 : Nat) : Int) := rfl
  have hpad2 : (bif decide (0 < (readP k fl s xs).pad) then 1 else 0) + (bif decide (0 < (readP k fl s xs).pad) then ((readP k fl s xs).pad - 1).toNat else 0) = (bif padded k fl then (xs.headD 0).toNat + 1 else 0) := by
    rw [hpad]
    cases padded k fl
    · show (bif decide ((0 : Int) < 0) then 1 else 0) + (bif decide ((0 : Int) < 0) then ((0 : Int) - 1).toNat else 0) = 0; decide
    · have : decide ((0 : Int) < (((xs.headD 0).toNat + 1 : Nat) : Int)) = true := by rw [decide_eq_true_eq]; omega
      simp only [cond_true]
      rw [this]
      simp only [cond_true]
      omega
  have hr : ∃ r, unpad (padded k fl) xs = r := ⟨_, rfl⟩
  obtain ⟨r, hr⟩ := hr
  rw [hr] at l1 l2
  have hlist : (readP k fl s xs).list = bif hL k then settsN ((bif hC k then (bif hT k then (bif withP k fl || hW k then r.drop 5 else r).drop 4 else (bif withP k fl || hW k then r.drop 5 else r)).drop 4 else (bif hT k then (bif withP k fl || hW k then r.drop 5 else r).drop 4 else (bif withP k fl || hW k then r.drop 5 else r))).length / 6) (bif hC k then (bif hT k then (bif withP k fl || hW k then r.drop 5 else r).drop 4 else (bif withP k fl || hW k then r.drop 5 else r)).drop 4 else (bif hT k then (bif withP k fl || hW k then r.drop 5 else r).drop 4 else (bif withP k fl || hW k then r.drop 5 else r))) else [] := by rw [← hr]; rfl
  have hpay : (readP k fl s xs).pay = bif hB k then (bif hC k then (bif hT k then (bif withP k fl || hW k then r.drop 5 else r).drop 4 else (bif withP k fl || hW k then r.drop 5 else r)).drop 4 else (bif hT k then (bif withP k fl || hW k then r.drop 5 else r).drop 4 else (bif withP k fl || hW k then r.drop 5 else r))) else [] := by rw [← hr]; rfl
  have hbody : (body (readP k fl s xs)).length = xs.length ∧ (k ≠ 6 ∨ (readP k fl s xs).pay.length = 8) ∧ (withA k fl = false ∨ (readP k fl s xs).list = []) := by
    have hm : must k fl = base k + (bif padded k fl then 1 else 0) + (bif withP k fl then 5 else 0) := rfl
    rw [hlen, hlist, hpay]
    clear hlen hlist hpay u5 u8 hwe h4 hr h1 h3 hpm hpad
    have hpn : padded k fl = false → (bif padded k fl then (xs.headD 0).toNat + 1 else 0) = 0 := fun h => by rw [h]; rfl
    generalize (bif padded k fl then (xs.headD 0).toNat + 1 else 0) = pn at *
    generalize (bif decide (0 < (readP k fl s xs).pad) then 1 else 0) = p1 at *
    generalize (bif decide (0 < (readP k fl s xs).pad) then ((readP k fl s xs).pad - 1).toNat else 0) = p2 at *
    unfold badSize at h2
    simp only [Bool.or_eq_false_iff, Bool.and_eq_false_iff, decide_eq_false_iff_not, bne_eq_false_iff_eq, beq_eq_false_iff_ne] at h2
    obtain ⟨⟨a1, a2⟩, a3⟩ := h2
    generalize must k fl = mu at *
    generalize hpdd : padded k fl = pd at *
    generalize hprr : withP k fl = pr at *
    generalize hakk : withA k fl = ak at *
    rcases kinds k with rfl | rfl | rfl | rfl | rfl | rfl | rfl | rfl | rfl | rfl | hk10
    rotate_right 1
    · obtain ⟨h1, h2, h3, h4, h5, h6, h7, h8, h9, h10, h11, h12, h13, h14, h15, h16, h17, h18, _⟩ := hi_letters k hk10
      have e1 := Parts.no hpd h2
      have e2 := Parts.no hpr h4
      have e3 := Parts.no hak h7
      subst e1 e2 e3
      have := hpn rfl
      simp only [h5, h6, h8, h9, h10, h12, Bool.or_self, cond_false, cond_true]
      refine ⟨by simp only [List.length_nil]; omega, by first | exact .inl (by omega) | simp, by first | exact .inl rfl | simp⟩
    all_goals first
      | (obtain ⟨h1, h2, h3, h4, h5, h6, h7, h8, h9, h10, h11, h12, h13, h14, h15, h16, h17, h18, _⟩ := hi_letters k hk10
         have e1 := Parts.no hpd h2
         have e2 := Parts.no hpr h4
         have e3 := Parts.no hak h7
         subst e1 e2 e3
         have := hpn rfl
         simp only [h5, h6, h8, h9, h10, h12, Bool.or_self, cond_false, cond_true]
         refine ⟨by simp only [List.length_nil]; omega, .inl (by omega), .inl rfl⟩)
      | (simp only [hW, hT, hC, hI, hL, hB, hR, hA, hP, base, just] at *
         simp at *
         first
           | (cases pd <;> cases pr <;> cases ak <;> simp_all [settsN_length] <;> omega)
           | (cases pd <;> cases pr <;> cases ak <;> simp_all [settsN_length, settsN] <;> omega))
  refine ⟨?_, hkk, hbody.1⟩
  have cB : ∀ {b : Bool} {z : Int} , (bif b then z else 0) = 0 ∨ b = true := fun {b z} => by cases b; exact .inl rfl; exact .inr rfl
  refine { k0 := by show (0 : Int) ≤ (k : Int); omega, k1 := by show (k : Int) ≤ 255; omega, s0 := by show (0 : Int) ≤ (s : Int); omega, s1 := by show (s : Int) ≤ 2147483647; omega, st := by rw [hkk]; exact h1, e := ?_, h := ?_, a := ?_, r := ?_, b := ?_, f' := ?_, p := ?_, c := ?_, l := ?_, t := ?_, i := ?_, w := ?_, p0 := ?_, p1 := ?_, f0 := ?_, f1 := ?_, l0 := ?_, l1 := ?_, l5 := u5, wb := ?_, ids := ?_, al := hbody.2.2, k6 := by rw [hkk]; exact hbody.2.1, k8 := ?_ }
  · rw [hkk]; intro h; have h : (hE k && fl.testBit 0) = true := h; simp only [Bool.and_eq_true] at h; exact h.1
  · rw [hkk]; intro h; have h : (hH k && fl.testBit 2) = true := h; simp only [Bool.and_eq_true] at h; exact h.1
  · rw [hkk]; exact hak
  · rw [hkk]; exact hpr
  · rw [hkk, hpay]; cases hB k; exact .inl rfl; exact .inr rfl
  · rw [hkk]; exact cB
  · rw [hkk, hpad]
    cases h : padded k fl
    · exact .inl rfl
    · exact .inr (hpd h)
  · rw [hkk]; show (bif hC k then _ else 0) = 0 ∨ _; cases hC k; exact .inl rfl; exact .inr rfl
  · rw [hkk, hlist]; cases hL k; exact .inl rfl; exact .inr rfl
  · rw [hkk]; exact cB
  · rw [hkk]; exact cB
  · rw [hwe]
    cases h : (withP k fl || hW k)
    · right
      show (bif (withP k fl || hW k) then _ else 0) = 0 ∧ ((withP k fl || hW k) && _) = false ∧ (bif (withP k fl || hW k) then _ else 0) = 0
      rw [h]; exact ⟨rfl, rfl, rfl⟩
    · exact .inl rfl
  · rw [hpad]; omega
  · rw [hpad]; cases padded k fl
    · show (0 : Int) ≤ 256; decide
    · simp only [cond_true]; omega
  · show 0 ≤ (bif hF k then (fl : Int) else 0); cases hF k; exact Int.le_refl 0; simp only [cond_true]; omega
  · show (bif hF k then (fl : Int) else 0) ≤ 255; cases hF k; (show (0 : Int) ≤ 255; decide); simp only [cond_true]; omega
  · show 0 ≤ (bif hT k then (_ : Int) else 0); cases hT k; exact Int.le_refl 0; simp only [cond_true]; omega
  · show (bif hT k then ((low _ : Nat) : Int) else 0) ≤ 2147483647
    cases hT k
    · show (0 : Int) ≤ 2147483647; decide
    · simp only [cond_true]
      have := low_lt
      exact Int.le_of_lt_add_one (Int.ofNat_lt.2 (low_lt _))
  · rw [hwe]
    cases h : (withP k fl || hW k)
    · exact .inl rfl
    · right
      show 0 ≤ (bif (withP k fl || hW k) then ((low _ : Nat) : Int) else 0) ∧ (bif (withP k fl || hW k) then ((low _ : Nat) : Int) else 0) ≤ 2147483647 ∧ 1 ≤ (bif (withP k fl || hW k) then ((UInt8.toNat _ : Nat) : Int) + 1 else 0) ∧ (bif (withP k fl || hW k) then ((UInt8.toNat _ : Nat) : Int) + 1 else 0) ≤ 256
      rw [h]
      simp only [cond_true]
      refine ⟨by omega, Int.le_of_lt_add_one (Int.ofNat_lt.2 (low_lt _)), by omega, ?_⟩
      have := headD_lt ((unpad (padded k fl) xs).drop 4)
      omega
  · rw [hlist]
    cases hL k
    · intro e he; cases he
    · exact settsN_ids _ _
  · rcases u8 with h | h
    · exact .inl h
    · right
      have h : (bif hI k then ((low _ : Nat) : Int) else 0) ≠ 0 := h
      show 1 ≤ (bif hI k then ((low _ : Nat) : Int) else 0) ∧ (bif hI k then ((low _ : Nat) : Int) else 0) ≤ 2147483647
      revert h
      cases hI k
      · intro h; exact absurd rfl h
      · simp only [cond_true]
        intro h
        exact ⟨by omega, Int.le_of_lt_add_one (Int.ofNat_lt.2 (low_lt _))⟩
theorem parse_may {k fl s : Nat} {xs : List UInt8} {f : Fm} {x : Flt} (hk : k < 256) (hfl : fl < 256) (hs : s < 2147483648) (h : parseP k fl s xs = (f, x)) (hx : x.is = false) :
    mayB f = true ∧ okF f ∧ x = noF ∧ (body f).length = xs.length := by
  obtain ⟨h1, h2, h3, h4, rfl, h5⟩ := parse_ok h hx
  obtain ⟨a, b, c⟩ := read_may hk hfl hs h1 h2 h3 h4
  exact ⟨(may_iff _).2 a, okF_read k fl s xs, h5, c⟩
/-- what Next tells: a frame that may be, or a fault without one -/
theorem next_may (m : Nat) (st : Pst) (h : (nextP m st).1.ok = true) :
    ((nextP m st).1.x = noF ∧ mayB (nextP m st).1.f = true ∧ okF (nextP m st).1.f ∧ (body (nextP m st).1.f).length ≤ m ∧ (nextP m st).2.done = false) ∨
    ((nextP m st).1.x.is = true ∧ (nextP m st).1.f = zeroF ∧ (nextP m st).1.x.code ≠ 0 ∧ ((nextP m st).1.x.stream = 0 → (nextP m st).2 = ⟨[], true⟩)) := by
  rcases next_ways m st with ⟨_, e⟩ | ⟨_, h9, h1, e⟩ | ⟨_, _, _, _, e⟩ | ⟨_, h9, h1, e⟩
  · rw [e] at h; cases h
  · rw [e]; exact .inr ⟨rfl, rfl, by show (6 : Nat) ≠ 0; decide, fun _ => rfl⟩
  · rw [e] at h; cases h
  · rw [e]
    obtain ⟨f, x, hp⟩ : ∃ f x, parseP (hdK st.held) (hdF st.held) (hdS st.held) ((st.held.drop 9).take (hdN st.held)) = (f, x) := ⟨_, _, rfl⟩
    rw [hp]
    have hK : hdK st.held < 256 := by have := num_take_lt (st.held.drop 3) 1; exact this
    have hF : hdF st.held < 256 := by have := num_take_lt (st.held.drop 4) 1; exact this
    have hS : hdS st.held < 2147483648 := low_lt _
    cases hx : x.is with
    | false =>
      obtain ⟨a, b, c, d⟩ := parse_may hK hF hS hp hx
      subst c
      refine .inl ⟨rfl, a, b, ?_, rfl⟩
      show (body f).length ≤ m
      rw [d, List.length_take]
      omega
    | true =>
      obtain ⟨a, b⟩ := parse_fault hp hx
      refine .inr ⟨hx, a, b, fun h0 => ?_⟩
      have h0 : x.stream = 0 := h0
      show (bif x.is && x.stream == 0 then _ else _) = _
      rw [hx, h0]; rfl
end Go.Frm

/- The contracts of package octets' functions on numbers (Uint, Put). -/
namespace Go.Proofs.YtokbdkbljgdcpaaDoor
open Go.RowKit Go.Own Go.Frm
set_option linter.unusedVariables false

theorem hasWidth_any (n : Int) (w : World) :
    Calls Tryd.prog 71 #[.int .i64 n] w fun e w' => e = .returned (.bool (decide (1 ≤ n) && decide (n ≤ 8))) ∧ w = w' := by
  by_cases h : 1 ≤ n
  · go_enter Tryd.func71, Tryd.ntmps71
    go_wp2
    go_ret
    exact ⟨ret_bool (by simp [h]), rfl⟩
  · go_enter Tryd.func71, Tryd.ntmps71
    go_wp2
    go_ret
    exact ⟨ret_bool (by simp; omega), rfl⟩
theorem num_take_lt7 (xs : List UInt8) (k : Nat) (h : k ≤ 7) : num (xs.take k) < 72057594037927936 := by
  have h1 := num_take_lt xs k
  have h3 : 256 ^ k ≤ 256 ^ 7 := Nat.pow_le_pow_right (by omega) (by omega)
  have h4 : (256 : Nat) ^ 7 = 72057594037927936 := by decide
  omega
theorem or_byte (v y : Nat) (hv : v < 72057594037927936) (hy : y < 256) : Value.int .u64 (bits .or .u64 ((v : Int) * 256) (y : Int)) = .int .u64 ((v * 256 + y : Nat) : Int) := by
  have e : ((v : Int) * 256) = ((v * 256 : Nat) : Int) := by omega
  rw [e, u64_or_nat _ _ (by omega) (by omega), Nat.or_comm, nat_join8' (v * 256) y (by omega) hy]

set_option maxHeartbeats 400000 in
theorem Uint_yes (A : Option Addr) (len cap : Nat) (xs : List UInt8) (n : Nat) (w : World) (hs : Rd w 1 A len (xs.map BV)) (h1 : 1 ≤ n) (h8 : n ≤ 8) (hl : n ≤ len) (hc : len ≤ cap) (hcap : cap ≤ 9223372036854775807) :
    Calls Tryd.prog 72 #[.slice A len cap, .int .i64 n] w fun e w' => e = .returned (.tuple #[.int .u64 (num (xs.take n)), .bool true]) ∧ w = w' := by
  have hlen : xs.length = len := by simpa using hs.1
  obtain ⟨b, o, rfl, hcl⟩ := hs.2 (by omega)
  clear hs
  have hb1 : (decide (1 ≤ (n : Int)) && decide ((n : Int) ≤ 8)) = true := by simp; omega
  have ht : decide (len < n) = false := by simp; omega
  have hw := hasWidth_any n
  rw [hb1] at hw
  have Hl := Lib.hid hlen
  have hge : len ≤ xs.length := by omega
  have HC := Lib.hid hcl
  clear hb1 hlen hcl
  go_enter Tryd.func72, Tryd.ntmps72
  go_wp2_with (go_at_call 71; refine (hw _).mono ?_; rintro e w' ⟨rfl, rfl⟩)
  go_loop [6, 22] (fun v i => ∃ k : Nat, k ≤ n ∧ i = .int .i64 k ∧ v = .int .u64 (num (xs.take k) : Nat)) (fun _ i => n - (intOf i).toNat)
  case atStart => exact ⟨0, by omega, rfl, by simp [num]⟩
  case round =>
    obtain ⟨k, hk, rfl, rfl⟩ := hrel
    by_cases hlt : k < n
    · obtain ⟨y, hy⟩ : ∃ y, xs[k] = y := ⟨_, rfl⟩
      have hcv : w.cell? ⟨b, o + k, none⟩ = some (.int .u8 (y.toNat : Int)) := HC.out k _ (by rw [List.getElem?_map, List.getElem?_eq_getElem (show k < xs.length by omega), hy]; rfl)
      have Hy := Lib.hid hy
      clear hy
      have hy1 := y.toNat_lt
      have hv := num_take_lt7 xs k (by omega)
      obtain ⟨v, ev⟩ : ∃ v, num (xs.take k) = v := ⟨_, rfl⟩
      have Hv := Lib.hid ev
      rw [ev] at hv ⊢
      clear ev
      go_wp2
      go_round
      case rel => exact ⟨k + 1, by omega, by go_num, by
        rw [num_take_succ xs k (by omega), Hv.out, Hy.out, or_byte v _ hv hy1]⟩
      case measure => simp [intOf]; omega
    · go_wp2
      go_ret2
      have e : k = n := by omega
      subst e
      exact ⟨rfl, rfl⟩

def zeroB : Value := .int .u8 0
/-- Put's block behind k rounds -/
def putC (xs : List UInt8) (v n k : Nat) : List Value := xs.map BV ++ (List.replicate (n - k) zeroB ++ (be v k).map BV)
theorem putC_length (xs : List UInt8) (v n k : Nat) (hk : k ≤ n) : (putC xs v n k).length = xs.length + n := by
  simp [putC, be_length]; omega
theorem putC_full (xs : List UInt8) (v n : Nat) : putC xs v n n = (xs ++ be v n).map BV := by simp [putC]
theorem putC_next (xs : List UInt8) (v n k : Nat) (hk : k < n) :
    (putC xs v n k).set (xs.length + n - 1 - k) (BV (UInt8.ofNat (v / 256 ^ k))) = putC xs v n (k + 1) := by
  unfold putC
  rw [List.set_append_right _ _ (by simp; omega)]
  congr 1
  obtain ⟨m, rfl⟩ : ∃ m, n = k + 1 + m := ⟨n - k - 1, by omega⟩
  have e1 : k + 1 + m - k = m + 1 := by omega
  have e2 : k + 1 + m - (k + 1) = m := by omega
  have e3 : xs.length + (k + 1 + m) - 1 - k - (xs.map BV).length = m := by simp; omega
  rw [e1, e2, e3, List.replicate_succ', List.append_assoc, List.set_append_right _ _ (by simp)]
  simp [be_succ]

theorem infoB : (Tryd.prog.info? 5).map (·.size) = some 1 := by kernel_rfl
theorem infoB' : (Tryd.prog.info? 5).map (fun i => (i.zero, i.size, i.bytes)) = some (some (.int .u8 0), 1, 1) := by kernel_rfl

theorem EB : Elt Tryd.prog 22 5 zeroB 1 1 := by
  obtain ⟨i0, hi, hz0, hz1, hz2⟩ := info_parts infoB'
  exact ⟨Tryd.underlying22, ⟨i0, hi, hz0, hz1, hz2⟩, rfl, by omega⟩

set_option maxHeartbeats 400000 in
theorem Put_yes (A : Option Addr) (len cap : Nat) (xs : List UInt8) (v n : Nat) (w : World) (hs : Rd w 1 A len (xs.map BV)) (h1 : 1 ≤ n) (h8 : n ≤ 8) (hv : v < 18446744073709551616) (hc : len ≤ cap) (hcap : cap ≤ 140737488355328) :
    Calls Tryd.prog 58 #[.slice A len cap, .int .u64 v, .int .i64 n] w fun e w' => ∃ g, e = .returned (.slice (some ⟨g, 0, none⟩) (len + n) (len + n)) ∧
      Blk w' g 5 ((xs ++ be v n).map BV) ∧ w.heap.size ≤ g ∧ Below w.heap.size w w' := by
  have Hl : Hid (xs.length = len) := show _ = _ by simpa using hs.1
  have hb1 : (decide (1 ≤ (n : Int)) && decide ((n : Int) ≤ 8)) = true := by simp; omega
  have hw := hasWidth_any n
  rw [hb1] at hw
  clear hb1
  have hmk := run_make_zeros EB rfl .i64 .i64 ((len : Int) + n) (len + n) (by omega) (by omega) (by omega)
  have hg0 : Blk (w.alloc (.cells (zeros zeroB (len + n)).toArray 5)) w.heap.size 5 (zeros zeroB (len + n)) := Blk.new _ _ _
  have hs1 : Rd (w.alloc (.cells (zeros zeroB (len + n)).toArray 5)) 1 A len (xs.map BV) := hs.below ((Below.refl _ _).alloc (Nat.le_refl _) _)
  have hmin : Nat.min len (len + n) = len := Nat.min_eq_left (by omega)
  have hsp : Hid (splice (zeros zeroB (len + n)) 0 ((xs.map BV).take len) = putC xs v n 0) := by
    show _ = _
    have := Hl.out
    have e : (xs.map BV).take len = xs.map BV := List.take_of_length_le (by simp; omega)
    simp [splice, putC, be, e, zeros, this]
  have Hmin := Lib.hid hmin
  clear hmin hs
  go_enter Tryd.func58, Tryd.ntmps58
  go_wp2_with (first
    | (go_at_call 71; refine (hw _).mono ?_; rintro e w' ⟨rfl, rfl⟩)
    | (with_reducible refine wpList_copy_blk rfl (.tmp 17) (.tmp 18) 22 22 rfl 5 Tryd.underlying22 infoB (some ⟨w.heap.size, 0, none⟩) A (len + n) (len + n) len cap rfl rfl w.heap.size 0 (zeros zeroB (len + n)) 5 hg0 (xs.map BV) hs1 (BV_one xs) (fun _ => rfl) (by rw [Hmin.out, zeros_length]; simp) ?_
       intro w1 m hm hB1 hF1))
  have hB2 : Blk w1 w.heap.size 5 (putC xs v n 0) := by rw [← hsp.out]; rw [hm.out, Hmin.out] at hB1; exact hB1
  have hL1 : Below w.heap.size w w1 := ((Below.refl _ _).alloc (Nat.le_refl _) _).trans (hF1.below (by simp) (fun i _ h => by omega))
  have hnv := be_length v n
  clear hB1 hF1 hg0 hs1 hmk hw hm hsp Hmin hnv
  go_loopw [1, 8] (fun v' i W => ∃ k : Nat, k ≤ n ∧ i = .int .i64 ((len : Int) + n - 1 - k) ∧ v' = .int .u64 ((v / 256 ^ k : Nat) : Int) ∧ Blk W w.heap.size 5 (putC xs v n k) ∧ Below w.heap.size w W) (fun _ i _ => (intOf i + 1 - len).toNat)
  case atStart => exact ⟨0, by omega, by simp, by simp, hB2, hL1⟩
  case round =>
    obtain ⟨k, hk, rfl, rfl, hB, hL⟩ := hrel
    by_cases hlt : k < n
    · obtain ⟨y, hy⟩ : ∃ y, v / 256 ^ k = y := ⟨_, rfl⟩
      have hyb : y ≤ v := by rw [← hy]; exact Nat.div_le_self _ _
      have Hy := Lib.hid hy
      rw [hy] at ⊢
      clear hy
      have hlen := putC_length xs v n k hk
      rw [Hl.out] at hlen
      have hc := hB.cell (len + n - 1 - k)
      rw [List.getElem?_eq_getElem (by omega)] at hc
      obtain ⟨old, hold⟩ : ∃ o, (putC xs v n k)[len + n - 1 - k]'(by omega) = o := ⟨_, rfl⟩
      rw [hold] at hc
      clear hold hlen
      have hz := hB.frozen (len + n - 1 - k)
      have hi1 : ((len : Int) + n - 1 - k).toNat = len + n - 1 - k := by omega
      go_wp2
      refine ⟨⟨k + 1, by omega, congrArg (Value.int .i64) (by omega), congrArg (Value.int .u64) ?_, ?_, hL.setCell (Nat.le_refl _) _⟩, by simp [intOf]; omega⟩
      · rw [Nat.pow_succ, ← Nat.div_div_eq_div_mul, Hy.out]; omega
      · have hs := hB.set_ (len + n - 1 - k) (Value.int .u8 ((y : Int) % 256))
        have hp := putC_next xs v n k hlt
        rw [Hl.out, Hy.out] at hp
        rw [← hp]
        have e : BV (UInt8.ofNat y) = Value.int .u8 ((y : Int) % 256) := congrArg (Value.int .u8) (by simp)
        rw [e]
        exact hs
    · have e : k = n := by omega
      subst e
      rw [putC_full] at hB
      go_wp2
      go_ret
      exact ⟨_, by simp, hB, Nat.le_refl _, hL⟩
end Go.Proofs.YtokbdkbljgdcpaaDoor

/- Bits of numbers, as the walk spells them; what a set of parts is. Nothing of the program. -/
namespace Go.Frm
open Go
set_option linter.unusedVariables false

theorem ofInt64 (a : Nat) (ha : a < 18446744073709551616) : (BitVec.ofInt 64 (a : Int)).toNat = a := by
  rw [BitVec.ofInt_natCast, BitVec.toNat_ofNat]; exact Nat.mod_eq_of_lt (by omega)
theorem i64_or (a b : Nat) (ha : a < 9223372036854775808) (hb : b < 9223372036854775808) : bits .or .i64 (a : Int) (b : Int) = ((a ||| b : Nat) : Int) := by
  have hx : a ||| b < 2 ^ 63 := Nat.or_lt_two_pow (by omega) (by omega)
  show IntKind.i64.wrap ((BitVec.ofInt 64 (a : Int) ||| BitVec.ofInt 64 (b : Int)).toNat : Int) = _
  rw [BitVec.toNat_or, ofInt64 a (by omega), ofInt64 b (by omega), IntKind.wrap_i64]
  omega
theorem i64_and (a b : Nat) (ha : a < 9223372036854775808) (hb : b < 9223372036854775808) : bits .and .i64 (a : Int) (b : Int) = ((a &&& b : Nat) : Int) := by
  have hx : a &&& b < 2 ^ 63 := Nat.and_lt_two_pow _ (by omega)
  show IntKind.i64.wrap ((BitVec.ofInt 64 (a : Int) &&& BitVec.ofInt 64 (b : Int)).toNat : Int) = _
  rw [BitVec.toNat_and, ofInt64 a (by omega), ofInt64 b (by omega), IntKind.wrap_i64]
  omega
theorem u64_andNot31 (a : Nat) (ha : a < 4294967296) : bits .andNot .u64 (a : Int) 2147483648 = ((low a : Nat) : Int) := by
  show IntKind.u64.wrap ((BitVec.ofInt 64 (a : Int) &&& ~~~ BitVec.ofInt 64 2147483648).toNat : Int) = _
  have h : (~~~ BitVec.ofInt 64 2147483648).toNat = 18446744071562067967 := by decide
  rw [BitVec.toNat_and, ofInt64 a (by omega), h]
  have hb : a &&& 18446744071562067967 = a % 2147483648 := by
    rw [show a % 2147483648 = a &&& 2147483647 from (Nat.and_two_pow_sub_one_eq_mod a 31).symm]
    apply Nat.eq_of_testBit_eq
    intro i
    rw [Nat.testBit_and, Nat.testBit_and]
    rcases Nat.lt_or_ge i 32 with hi | hi
    · have : ∀ j, j < 32 → (18446744071562067967 : Nat).testBit j = (2147483647 : Nat).testBit j := by decide
      rw [this i hi]
    · have h32 : a < 2 ^ 32 := ha
      have : a.testBit i = false := Nat.testBit_lt_two_pow (Nat.lt_of_lt_of_le h32 (Nat.pow_le_pow_right (by omega) hi))
      simp [this]
  rw [hb, IntKind.wrap_u64]
  unfold low
  omega
theorem and31 (a : Nat) (ha : a < 4294967296) : a &&& 2147483648 = if 2147483648 ≤ a then 2147483648 else 0 := by
  apply Nat.eq_of_testBit_eq
  intro i
  have h31 : (2147483648 : Nat) = 2 ^ 31 := rfl
  have e31 : a.testBit 31 = decide (2147483648 ≤ a) := by
    rw [Nat.testBit_eq_decide_div_mod_eq]
    by_cases h : 2147483648 ≤ a
    · have : a / 2 ^ 31 % 2 = 1 := by omega
      simp [h, this]
    · have : a / 2 ^ 31 % 2 = 0 := by omega
      simp [h, this]
  rw [Nat.testBit_and]
  by_cases hi : i = 31
  · subst hi
    rw [e31]
    by_cases h : 2147483648 ≤ a
    · simp [h]
    · rw [if_neg h]; simp [h]
  · have h0 : (2147483648 : Nat).testBit i = false := by rw [h31, Nat.testBit_two_pow_of_ne (Ne.symm hi)]
    rw [h0, Bool.and_false]
    split
    · exact h0.symm
    · simp
theorem u64_and31 (a : Nat) (ha : a < 4294967296) : (bits .and .u64 (a : Int) 2147483648 != 0) = hi31 a := by
  unfold hi31
  have h := bits_and_u64_nat a 2147483648 (by omega) (by decide)
  rw [show ((2147483648 : Nat) : Int) = 2147483648 from rfl] at h
  rw [h, and31 a ha]
  by_cases h : 2147483648 ≤ a <;> simp [h]
theorem i64_or31 (a : Nat) (ha : a < 2147483648) : bits .or .i64 (a : Int) 2147483648 = ((a + 2147483648 : Nat) : Int) := by
  have h := i64_or a 2147483648 (by omega) (by decide)
  rw [show ((2147483648 : Nat) : Int) = 2147483648 from rfl] at h
  rw [h]
  congr 1
  have := Nat.two_pow_add_eq_or_of_lt (i := 31) (b := a) (by omega) 1
  rw [Nat.or_comm]
  rw [show 2 ^ 31 * 1 = 2147483648 from rfl] at this
  omega

/-! sets of parts -/
def bsum : List Bool → Nat
  | [] => 0
  | b :: r => (bif b then 1 else 0) + 2 * bsum r
theorem bsum_lt (l : List Bool) : bsum l < 2 ^ l.length := by
  induction l with
  | nil => simp [bsum]
  | cons b r ih => simp only [bsum, List.length_cons, Nat.pow_succ]; cases b <;> simp <;> omega
theorem bsum_testBit (l : List Bool) (i : Nat) : (bsum l).testBit i = l.getD i false := by
  induction l generalizing i with
  | nil => simp [bsum]
  | cons b r ih =>
    cases i with
    | zero => simp only [bsum, Nat.testBit_zero]; cases b <;> simp
    | succ i =>
      rw [Nat.testBit_succ]
      have : bsum (b :: r) / 2 = bsum r := by simp only [bsum]; cases b <;> simp <;> omega
      rw [this, ih]; rfl
theorem bsum_ne (l : List Bool) : (bsum l ≠ 0) ↔ l.any id = true := by
  induction l with
  | nil => simp [bsum]
  | cons b r ih =>
    simp only [bsum, List.any_cons, id]
    cases b
    · simp only [cond_false, Bool.false_or, ← ih]; omega
    · simp
theorem bsum_and (l m : List Bool) : bsum l &&& bsum m = bsum (List.zipWith (· && ·) l m) := by
  apply Nat.eq_of_testBit_eq
  intro i
  rw [Nat.testBit_and, bsum_testBit, bsum_testBit, bsum_testBit]
  simp only [List.getD_eq_getElem?_getD, List.getElem?_zipWith]
  cases l[i]? <;> cases m[i]? <;> simp
theorem bsum_or (l m : List Bool) (h : l.length = m.length) : bsum l ||| bsum m = bsum (List.zipWith (· || ·) l m) := by
  apply Nat.eq_of_testBit_eq
  intro i
  rw [Nat.testBit_or, bsum_testBit, bsum_testBit, bsum_testBit]
  simp only [List.getD_eq_getElem?_getD, List.getElem?_zipWith]
  rcases Nat.lt_or_ge i l.length with hi | hi
  · simp [List.getElem?_eq_getElem hi, List.getElem?_eq_getElem (h ▸ hi)]
  · simp [List.getElem?_eq_none hi, List.getElem?_eq_none (h ▸ hi)]
/-- a part, if -/
def pif (b : Bool) (p : Nat) : Nat := bif b then p else 0
/-- what is not zero of a frame -/
def fillL (f : Fm) : List Bool := [f.fin, f.eh, f.ack, f.pad != 0, f.prio, (f.depend != 0 || f.excl || f.weight != 0), !f.pay.isEmpty, f.flags != 0, !f.list.isEmpty, f.last != 0, f.code != 0, f.inc != 0]
/-- what a kind can have -/
def partL (k : Nat) (pr : Bool) : List Bool := [hE k, hH k, hA k, hP k, hR k, hW k || pr, hB k, hF k, hL k, hT k, hC k, hI k]
theorem bor12 (a0 a1 a2 a3 a4 a5 a6 a7 a8 a9 a10 a11 b0 b1 b2 b3 b4 b5 b6 b7 b8 b9 b10 b11 : Bool) : bsum [a0, a1, a2, a3, a4, a5, a6, a7, a8, a9, a10, a11] ||| bsum [b0, b1, b2, b3, b4, b5, b6, b7, b8, b9, b10, b11] = bsum [a0 || b0, a1 || b1, a2 || b2, a3 || b3, a4 || b4, a5 || b5, a6 || b6, a7 || b7, a8 || b8, a9 || b9, a10 || b10, a11 || b11] := bsum_or _ _ rfl
theorem fillL_or (b0 b1 b2 b3 b4 b5 b6 b7 b8 b9 b10 b11 : Bool) : (((((((((((pif b0 1 ||| pif b1 2) ||| pif b2 4) ||| pif b3 8) ||| pif b4 16) ||| pif b5 32) ||| pif b6 64) ||| pif b7 128) ||| pif b8 256) ||| pif b9 512) ||| pif b10 1024) ||| pif b11 2048) = bsum [b0, b1, b2, b3, b4, b5, b6, b7, b8, b9, b10, b11] := by
  have e : ∀ b : Bool, pif b 1 = bsum [b, false, false, false, false, false, false, false, false, false, false, false] ∧ pif b 2 = bsum [false, b, false, false, false, false, false, false, false, false, false, false] ∧ pif b 4 = bsum [false, false, b, false, false, false, false, false, false, false, false, false] ∧ pif b 8 = bsum [false, false, false, b, false, false, false, false, false, false, false, false] ∧ pif b 16 = bsum [false, false, false, false, b, false, false, false, false, false, false, false] ∧ pif b 32 = bsum [false, false, false, false, false, b, false, false, false, false, false, false] ∧ pif b 64 = bsum [false, false, false, false, false, false, b, false, false, false, false, false] ∧ pif b 128 = bsum [false, false, false, false, false, false, false, b, false, false, false, false] ∧ pif b 256 = bsum [false, false, false, false, false, false, false, false, b, false, false, false] ∧ pif b 512 = bsum [false, false, false, false, false, false, false, false, false, b, false, false] ∧ pif b 1024 = bsum [false, false, false, false, false, false, false, false, false, false, b, false] ∧ pif b 2048 = bsum [false, false, false, false, false, false, false, false, false, false, false, b] := by
    intro b; cases b <;> decide
  rw [(e b0).1, (e b1).2.1, (e b2).2.2.1, (e b3).2.2.2.1, (e b4).2.2.2.2.1, (e b5).2.2.2.2.2.1, (e b6).2.2.2.2.2.2.1, (e b7).2.2.2.2.2.2.2.1, (e b8).2.2.2.2.2.2.2.2.1, (e b9).2.2.2.2.2.2.2.2.2.1, (e b10).2.2.2.2.2.2.2.2.2.2.1, (e b11).2.2.2.2.2.2.2.2.2.2.2]
  simp only [bor12, Bool.or_false, Bool.false_or]
/-- the parts of a kind, as the program's table has them -/
def pN (k : Nat) : Nat := if k = 0 then 73 else if k = 1 then 91 else if k = 2 then 32 else if k = 3 then 1024 else if k = 4 then 260 else if k = 5 then 586 else if k = 6 then 68 else if k = 7 then 1600 else if k = 8 then 2048 else if k = 9 then 66 else 192
def partN (k : Nat) (pr : Bool) : Nat := pN k ||| pif pr 32
theorem partN_eq (k : Nat) (pr : Bool) : partN k pr = bsum (partL k pr) := by
  rcases Nat.lt_or_ge k 10 with h | h
  · have := (by decide : ∀ k, k < 10 → ∀ pr, partN k pr = bsum (partL k pr))
    exact this k h pr
  obtain ⟨h1, h2, h3, h4, h5, h6, h7, h8, h9, h10, h11, h12, _⟩ := hi_letters k h
  have hp : pN k = 192 := by
    unfold pN
    repeat rw [if_neg (by omega)]
  unfold partN partL
  rw [hp, h1, h2, h3, h4, h5, h6, h7, h8, h9, h10, h11, h12]
  cases pr <;> decide
theorem partN_lt (k : Nat) (pr : Bool) : partN k pr < 4096 := by
  rw [partN_eq]
  have h := bsum_lt (partL k pr)
  rw [show (partL k pr).length = 12 from rfl] at h
  exact h
theorem pN_lt (k : Nat) : pN k < 4096 := by
  have h : pN k ≤ partN k false := by rw [partN, show pif false 32 = 0 from rfl, Nat.or_zero]; exact Nat.le_refl _
  have := partN_lt k false; omega
/-- what of p is not of q -/
theorem and_compl (l m : List Bool) (hl : l.length = 12) (hm : m.length = 12) : (bits .and .i64 (bsum l : Int) (-1 - (bsum m : Int)) != 0) = (List.zipWith (fun a b => a && !b) l m).any id := by
  have h1 : bsum l < 4096 := by have := bsum_lt l; rw [hl] at this; exact this
  have h2 : bsum m < 4096 := by have := bsum_lt m; rw [hm] at this; exact this
  have e : bits .and .i64 (bsum l : Int) (-1 - (bsum m : Int)) = ((bsum (List.zipWith (fun a b => a && !b) l m) : Nat) : Int) := by
    show IntKind.i64.wrap ((BitVec.ofInt 64 (bsum l : Int) &&& BitVec.ofInt 64 (-1 - (bsum m : Int))).toNat : Int) = _
    have hn : BitVec.ofInt 64 (-1 - (bsum m : Int)) = ~~~ BitVec.ofNat 64 (bsum m) := by
      apply BitVec.eq_of_toNat_eq
      rw [BitVec.toNat_ofInt, BitVec.toNat_not, BitVec.toNat_ofNat]
      omega
    have hb : (BitVec.ofInt 64 (bsum l : Int) &&& BitVec.ofInt 64 (-1 - (bsum m : Int))).toNat = bsum (List.zipWith (fun a b => a && !b) l m) := by
      rw [hn]
      apply Nat.eq_of_testBit_eq
      intro i
      rw [← BitVec.getLsbD, BitVec.getLsbD_and, BitVec.getLsbD_not, BitVec.getLsbD, ofInt64 _ (by omega), BitVec.getLsbD_ofNat, bsum_testBit, bsum_testBit, bsum_testBit]
      simp only [List.getD_eq_getElem?_getD, List.getElem?_zipWith]
      rcases Nat.lt_or_ge i 12 with hi | hi
      · simp [List.getElem?_eq_getElem (hl ▸ hi), List.getElem?_eq_getElem (hm ▸ hi), show i < 64 by omega]
      · simp [List.getElem?_eq_none (hl ▸ hi)]
    rw [hb, IntKind.wrap_i64]
    have h3 : bsum (List.zipWith (fun a b => a && !b) l m) < 4096 := by
      have := bsum_lt (List.zipWith (fun a b => a && !b) l m)
      rw [List.length_zipWith, hl, hm] at this
      exact this
    omega
  rw [e]
  have := bsum_ne (List.zipWith (fun a b => a && !b) l m)
  rw [Bool.eq_iff_iff]
  rw [← this]
  simp
theorem only_bool (fin e eh h ack a pad p prio r x w pay b fl f list l last t code c inc i : Bool) :
    ((fin && !e) || ((eh && !h) || ((ack && !a) || ((pad && !p) || ((prio && !r) || ((x && !(w || prio)) || ((pay && !b) || ((fl && !f) || ((list && !l) || ((last && !t) || ((code && !c) || ((inc && !i) || false))))))))))))
     = !((!fin || e) && (!eh || h) && (!ack || a) && (!prio || r) && (!pay || b) && (!fl || f) && (!pad || p) && (!code || c) && (!list || l) && (!last || t) && (!inc || i) && ((w || r && prio) || !x)) := by
  have q : ∀ a b : Bool, (a && !b) = !(!a || b) := by decide
  have q2 : ∀ a b : Bool, (!a || !b) = !(a && b) := by decide
  simp only [q]
  generalize (!fin || e) = A1
  generalize (!eh || h) = A2
  generalize (!ack || a) = A3
  generalize (!pad || p) = A4
  generalize (!pay || b) = A6
  generalize (!fl || f) = A7
  generalize (!list || l) = A8
  generalize (!last || t) = A9
  generalize (!code || c) = A10
  generalize (!inc || i) = A11
  simp only [Bool.or_false, q2]
  congr 1
  cases prio <;> cases r <;> simp only [Bool.or_false, Bool.true_or, Bool.or_true, Bool.not_true, Bool.not_false, Bool.true_and, Bool.and_true, Bool.false_and, Bool.and_false]
  · rw [show (!x || w) = (w || !x) from Bool.or_comm _ _]; ac_rfl
  · rw [show (!x || w) = (w || !x) from Bool.or_comm _ _]; ac_rfl
  · ac_rfl
theorem only_fill (f : Fm) : ((List.zipWith (fun a b => a && !b) (fillL f) (partL f.k f.prio)).any id) = !only f := by
  have h := only_bool f.fin (hE f.k) f.eh (hH f.k) f.ack (hA f.k) (f.pad != 0) (hP f.k) f.prio (hR f.k) (f.depend != 0 || f.excl || f.weight != 0) (hW f.k) (!f.pay.isEmpty) (hB f.k) (f.flags != 0) (hF f.k) (!f.list.isEmpty) (hL f.k) (f.last != 0) (hT f.k) (f.code != 0) (hC f.k) (f.inc != 0) (hI f.k)
  simp only [fillL, partL, List.zipWith, List.any_cons, List.any_nil, id]
  rw [h]
  simp only [only, Fm.weighed, bne, Bool.not_not, Bool.not_or]
/-- has p some of q -/
theorem has_bit (l : List Bool) (hl : l.length = 12) (i : Nat) (hi : i < 12) (q : Nat) (hq : q = 2 ^ i) : (bits .and .i64 (bsum l : Int) (q : Int) != 0) = l.getD i false := by
  subst hq
  have h1 : bsum l < 4096 := by have := bsum_lt l; rw [hl] at this; exact this
  have h2 : 2 ^ i < 4096 := Nat.pow_lt_pow_right (by omega) (show i < 12 from hi)
  rw [i64_and _ _ (by omega) (by omega), ← bsum_testBit]
  have e : (bsum l &&& 2 ^ i = 0) ↔ (bsum l).testBit i = false := by
    constructor
    · intro h
      have := congrArg (fun n => Nat.testBit n i) h
      simpa [Nat.testBit_and, Nat.testBit_two_pow_self] using this
    · intro h
      apply Nat.eq_of_testBit_eq
      intro j
      rw [Nat.testBit_and]
      by_cases hj : j = i
      · subst hj; simp [h]
      · simp [Nat.testBit_two_pow_of_ne (Ne.symm hj)]
  by_cases h : (bsum l).testBit i = true
  · have : ¬ bsum l &&& 2 ^ i = 0 := fun hh => by rw [e.1 hh] at h; cases h
    rw [h, Bool.eq_iff_iff]
    simp only [bne_iff_ne, ne_eq, Int.natCast_eq_zero]
    simpa using this
  · have h' : (bsum l).testBit i = false := by simpa using h
    have := e.2 h'
    rw [h', this]
    rfl
end Go.Frm

/- Several things in memory, apart from one another, each with its blocks: what a walk keeps of them. Nothing of the program. -/
namespace Go.Own
open Go.RowKit
set_option linter.unusedVariables false

/-- a thing in memory, and its blocks -/
abbrev Ob := World → (Nat → Prop) → Prop
structure Framed (O : Ob) : Prop where
  lt : ∀ w F, O w F → ∀ i, F i → i < w.heap.size
  fr : ∀ w w' F S, O w F → Fr S w w' → (∀ i, F i → ¬ S i) → O w' F
/-- things apart, T their blocks -/
def Sep (w : World) : List Ob → (Nat → Prop) → Prop
  | [], T => T = fun _ => False
  | O :: L, T => ∃ F G, Framed O ∧ O w F ∧ Sep w L G ∧ (∀ i, F i → ¬ G i) ∧ T = fun i => F i ∨ G i
section
variable {w w' : World} {L M : List Ob} {T S : Nat → Prop} {O : Ob}
theorem Sep.lt : ∀ {L : List Ob} {T : Nat → Prop}, Sep w L T → ∀ i, T i → i < w.heap.size
  | [], T, h, i, hi => by rw [Sep] at h; subst h; exact hi.elim
  | O :: L, T, h, i, hi => by
    obtain ⟨F, G, hO, hF, hG, _, rfl⟩ := h
    rcases hi with hi | hi
    · exact hO.lt _ _ hF i hi
    · exact Sep.lt hG i hi
theorem Sep.fr : ∀ {L : List Ob} {T : Nat → Prop}, Sep w L T → Fr S w w' → (∀ i, T i → ¬ S i) → Sep w' L T
  | [], T, h, _, _ => h
  | O :: L, T, h, hf, hn => by
    obtain ⟨F, G, hO, hF, hG, hd, rfl⟩ := h
    exact ⟨F, G, hO, hO.fr _ _ _ _ hF hf (fun i hi => hn i (.inl hi)), Sep.fr hG hf (fun i hi => hn i (.inr hi)), hd, rfl⟩
theorem Sep.app : ∀ {L : List Ob} {T : Nat → Prop}, Sep w (L ++ M) T → ∃ G H, Sep w L G ∧ Sep w M H ∧ (∀ i, G i → ¬ H i) ∧ T = fun i => G i ∨ H i
  | [], T, h => ⟨_, T, rfl, h, fun _ h => h.elim, by funext i; simp⟩
  | O :: L, T, h => by
    obtain ⟨F, G, hO, hF, hG, hd, rfl⟩ := h
    obtain ⟨G1, H, h1, h2, h3, rfl⟩ := Sep.app hG
    refine ⟨_, H, ⟨F, G1, hO, hF, h1, fun i hi hg => hd i hi (.inl hg), rfl⟩, h2, fun i hi => ?_, ?_⟩
    · rcases hi with hi | hi
      · exact fun hh => hd i hi (.inr hh)
      · exact h3 i hi
    · funext i
      simp [or_assoc]
theorem Sep.mk_app : ∀ {L : List Ob} {G H : Nat → Prop}, Sep w L G → Sep w M H → (∀ i, G i → ¬ H i) → Sep w (L ++ M) (fun i => G i ∨ H i)
  | [], G, H, h, k, _ => by rw [Sep] at h; subst h; simpa using k
  | O :: L, G, H, h, k, hd => by
    obtain ⟨F, G1, hO, hF, hG, hd1, rfl⟩ := h
    refine ⟨F, _, hO, hF, Sep.mk_app hG k (fun i hi => hd i (.inr hi)), fun i hi hn => ?_, ?_⟩
    · rcases hn with hn | hn
      · exact hd1 i hi hn
      · exact hd i (.inl hi) hn
    · funext i
      simp [or_assoc]
end
/-- all that a walk keeps: the things, made behind w0 or of S; nothing else has changed -/
structure St (S : Nat → Prop) (w0 w : World) (L : List Ob) : Prop where
  all : ∃ T, Sep w L T ∧ ∀ i, T i → S i ∨ w0.heap.size ≤ i
  fr : Fr S w0 w
section
variable {w0 w w' : World} {L M : List Ob} {S F : Nat → Prop} {O : Ob}
theorem St.size (s : St S w0 w L) : w0.heap.size ≤ w.heap.size := s.fr.size
theorem St.start (hO : Framed O) (h : O w F) : St F w w [O] :=
  ⟨⟨_, ⟨F, _, hO, h, rfl, fun _ _ h => h, rfl⟩, fun i hi => by rcases hi with hi | hi; exact .inl hi; exact hi.elim⟩, Fr.refl _ _⟩
theorem St.nil (S : Nat → Prop) (w : World) : St S w w [] := ⟨⟨_, rfl, fun _ h => h.elim⟩, Fr.refl _ _⟩
theorem St.goF {L1 : List Ob} {O : Ob} {L2 : List Ob} {G H2 : Nat → Prop} (F : Nat → Prop) (hF : O w F) (hO : Framed O) (hG : Sep w L1 G) (hH2 : Sep w L2 H2) (hGH : ∀ i, G i → ¬ (F i ∨ H2 i)) (hd : ∀ i, F i → ¬ H2 i) (hTS : ∀ i, G i ∨ F i ∨ H2 i → S i ∨ w0.heap.size ≤ i) (hf : Fr S w0 w) {w' : World} {O' : Ob} {M : List Ob} (k : St F w w' (O' :: M)) : St S w0 w' (L1 ++ O' :: (L2 ++ M)) := by
  obtain ⟨⟨T', hT', hTF⟩, hf'⟩ := k
  obtain ⟨F', G', hO', hF', hG', hd', rfl⟩ := hT'
  have hGw := hG.fr hf' (fun i hi hh => hGH i hi (.inl hh))
  have hHw := hH2.fr hf' (fun i hi hh => hd i hh hi)
  refine ⟨⟨_, Sep.mk_app hGw ⟨F', _, hO', hF', Sep.mk_app hHw hG' ?_, ?_, rfl⟩ ?_, ?_⟩, ?_⟩
  · intro i hi hg
    rcases hTF i (.inr hg) with h | h
    · exact hd i h hi
    · have := hH2.lt i hi; omega
  · intro i hi hn
    rcases hn with hn | hn
    · rcases hTF i (.inl hi) with h | h
      · exact hd i h hn
      · have := hH2.lt i hn; omega
    · exact hd' i hi hn
  · intro i hi hn
    have hlt := hG.lt i hi
    rcases hn with hn | hn | hn
    · rcases hTF i (.inl hn) with h | h
      · exact hGH i hi (.inl h)
      · omega
    · exact hGH i hi (.inr hn)
    · rcases hTF i (.inr hn) with h | h
      · exact hGH i hi (.inl h)
      · omega
  · intro i hi
    have hz := hf.size
    have new : w.heap.size ≤ i → S i ∨ w0.heap.size ≤ i := fun h => .inr (Nat.le_trans hz h)
    rcases hi with hi | hi | hi | hi
    · exact hTS i (.inl hi)
    · rcases hTF i (.inl hi) with h | h
      · exact hTS i (.inr (.inl h))
      · exact new h
    · exact hTS i (.inr (.inr hi))
    · rcases hTF i (.inr hi) with h | h
      · exact hTS i (.inr (.inl h))
      · exact new h
  · refine hf.trans hf' (fun i hi h => ?_)
    rcases hTS i (.inr (.inl h)) with h1 | h1
    · exact h1
    · omega
theorem St.focus (L1 : List Ob) (O : Ob) (L2 : List Ob) (s : St S w0 w (L1 ++ O :: L2)) : ∃ F, O w F ∧ Framed O ∧ (∀ i, F i → S i ∨ w0.heap.size ≤ i) ∧ ∀ w' O' M, St F w w' (O' :: M) → St S w0 w' (L1 ++ O' :: (L2 ++ M)) := by
  obtain ⟨⟨T, hT, hTS⟩, hf⟩ := s
  obtain ⟨G, H, hG, hH, hGH, rfl⟩ := hT.app
  obtain ⟨F, H2, hO, hF, hH2, hd, rfl⟩ := hH
  refine ⟨F, hF, hO, fun i hi => hTS i (.inr (.inl hi)), fun w' O' M k => St.goF F hF hO hG hH2 hGH hd hTS hf k⟩
/-- a thing, and that the others lie apart from it -/
theorem St.focusA (L1 : List Ob) (O : Ob) (L2 : List Ob) (s : St S w0 w (L1 ++ O :: L2)) : ∃ F, O w F ∧ (∀ i, F i → S i ∨ w0.heap.size ≤ i) ∧ (∀ O', O' ∈ L1 ++ L2 → ∃ F', O' w F' ∧ ∀ i, F i → ¬ F' i) ∧ ∀ w' O' M, St F w w' (O' :: M) → St S w0 w' (L1 ++ O' :: (L2 ++ M)) := by
  obtain ⟨⟨T, hT, hTS⟩, hf⟩ := s
  obtain ⟨G, H, hG, hH, hGH, rfl⟩ := hT.app
  obtain ⟨F, H2, hO, hF, hH2, hd, rfl⟩ := hH
  have mem : ∀ (L : List Ob) (T : Nat → Prop), Sep w L T → ∀ O', O' ∈ L → ∃ F', O' w F' ∧ ∀ i, F' i → T i := by
    intro L
    induction L with
    | nil => intro T _ O' h; cases h
    | cons A L ih =>
      intro T hT O' h
      obtain ⟨F1, G1, hA, h1, h2, _, rfl⟩ := hT
      rcases List.mem_cons.1 h with rfl | h
      · exact ⟨F1, h1, fun i hi => .inl hi⟩
      · obtain ⟨F', h3, h4⟩ := ih _ h2 O' h
        exact ⟨F', h3, fun i hi => .inr (h4 i hi)⟩
  refine ⟨F, hF, fun i hi => hTS i (.inr (.inl hi)), fun O' hO' => ?_, fun w' O' M k => ?_⟩
  · rcases List.mem_append.1 hO' with h | h
    · obtain ⟨F', h1, h2⟩ := mem _ _ hG O' h
      exact ⟨F', h1, fun i hi hn => hGH i (h2 i hn) (.inl hi)⟩
    · obtain ⟨F', h1, h2⟩ := mem _ _ hH2 O' h
      exact ⟨F', h1, fun i hi hn => hd i hi (h2 i hn)⟩
  · exact St.goF F hF hO hG hH2 hGH hd hTS hf k
theorem St.add (s : St S w0 w L) (k : St (fun _ => False) w w' M) : St S w0 w' (L ++ M) := by
  obtain ⟨⟨T, hT, hTS⟩, hf⟩ := s
  obtain ⟨⟨T', hT', hTF⟩, hf'⟩ := k
  have hTw := hT.fr hf' (fun i hi hh => hh)
  have new : ∀ i, T' i → w.heap.size ≤ i := fun i hi => (hTF i hi).resolve_left (fun h => h)
  refine ⟨⟨_, Sep.mk_app hTw hT' (fun i hi hn => ?_), fun i hi => ?_⟩, hf.trans hf' (fun i _ h => h.elim)⟩
  · have := hT.lt i hi
    have := new i hn
    omega
  · rcases hi with hi | hi
    · exact hTS i hi
    · exact .inr (Nat.le_trans hf.size (new i hi))
theorem St.next (s : St S w0 w L) (hb : Below w.heap.size w w') : St S w0 w' L := by
  have h := s.add (w' := w') (M := []) ⟨⟨_, rfl, fun _ h => h.elim⟩, Fr.of_below (S := fun _ => False) hb (fun i h1 h2 => by omega)⟩
  rwa [List.append_nil] at h
theorem St.alloc (s : St S w0 w L) (o : Obj) : St S w0 (w.alloc o) L := s.next ((Below.refl _ _).alloc (Nat.le_refl _) _)
theorem St.drewN (s : St S w0 w L) (n : Nat) : St S w0 (w.drewN n) L := s.next (below_drewN (Below.refl _ _) n)
theorem St.drew (s : St S w0 w L) : St S w0 w.drew L := s.drewN 1
theorem St.drop (L1 : List Ob) (O : Ob) (L2 : List Ob) (s : St S w0 w (L1 ++ O :: L2)) : St S w0 w (L1 ++ L2) := by
  obtain ⟨⟨T, hT, hTS⟩, hf⟩ := s
  obtain ⟨G, H, hG, hH, hGH, rfl⟩ := hT.app
  obtain ⟨F, H2, hO, hF, hH2, hd, rfl⟩ := hH
  refine ⟨⟨_, Sep.mk_app hG hH2 (fun i hi hn => hGH i hi (.inr hn)), fun i hi => ?_⟩, hf⟩
  rcases hi with hi | hi
  · exact hTS i (.inl hi)
  · exact hTS i (.inr (.inr hi))
theorem St.below (s : St (fun _ => False) w0 w L) : Below w0.heap.size w0 w := s.fr.below (Nat.le_refl _) (fun i _ h => h.elim)
theorem St.one (s : St S w0 w [O]) : ∃ F, O w F ∧ Framed O ∧ (∀ i, F i → S i ∨ w0.heap.size ≤ i) ∧ Fr S w0 w := by
  obtain ⟨⟨T, ⟨F, G, hO, hF, rfl, _, rfl⟩, hTS⟩, hf⟩ := s
  exact ⟨F, hF, hO, fun i hi => hTS i (.inl hi), hf⟩
theorem St.mono (s : St S w0 w L) {S' : Nat → Prop} (h : ∀ i, i < w0.heap.size → S i → S' i) : St S' w0 w L := by
  obtain ⟨⟨T, hT, hTS⟩, hf⟩ := s
  refine ⟨⟨T, hT, fun i hi => ?_⟩, hf.mono h⟩
  rcases hTS i hi with h1 | h1
  · by_cases hl : i < w0.heap.size
    · exact .inl (h i hl h1)
    · exact .inr (by omega)
  · exact .inr h1
/-- a thing that was made -/
theorem St.made (hO : Framed O) (h : O w' F) (hF : ∀ i, F i → w.heap.size ≤ i) (hb : Below w.heap.size w w') : St (fun _ => False) w w' [O] :=
  ⟨⟨_, ⟨F, _, hO, h, rfl, fun _ _ h => h, rfl⟩, fun i hi => by rcases hi with hi | hi; exact .inr (hF i hi); exact hi.elim⟩, Fr.of_below (S := fun _ => False) hb (fun i h1 h2 => by omega)⟩
/-- a thing that has changed -/
theorem St.changed {F' : Nat → Prop} {O' : Ob} (hO : Framed O') (h : O' w' F') (hF : ∀ i, F' i → F i ∨ w.heap.size ≤ i) (hf : Fr F w w') : St F w w' [O'] :=
  ⟨⟨_, ⟨F', _, hO, h, rfl, fun _ _ h => h, rfl⟩, fun i hi => by rcases hi with hi | hi; exact hF i hi; exact hi.elim⟩, hf⟩
/-- a thing told by another word -/
theorem St.as (L1 : List Ob) {O O' : Ob} (L2 : List Ob) (s : St S w0 w (L1 ++ O :: L2)) (hO : Framed O') (h : ∀ F, O w F → O' w F) : St S w0 w (L1 ++ O' :: L2) := by
  obtain ⟨⟨T, hT, hTS⟩, hf⟩ := s
  obtain ⟨G, H, hG, hH, hGH, rfl⟩ := hT.app
  obtain ⟨F, H2, hO1, hF, hH2, hd, rfl⟩ := hH
  exact ⟨⟨_, Sep.mk_app hG ⟨F, H2, hO, h F hF, hH2, hd, rfl⟩ hGH, hTS⟩, hf⟩
end
theorem St.before {S : Nat → Prop} {w w1 w' : World} {M : List Ob} (s : St S w1 w' M) (h : Fr (fun _ => False) w w1) : St S w w' M := by
  obtain ⟨⟨T, hT, hTS⟩, hf⟩ := s
  refine ⟨⟨T, hT, fun i hi => (hTS i hi).imp id (fun hh => Nat.le_trans h.size hh)⟩, (h.mono (fun _ _ h => h.elim)).trans hf (fun _ _ h => h)⟩
/-- two things change places -/
theorem St.perm2 {w0 w : World} {S : Nat → Prop} {A B : Ob} {L : List Ob} (s : St S w0 w (A :: B :: L)) : St S w0 w (B :: A :: L) := by
  obtain ⟨⟨T, ⟨F1, G, ha, h1, ⟨F2, G2, hb, h2, hG, hd2, rfl⟩, hd, rfl⟩, hTS⟩, hf⟩ := s
  refine ⟨⟨_, ⟨F2, fun i => F1 i ∨ G2 i, hb, h2, ⟨F1, G2, ha, h1, hG, fun i hi hn => hd i hi (.inr hn), rfl⟩, fun i hi hn => ?_, rfl⟩, fun i hi => hTS i ?_⟩, hf⟩
  · rcases hn with hn | hn
    · exact hd i hn (.inl hi)
    · exact hd2 i hi hn
  · rcases hi with hi | hi | hi
    · exact .inr (.inl hi)
    · exact .inl hi
    · exact .inr (.inr hi)
/-- two things as one -/
def star (A B : Ob) : Ob := fun w F => ∃ F1 F2, A w F1 ∧ B w F2 ∧ (∀ i, F1 i → ¬ F2 i) ∧ F = fun i => F1 i ∨ F2 i
theorem framed_star {A B : Ob} (ha : Framed A) (hb : Framed B) : Framed (star A B) := by
  refine ⟨fun w F h i hi => ?_, fun w w' F S h hf hn => ?_⟩
  · obtain ⟨F1, F2, h1, h2, _, rfl⟩ := h
    rcases hi with hi | hi
    · exact ha.lt _ _ h1 i hi
    · exact hb.lt _ _ h2 i hi
  · obtain ⟨F1, F2, h1, h2, hd, rfl⟩ := h
    exact ⟨F1, F2, ha.fr _ _ _ _ h1 hf (fun i hi => hn i (.inl hi)), hb.fr _ _ _ _ h2 hf (fun i hi => hn i (.inr hi)), hd, rfl⟩
theorem sep_star {w : World} {A B : Ob} {R : List Ob} {T : Nat → Prop} (ha : Framed A) (hb : Framed B) : Sep w (star A B :: R) T ↔ Sep w (A :: B :: R) T := by
  constructor
  · rintro ⟨F, G, hO, ⟨F1, F2, h1, h2, hd, rfl⟩, hG, hd2, rfl⟩
    refine ⟨F1, _, ha, h1, ⟨F2, G, hb, h2, hG, fun i hi => hd2 i (.inr hi), rfl⟩, fun i hi hn => ?_, ?_⟩
    · rcases hn with hn | hn
      · exact hd i hi hn
      · exact hd2 i (.inl hi) hn
    · funext i; simp [or_assoc]
  · rintro ⟨F1, G, ha, h1, ⟨F2, G2, hb, h2, hG, hd2, rfl⟩, hd, rfl⟩
    refine ⟨_, G2, framed_star ha hb, ⟨F1, F2, h1, h2, fun i hi hn => hd i hi (.inl hn), rfl⟩, hG, fun i hi hn => ?_, ?_⟩
    · rcases hi with hi | hi
      · exact hd i hi (.inr hn)
      · exact hd2 i hi hn
    · funext i; simp [or_assoc]
theorem sep_tail {w : World} {A : Ob} {R R' : List Ob} (h : ∀ T, Sep w R T ↔ Sep w R' T) {T : Nat → Prop} : Sep w (A :: R) T ↔ Sep w (A :: R') T := by
  constructor
  · rintro ⟨F, G, a, b, c, d, e⟩; exact ⟨F, G, a, b, (h G).1 c, d, e⟩
  · rintro ⟨F, G, a, b, c, d, e⟩; exact ⟨F, G, a, b, (h G).2 c, d, e⟩
/-- a block, a slice of the call's own -/
def BLo (p : Nat) (t : TypeId) (cs : List Value) : Ob := fun w F => Blk w p t cs ∧ F = fun i => i = p
def SLo (base : Nat) (e : TypeId) (size : Nat) (v : Value) (n : Nat) (xs : List Value) : Ob := fun w F => w.ownsRow base e size v n xs ∧ F = fun i => v.ownBlock = some i
theorem framed_BLo (p : Nat) (t : TypeId) (cs : List Value) : Framed (BLo p t cs) := by
  refine ⟨fun w F h i hi => ?_, fun w w' F S h hf hn => ?_⟩
  · obtain ⟨h, rfl⟩ := h; obtain rfl : i = p := hi; exact Blk.lt h
  · obtain ⟨h, rfl⟩ := h; exact ⟨h.fr hf (hn p rfl), rfl⟩
theorem framed_SLo (base : Nat) (e : TypeId) (size : Nat) (v : Value) (n : Nat) (xs : List Value) : Framed (SLo base e size v n xs) := by
  refine ⟨fun w F h i hi => ?_, fun w w' F S h hf hn => ?_⟩
  · obtain ⟨h, rfl⟩ := h; exact own_lt h hi
  · obtain ⟨h, rfl⟩ := h; exact ⟨own_fr h hf (fun g hg => hn g hg), rfl⟩
theorem own_lower {w : World} {b B : Nat} {e : TypeId} {size : Nat} {v : Value} {n : Nat} {xs : List Value} (h : w.ownsRow b e size v n xs) (hB : B ≤ b) : w.ownsRow B e size v n xs := by
  refine ⟨h.1, ?_⟩
  rcases h.2 with hn | ⟨g, cap, cur, rfl, hb, rest⟩
  · exact .inl hn
  · exact .inr ⟨g, cap, cur, rfl, Nat.le_trans hB hb, rest⟩
section
variable {w0 w w' : World} {S : Nat → Prop} {L : List Ob}
/-- a slice that was made -/
theorem St.made_own {e : TypeId} {size : Nat} {v : Value} {n : Nat} {xs : List Value} (h : w'.ownsRow w.heap.size e size v n xs) (hb : Below w.heap.size w w') : St (fun _ => False) w w' [SLo w.heap.size e size v n xs] :=
  St.made (framed_SLo ..) ⟨h, rfl⟩ (fun i hi => (h.lt i hi).1) hb
theorem St.blk (L1 : List Ob) {p : Nat} {t : TypeId} {cs : List Value} (L2 : List Ob) (s : St S w0 w (L1 ++ BLo p t cs :: L2)) : Blk w p t cs := by
  obtain ⟨F, ⟨h, _⟩, _⟩ := s.focus; exact h
theorem St.own (L1 : List Ob) {base : Nat} {e : TypeId} {size : Nat} {v : Value} {n : Nat} {xs : List Value} (L2 : List Ob) (s : St S w0 w (L1 ++ SLo base e size v n xs :: L2)) : w.ownsRow base e size v n xs := by
  obtain ⟨F, ⟨h, _⟩, _⟩ := s.focus; exact h
/-- a cell of a block is set -/
theorem St.set_ (L1 : List Ob) {p : Nat} {t : TypeId} {cs : List Value} (L2 : List Ob) (s : St S w0 w (L1 ++ BLo p t cs :: L2)) (i : Nat) (u : Value) : St S w0 (w.setCell ⟨p, i, none⟩ u) (L1 ++ BLo p t (cs.set i u) :: L2) := by
  obtain ⟨F, ⟨h, rfl⟩, _, _, go⟩ := s.focus
  have := go (w.setCell ⟨p, i, none⟩ u) (BLo p t (cs.set i u)) [] (St.changed (framed_BLo ..) ⟨h.set_ i u, rfl⟩ (fun i hi => .inl hi) ((Fr.refl (fun i => i = p) w).setCell (p := ⟨p, i, none⟩) (.inl rfl) u))
  rwa [List.append_nil] at this
/-- a slice that was appended to -/
theorem St.appended (L1 : List Ob) {base : Nat} {e : TypeId} {size : Nat} {v v' : Value} {n n' : Nat} {xs xs' : List Value} (L2 : List Ob) (s : St S w0 w (L1 ++ SLo base e size v n xs :: L2)) (ho : w'.ownsRow base e size v' n' xs') (hf : Fr (fun i => some i = v.ownBlock) w w')
    (h2 : v'.ownBlock = v.ownBlock ∨ v'.ownBlock = some w.heap.size) : St S w0 w' (L1 ++ SLo base e size v' n' xs' :: L2) := by
  obtain ⟨F, ⟨h, rfl⟩, _, _, go⟩ := s.focus
  have := go w' (SLo base e size v' n' xs') [] (St.changed (framed_SLo ..) ⟨ho, rfl⟩ (fun i hi => ?_) (hf.mono fun i _ e => e.symm))
  · rwa [List.append_nil] at this
  · rcases h2 with h2 | h2
    · exact .inl (h2 ▸ hi)
    · rw [h2] at hi
      cases hi
      exact .inr (Nat.le_refl _)
/-- a slice's floor is lowered -/
theorem St.floor (L1 : List Ob) {base : Nat} {e : TypeId} {size : Nat} {v : Value} {n : Nat} {xs : List Value} (L2 : List Ob) (s : St S w0 w (L1 ++ SLo base e size v n xs :: L2)) {B : Nat} (hB : B ≤ base) : St S w0 w (L1 ++ SLo B e size v n xs :: L2) :=
  s.as L1 L2 (framed_SLo ..) fun F h => ⟨own_lower h.1 hB, h.2⟩
/-- what reads a list outside S is as it was -/
theorem St.rd {size : Nat} {A : Option Addr} {n : Nat} {vs : List Value} (s : St S w0 w L) (h : Rd w0 size A n vs) (hA : ∀ a, A = some a → ¬ S a.block) : Rd w size A n vs := h.fr s.fr hA
/-- a new block -/
theorem St.block (s : St S w0 w L) (t : TypeId) (cs : List Value) : St S w0 (w.alloc (.cells cs.toArray t)) (L ++ [BLo w.heap.size t cs]) :=
  s.add (St.made (framed_BLo ..) ⟨Blk.new w t cs, rfl⟩ (fun i hi => by cases hi; exact Nat.le_refl _) ((Below.refl _ _).alloc (Nat.le_refl _) _))
end
/-! the same, the place told by a number -/
section
variable {w0 w w' : World} {S : Nat → Prop} {L2 : List Ob} {A0 A1 A2 A3 A4 O : Ob}
theorem St.focus0 (s : St S w0 w (O :: L2)) : ∃ F, O w F ∧ Framed O ∧ (∀ i, F i → S i ∨ w0.heap.size ≤ i) ∧ ∀ w' O' M, St F w w' (O' :: M) → St S w0 w' (O' :: (L2 ++ M)) := St.focus [] O L2 s
theorem St.blk0 {p : Nat} {t : TypeId} {cs : List Value} (s : St S w0 w (BLo p t cs :: L2)) : Blk w p t cs := St.blk [] L2 s
theorem St.own0 {base : Nat} {e : TypeId} {size : Nat} {v : Value} {n : Nat} {xs : List Value} (s : St S w0 w (SLo base e size v n xs :: L2)) : w.ownsRow base e size v n xs := St.own [] L2 s
theorem St.set0 {p : Nat} {t : TypeId} {cs : List Value} (s : St S w0 w (BLo p t cs :: L2)) (i : Nat) (u : Value) : St S w0 (w.setCell ⟨p, i, none⟩ u) (BLo p t (cs.set i u) :: L2) := St.set_ [] L2 s i u
theorem St.drop0 (s : St S w0 w (O :: L2)) : St S w0 w (L2) := St.drop [] O L2 s
theorem St.appended0 {base : Nat} {e : TypeId} {size : Nat} {v : Value} {n : Nat} {xs : List Value} {v' : Value} {n' : Nat} {xs' : List Value} (s : St S w0 w (SLo base e size v n xs :: L2)) (ho : w'.ownsRow base e size v' n' xs') (hf : Fr (fun i => some i = v.ownBlock) w w') (h2 : v'.ownBlock = v.ownBlock ∨ v'.ownBlock = some w.heap.size) : St S w0 w' (SLo base e size v' n' xs' :: L2) := St.appended [] L2 s ho hf h2
theorem St.floor0 {base : Nat} {e : TypeId} {size : Nat} {v : Value} {n : Nat} {xs : List Value} (s : St S w0 w (SLo base e size v n xs :: L2)) {B : Nat} (hB : B ≤ base) : St S w0 w (SLo B e size v n xs :: L2) := St.floor [] L2 s hB
theorem St.as0 {O' : Ob} (s : St S w0 w (O :: L2)) (hO : Framed O') (h : ∀ F, O w F → O' w F) : St S w0 w (O' :: L2) := St.as [] L2 s hO h
theorem St.focus1 (s : St S w0 w (A0 :: O :: L2)) : ∃ F, O w F ∧ Framed O ∧ (∀ i, F i → S i ∨ w0.heap.size ≤ i) ∧ ∀ w' O' M, St F w w' (O' :: M) → St S w0 w' (A0 :: O' :: (L2 ++ M)) := St.focus [A0] O L2 s
theorem St.blk1 {p : Nat} {t : TypeId} {cs : List Value} (s : St S w0 w (A0 :: BLo p t cs :: L2)) : Blk w p t cs := St.blk [A0] L2 s
theorem St.own1 {base : Nat} {e : TypeId} {size : Nat} {v : Value} {n : Nat} {xs : List Value} (s : St S w0 w (A0 :: SLo base e size v n xs :: L2)) : w.ownsRow base e size v n xs := St.own [A0] L2 s
theorem St.set1 {p : Nat} {t : TypeId} {cs : List Value} (s : St S w0 w (A0 :: BLo p t cs :: L2)) (i : Nat) (u : Value) : St S w0 (w.setCell ⟨p, i, none⟩ u) (A0 :: BLo p t (cs.set i u) :: L2) := St.set_ [A0] L2 s i u
theorem St.drop1 (s : St S w0 w (A0 :: O :: L2)) : St S w0 w (A0 :: L2) := St.drop [A0] O L2 s
theorem St.appended1 {base : Nat} {e : TypeId} {size : Nat} {v : Value} {n : Nat} {xs : List Value} {v' : Value} {n' : Nat} {xs' : List Value} (s : St S w0 w (A0 :: SLo base e size v n xs :: L2)) (ho : w'.ownsRow base e size v' n' xs') (hf : Fr (fun i => some i = v.ownBlock) w w') (h2 : v'.ownBlock = v.ownBlock ∨ v'.ownBlock = some w.heap.size) : St S w0 w' (A0 :: SLo base e size v' n' xs' :: L2) := St.appended [A0] L2 s ho hf h2
theorem St.floor1 {base : Nat} {e : TypeId} {size : Nat} {v : Value} {n : Nat} {xs : List Value} (s : St S w0 w (A0 :: SLo base e size v n xs :: L2)) {B : Nat} (hB : B ≤ base) : St S w0 w (A0 :: SLo B e size v n xs :: L2) := St.floor [A0] L2 s hB
theorem St.as1 {O' : Ob} (s : St S w0 w (A0 :: O :: L2)) (hO : Framed O') (h : ∀ F, O w F → O' w F) : St S w0 w (A0 :: O' :: L2) := St.as [A0] L2 s hO h
theorem St.focus2 (s : St S w0 w (A0 :: A1 :: O :: L2)) : ∃ F, O w F ∧ Framed O ∧ (∀ i, F i → S i ∨ w0.heap.size ≤ i) ∧ ∀ w' O' M, St F w w' (O' :: M) → St S w0 w' (A0 :: A1 :: O' :: (L2 ++ M)) := St.focus [A0, A1] O L2 s
theorem St.blk2 {p : Nat} {t : TypeId} {cs : List Value} (s : St S w0 w (A0 :: A1 :: BLo p t cs :: L2)) : Blk w p t cs := St.blk [A0, A1] L2 s
theorem St.own2 {base : Nat} {e : TypeId} {size : Nat} {v : Value} {n : Nat} {xs : List Value} (s : St S w0 w (A0 :: A1 :: SLo base e size v n xs :: L2)) : w.ownsRow base e size v n xs := St.own [A0, A1] L2 s
theorem St.set2 {p : Nat} {t : TypeId} {cs : List Value} (s : St S w0 w (A0 :: A1 :: BLo p t cs :: L2)) (i : Nat) (u : Value) : St S w0 (w.setCell ⟨p, i, none⟩ u) (A0 :: A1 :: BLo p t (cs.set i u) :: L2) := St.set_ [A0, A1] L2 s i u
theorem St.drop2 (s : St S w0 w (A0 :: A1 :: O :: L2)) : St S w0 w (A0 :: A1 :: L2) := St.drop [A0, A1] O L2 s
theorem St.appended2 {base : Nat} {e : TypeId} {size : Nat} {v : Value} {n : Nat} {xs : List Value} {v' : Value} {n' : Nat} {xs' : List Value} (s : St S w0 w (A0 :: A1 :: SLo base e size v n xs :: L2)) (ho : w'.ownsRow base e size v' n' xs') (hf : Fr (fun i => some i = v.ownBlock) w w') (h2 : v'.ownBlock = v.ownBlock ∨ v'.ownBlock = some w.heap.size) : St S w0 w' (A0 :: A1 :: SLo base e size v' n' xs' :: L2) := St.appended [A0, A1] L2 s ho hf h2
theorem St.floor2 {base : Nat} {e : TypeId} {size : Nat} {v : Value} {n : Nat} {xs : List Value} (s : St S w0 w (A0 :: A1 :: SLo base e size v n xs :: L2)) {B : Nat} (hB : B ≤ base) : St S w0 w (A0 :: A1 :: SLo B e size v n xs :: L2) := St.floor [A0, A1] L2 s hB
theorem St.as2 {O' : Ob} (s : St S w0 w (A0 :: A1 :: O :: L2)) (hO : Framed O') (h : ∀ F, O w F → O' w F) : St S w0 w (A0 :: A1 :: O' :: L2) := St.as [A0, A1] L2 s hO h
theorem St.focus3 (s : St S w0 w (A0 :: A1 :: A2 :: O :: L2)) : ∃ F, O w F ∧ Framed O ∧ (∀ i, F i → S i ∨ w0.heap.size ≤ i) ∧ ∀ w' O' M, St F w w' (O' :: M) → St S w0 w' (A0 :: A1 :: A2 :: O' :: (L2 ++ M)) := St.focus [A0, A1, A2] O L2 s
theorem St.blk3 {p : Nat} {t : TypeId} {cs : List Value} (s : St S w0 w (A0 :: A1 :: A2 :: BLo p t cs :: L2)) : Blk w p t cs := St.blk [A0, A1, A2] L2 s
theorem St.own3 {base : Nat} {e : TypeId} {size : Nat} {v : Value} {n : Nat} {xs : List Value} (s : St S w0 w (A0 :: A1 :: A2 :: SLo base e size v n xs :: L2)) : w.ownsRow base e size v n xs := St.own [A0, A1, A2] L2 s
theorem St.set3 {p : Nat} {t : TypeId} {cs : List Value} (s : St S w0 w (A0 :: A1 :: A2 :: BLo p t cs :: L2)) (i : Nat) (u : Value) : St S w0 (w.setCell ⟨p, i, none⟩ u) (A0 :: A1 :: A2 :: BLo p t (cs.set i u) :: L2) := St.set_ [A0, A1, A2] L2 s i u
theorem St.drop3 (s : St S w0 w (A0 :: A1 :: A2 :: O :: L2)) : St S w0 w (A0 :: A1 :: A2 :: L2) := St.drop [A0, A1, A2] O L2 s
theorem St.appended3 {base : Nat} {e : TypeId} {size : Nat} {v : Value} {n : Nat} {xs : List Value} {v' : Value} {n' : Nat} {xs' : List Value} (s : St S w0 w (A0 :: A1 :: A2 :: SLo base e size v n xs :: L2)) (ho : w'.ownsRow base e size v' n' xs') (hf : Fr (fun i => some i = v.ownBlock) w w') (h2 : v'.ownBlock = v.ownBlock ∨ v'.ownBlock = some w.heap.size) : St S w0 w' (A0 :: A1 :: A2 :: SLo base e size v' n' xs' :: L2) := St.appended [A0, A1, A2] L2 s ho hf h2
theorem St.floor3 {base : Nat} {e : TypeId} {size : Nat} {v : Value} {n : Nat} {xs : List Value} (s : St S w0 w (A0 :: A1 :: A2 :: SLo base e size v n xs :: L2)) {B : Nat} (hB : B ≤ base) : St S w0 w (A0 :: A1 :: A2 :: SLo B e size v n xs :: L2) := St.floor [A0, A1, A2] L2 s hB
theorem St.as3 {O' : Ob} (s : St S w0 w (A0 :: A1 :: A2 :: O :: L2)) (hO : Framed O') (h : ∀ F, O w F → O' w F) : St S w0 w (A0 :: A1 :: A2 :: O' :: L2) := St.as [A0, A1, A2] L2 s hO h
theorem St.focus4 (s : St S w0 w (A0 :: A1 :: A2 :: A3 :: O :: L2)) : ∃ F, O w F ∧ Framed O ∧ (∀ i, F i → S i ∨ w0.heap.size ≤ i) ∧ ∀ w' O' M, St F w w' (O' :: M) → St S w0 w' (A0 :: A1 :: A2 :: A3 :: O' :: (L2 ++ M)) := St.focus [A0, A1, A2, A3] O L2 s
theorem St.blk4 {p : Nat} {t : TypeId} {cs : List Value} (s : St S w0 w (A0 :: A1 :: A2 :: A3 :: BLo p t cs :: L2)) : Blk w p t cs := St.blk [A0, A1, A2, A3] L2 s
theorem St.own4 {base : Nat} {e : TypeId} {size : Nat} {v : Value} {n : Nat} {xs : List Value} (s : St S w0 w (A0 :: A1 :: A2 :: A3 :: SLo base e size v n xs :: L2)) : w.ownsRow base e size v n xs := St.own [A0, A1, A2, A3] L2 s
theorem St.set4 {p : Nat} {t : TypeId} {cs : List Value} (s : St S w0 w (A0 :: A1 :: A2 :: A3 :: BLo p t cs :: L2)) (i : Nat) (u : Value) : St S w0 (w.setCell ⟨p, i, none⟩ u) (A0 :: A1 :: A2 :: A3 :: BLo p t (cs.set i u) :: L2) := St.set_ [A0, A1, A2, A3] L2 s i u
theorem St.drop4 (s : St S w0 w (A0 :: A1 :: A2 :: A3 :: O :: L2)) : St S w0 w (A0 :: A1 :: A2 :: A3 :: L2) := St.drop [A0, A1, A2, A3] O L2 s
theorem St.appended4 {base : Nat} {e : TypeId} {size : Nat} {v : Value} {n : Nat} {xs : List Value} {v' : Value} {n' : Nat} {xs' : List Value} (s : St S w0 w (A0 :: A1 :: A2 :: A3 :: SLo base e size v n xs :: L2)) (ho : w'.ownsRow base e size v' n' xs') (hf : Fr (fun i => some i = v.ownBlock) w w') (h2 : v'.ownBlock = v.ownBlock ∨ v'.ownBlock = some w.heap.size) : St S w0 w' (A0 :: A1 :: A2 :: A3 :: SLo base e size v' n' xs' :: L2) := St.appended [A0, A1, A2, A3] L2 s ho hf h2
theorem St.floor4 {base : Nat} {e : TypeId} {size : Nat} {v : Value} {n : Nat} {xs : List Value} (s : St S w0 w (A0 :: A1 :: A2 :: A3 :: SLo base e size v n xs :: L2)) {B : Nat} (hB : B ≤ base) : St S w0 w (A0 :: A1 :: A2 :: A3 :: SLo B e size v n xs :: L2) := St.floor [A0, A1, A2, A3] L2 s hB
theorem St.as4 {O' : Ob} (s : St S w0 w (A0 :: A1 :: A2 :: A3 :: O :: L2)) (hO : Framed O') (h : ∀ F, O w F → O' w F) : St S w0 w (A0 :: A1 :: A2 :: A3 :: O' :: L2) := St.as [A0, A1, A2, A3] L2 s hO h
theorem St.focus5 (s : St S w0 w (A0 :: A1 :: A2 :: A3 :: A4 :: O :: L2)) : ∃ F, O w F ∧ Framed O ∧ (∀ i, F i → S i ∨ w0.heap.size ≤ i) ∧ ∀ w' O' M, St F w w' (O' :: M) → St S w0 w' (A0 :: A1 :: A2 :: A3 :: A4 :: O' :: (L2 ++ M)) := St.focus [A0, A1, A2, A3, A4] O L2 s
theorem St.blk5 {p : Nat} {t : TypeId} {cs : List Value} (s : St S w0 w (A0 :: A1 :: A2 :: A3 :: A4 :: BLo p t cs :: L2)) : Blk w p t cs := St.blk [A0, A1, A2, A3, A4] L2 s
theorem St.own5 {base : Nat} {e : TypeId} {size : Nat} {v : Value} {n : Nat} {xs : List Value} (s : St S w0 w (A0 :: A1 :: A2 :: A3 :: A4 :: SLo base e size v n xs :: L2)) : w.ownsRow base e size v n xs := St.own [A0, A1, A2, A3, A4] L2 s
theorem St.set5 {p : Nat} {t : TypeId} {cs : List Value} (s : St S w0 w (A0 :: A1 :: A2 :: A3 :: A4 :: BLo p t cs :: L2)) (i : Nat) (u : Value) : St S w0 (w.setCell ⟨p, i, none⟩ u) (A0 :: A1 :: A2 :: A3 :: A4 :: BLo p t (cs.set i u) :: L2) := St.set_ [A0, A1, A2, A3, A4] L2 s i u
theorem St.drop5 (s : St S w0 w (A0 :: A1 :: A2 :: A3 :: A4 :: O :: L2)) : St S w0 w (A0 :: A1 :: A2 :: A3 :: A4 :: L2) := St.drop [A0, A1, A2, A3, A4] O L2 s
theorem St.appended5 {base : Nat} {e : TypeId} {size : Nat} {v : Value} {n : Nat} {xs : List Value} {v' : Value} {n' : Nat} {xs' : List Value} (s : St S w0 w (A0 :: A1 :: A2 :: A3 :: A4 :: SLo base e size v n xs :: L2)) (ho : w'.ownsRow base e size v' n' xs') (hf : Fr (fun i => some i = v.ownBlock) w w') (h2 : v'.ownBlock = v.ownBlock ∨ v'.ownBlock = some w.heap.size) : St S w0 w' (A0 :: A1 :: A2 :: A3 :: A4 :: SLo base e size v' n' xs' :: L2) := St.appended [A0, A1, A2, A3, A4] L2 s ho hf h2
theorem St.floor5 {base : Nat} {e : TypeId} {size : Nat} {v : Value} {n : Nat} {xs : List Value} (s : St S w0 w (A0 :: A1 :: A2 :: A3 :: A4 :: SLo base e size v n xs :: L2)) {B : Nat} (hB : B ≤ base) : St S w0 w (A0 :: A1 :: A2 :: A3 :: A4 :: SLo B e size v n xs :: L2) := St.floor [A0, A1, A2, A3, A4] L2 s hB
theorem St.as5 {O' : Ob} (s : St S w0 w (A0 :: A1 :: A2 :: A3 :: A4 :: O :: L2)) (hO : Framed O') (h : ∀ F, O w F → O' w F) : St S w0 w (A0 :: A1 :: A2 :: A3 :: A4 :: O' :: L2) := St.as [A0, A1, A2, A3, A4] L2 s hO h
end
section
variable {w0 w w' : World} {S : Nat → Prop} {L2 : List Ob} {A0 A1 A2 A3 A4 A5 A6 A7 O : Ob}
theorem St.blk6 {p : Nat} {t : TypeId} {cs : List Value} (s : St S w0 w (A0 :: A1 :: A2 :: A3 :: A4 :: A5 :: BLo p t cs :: L2)) : Blk w p t cs := St.blk [A0, A1, A2, A3, A4, A5] L2 s
theorem St.own6 {base : Nat} {e : TypeId} {size : Nat} {v : Value} {n : Nat} {xs : List Value} (s : St S w0 w (A0 :: A1 :: A2 :: A3 :: A4 :: A5 :: SLo base e size v n xs :: L2)) : w.ownsRow base e size v n xs := St.own [A0, A1, A2, A3, A4, A5] L2 s
theorem St.drop6 (s : St S w0 w (A0 :: A1 :: A2 :: A3 :: A4 :: A5 :: O :: L2)) : St S w0 w (A0 :: A1 :: A2 :: A3 :: A4 :: A5 :: L2) := St.drop [A0, A1, A2, A3, A4, A5] O L2 s
theorem St.blk7 {p : Nat} {t : TypeId} {cs : List Value} (s : St S w0 w (A0 :: A1 :: A2 :: A3 :: A4 :: A5 :: A6 :: BLo p t cs :: L2)) : Blk w p t cs := St.blk [A0, A1, A2, A3, A4, A5, A6] L2 s
theorem St.own7 {base : Nat} {e : TypeId} {size : Nat} {v : Value} {n : Nat} {xs : List Value} (s : St S w0 w (A0 :: A1 :: A2 :: A3 :: A4 :: A5 :: A6 :: SLo base e size v n xs :: L2)) : w.ownsRow base e size v n xs := St.own [A0, A1, A2, A3, A4, A5, A6] L2 s
theorem St.drop7 (s : St S w0 w (A0 :: A1 :: A2 :: A3 :: A4 :: A5 :: A6 :: O :: L2)) : St S w0 w (A0 :: A1 :: A2 :: A3 :: A4 :: A5 :: A6 :: L2) := St.drop [A0, A1, A2, A3, A4, A5, A6] O L2 s
theorem St.blk8 {p : Nat} {t : TypeId} {cs : List Value} (s : St S w0 w (A0 :: A1 :: A2 :: A3 :: A4 :: A5 :: A6 :: A7 :: BLo p t cs :: L2)) : Blk w p t cs := St.blk [A0, A1, A2, A3, A4, A5, A6, A7] L2 s
theorem St.own8 {base : Nat} {e : TypeId} {size : Nat} {v : Value} {n : Nat} {xs : List Value} (s : St S w0 w (A0 :: A1 :: A2 :: A3 :: A4 :: A5 :: A6 :: A7 :: SLo base e size v n xs :: L2)) : w.ownsRow base e size v n xs := St.own [A0, A1, A2, A3, A4, A5, A6, A7] L2 s
theorem St.drop8 (s : St S w0 w (A0 :: A1 :: A2 :: A3 :: A4 :: A5 :: A6 :: A7 :: O :: L2)) : St S w0 w (A0 :: A1 :: A2 :: A3 :: A4 :: A5 :: A6 :: A7 :: L2) := St.drop [A0, A1, A2, A3, A4, A5, A6, A7] O L2 s
end
end Go.Own
