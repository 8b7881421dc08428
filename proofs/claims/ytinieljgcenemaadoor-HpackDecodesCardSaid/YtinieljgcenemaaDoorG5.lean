/- The program's table: shrink · The program's table: New, SetMax · Laws for the walk: copy of elements of k cells onto a block that is known whole; append of zeros that grows · slices.Insert of one field at the front: its three roads · The program's table: Add · The program's table: Clone · The statement 'for .. := range x.m' over a method value (the function bears its receiver): a law of our own over the library's step. Nothing of the program · The program's table: fields, the iterator over all fields · The program's table: Find · The program's table, as the laws' walks take it: the interface over the texts PTs to PTz -/
import Derived.Test.YtinieljgcenemaaDoorG4
import Derived.Lib.AppendZerosOnto
import Derived.Lib.Overlaps
import Derived.Laws.CopyRow
import Derived.Laws.Externs
import Derived.Lib.LazyBuf
import Derived.RangeFuncNested
import Derived.RangeFuncBound
import Derived.RangeFuncCalls
import Derived.RangeFuncLeaves
import Derived.RangeFuncFrom
import Derived.RangeFuncWrites
import Derived.RangeFuncBox
import Derived.OwnWalkIn
import Derived.TacticsInMore
import Derived.LoopNIn
import Derived.LoopIn
import Derived.Shelf.Abstract
import Derived.Shelf.RegionOpen
namespace Go.Proofs.YtinieljgcenemaaDoor
open Go.RowKit Go.Own Go.Tbl
set_option linter.unusedVariables false
attribute [local go_sem ↓] Go.wp_at_zero Go.wp_at_succ

/-- what is left when no more than m is to be there -/
def shrL (m : Int) (l : List Fld) : List Fld := if 0 ≤ m then pre m.toNat l else []
theorem shrL_of (m : Int) (k : Nat) (l : List Fld) (hk : k ≤ l.length) (h1 : k = 0 ∨ ((szs (l.take k) : Nat) : Int) ≤ m) (h2 : k < l.length → m < ((szs (l.take (k + 1)) : Nat) : Int)) : shrL m l = l.take k := by
  unfold shrL
  split
  · rename_i hm
    refine pre_of_take _ _ k hk ?_ ?_
    · rcases h1 with rfl | h1
      · simp [szs]
      · omega
    · intro f hf
      have hkl := (List.getElem?_eq_some_iff.1 hf).1
      have := h2 hkl
      rw [szs_take_succ l k f hf] at this
      omega
  · rename_i hm
    rcases h1 with rfl | h1
    · simp
    · omega
theorem pSize_n (a b : ByteArray) (nv : Bool) (ha : a.size ≤ 140737488355328) (hb : b.size ≤ 140737488355328) (N : Nat) (hN : a.size + b.size + 32 = N) (w : World) : Calls Tryd.prog 55 #[.agg #[.string a, .string b, .bool nv]] w fun e w' => e = .returned (.int .i64 (N : Int)) ∧ Below w.heap.size w w' := by
  subst hN
  exact pSize_c ⟨a, b, nv⟩ ⟨ha, hb⟩ w
theorem take_set_ge {α : Type} (l : List α) (i k : Nat) (x : α) (h : k ≤ i) : (l.set i x).take k = l.take k := by
  rw [List.take_set, List.set_eq_of_length_le]
  rw [List.length_take]
  omega
/-- the last entry goes -/
theorem PTx.cut {w : World} {p b g c h q : Nat} {l : List Fld} (t : PTx w p (some ⟨b, 0, none⟩) (g + 1) c h l) (hq : szs (l.take g) = q) (x y z : Value) :
    PTx (((((w.setCell ⟨p, 1, none⟩ (.int .i64 (q : Int))).setCell ⟨b, g * 3, none⟩ x).setCell ⟨b, g * 3 + 1, none⟩ y).setCell ⟨b, g * 3 + 2, none⟩ z).setCell ⟨p, 0, none⟩ (.slice (some ⟨b, 0, none⟩) g c)) p (some ⟨b, 0, none⟩) g c h (l.take g) := by
  have hne : b ≠ p := t.ne _ rfl
  have hne' : p ≠ b := fun e => hne e.symm
  obtain ⟨cur, hb, hnc, hcm, hcl, htk⟩ := own_blk t.own
  have h1 := (((t.at_.set_ 1 (.int .i64 (q : Int))).far (p := ⟨b, g * 3, none⟩) hne' x).far (p := ⟨b, g * 3 + 1, none⟩) hne' y).far (p := ⟨b, g * 3 + 2, none⟩) hne' z
  have h2 := ((((hb.far (p := ⟨p, 1, none⟩) hne (.int .i64 (q : Int))).set_ (g * 3) x).set_ (g * 3 + 1) y).set_ (g * 3 + 2) z).far (p := ⟨p, 0, none⟩) hne (.slice (some ⟨b, 0, none⟩) g c)
  have hsm := szs_take_mono l g l.length (by rw [t.len]; omega)
  rw [List.take_length] at hsm
  refine ⟨?_, ?_, fun f hf => t.ok f (List.mem_of_mem_take hf), by have := t.small; omega, t.top⟩
  · rw [hq]
    exact h1.set_ 0 (.slice (some ⟨b, 0, none⟩) g c)
  · have h3 := own_of_blk (n := g) (size := 3) (cap := c) h2 (by simp [hcl]) (by omega) hcm
    rw [take_set_ge _ _ _ _ (by omega), take_set_ge _ _ _ _ (by omega), take_set_ge _ _ _ _ (by omega)] at h3
    have h4 : cur.take (g * 3) = fcellsL (l.take g) := by
      rw [← fcellsL_take, ← htk, List.take_take, Nat.min_eq_left (by omega)]
    rw [h4] at h3
    exact h3
theorem PTx.cutFr {w0 w : World} {p b : Nat} (S : Nat → Prop) (hf : Fr S w0 w) (hp : S p) (hb : S b) (q1 q2 q3 q4 q5 : Value) (i j k : Nat) :
    Fr S w0 (((((w.setCell ⟨p, 1, none⟩ q1).setCell ⟨b, i, none⟩ q2).setCell ⟨b, j, none⟩ q3).setCell ⟨b, k, none⟩ q4).setCell ⟨p, 0, none⟩ q5) :=
  ((((hf.setCell (p := ⟨p, 1, none⟩) (.inl hp) _).setCell (p := ⟨b, i, none⟩) (.inl hb) _).setCell (p := ⟨b, j, none⟩) (.inl hb) _).setCell (p := ⟨b, k, none⟩) (.inl hb) _).setCell (p := ⟨p, 0, none⟩) (.inl hp) _
/-- the blocks of a table -/
def tblS (p : Nat) (A : Option Addr) (i : Nat) : Prop := i = p ∨ ∃ a, A = some a ∧ a.block = i
def ShrP (w : World) (p : Nat) (A : Option Addr) (c h : Nat) (L : List Fld) (e : Ending) (w' : World) : Prop := ∃ k, e = .returned (.tuple #[]) ∧ PTx w' p A k c h L ∧ Fr (tblS p A) w w'
set_option maxRecDepth 100000 in
set_option maxHeartbeats 4000000 in
theorem xshrink_any {w : World} {p : Nat} {A : Option Addr} {n c h : Nat} {l : List Fld} (t : PTx w p A n c h l) (m : Int) (hm : i64 m) :
    Calls Tryd.prog 71 #[.pointer (some ⟨p, 0, none⟩), .int .i64 m] w (ShrP w p A c h (shrL m l)) := by
  have Ht := Lib.hid t
  have hl := t.len
  have Hl := Lib.hid hl
  have hsz := t.small
  have Hsz := Lib.hid hsz
  have hn := t.n_small
  clear t hl hsz
  go_enter Tryd.func71, Tryd.ntmps71
  go_wp2
  go_loopg [4] n (fun gh x w' => gh ≤ n ∧ PTx w' p A gh c h (l.take gh) ∧ Fr (tblS p A) w w' ∧ (gh < n → m < ((szs (l.take (gh + 1)) : Nat) : Int)))
  case atStart =>
    refine ⟨Nat.le_refl _, ?_, Fr.refl _ _, fun h => absurd h (Nat.lt_irrefl _)⟩
    rw [List.take_of_length_le (by rw [Hl.out]; exact Nat.le_refl _)]
    exact Ht.out
  case round =>
    obtain ⟨hgn, ht, hf, hd⟩ := hrel
    have HT := Lib.hid ht
    have HF := Lib.hid hf
    have HD := Lib.hid hd
    obtain ⟨c0, c1, c2⟩ := ht.cells
    clear ht hf hd
    cases gk with
    | zero =>
      have hend : l.take 0 = shrL m l := (shrL_of m 0 l (by omega) (.inl rfl) (fun hk => HD.out (by have := Hl.out; omega))).symm
      have Hend := Lib.hid hend
      clear hend
      have e0 : szs (l.take 0) = 0 := by simp [szs]
      rw [e0] at c1
      by_cases hc : m < 0
      · have kb : decide (m < 0) = true := decide_eq_true hc
        go_wp2
        go_end0
        exact ⟨0, rfl, Hend.out ▸ HT.out, HF.out⟩
      · have kb : decide (m < 0) = false := decide_eq_false hc
        go_wp2
        go_end0
        exact ⟨0, rfl, Hend.out ▸ HT.out, HF.out⟩
    | succ g =>
      obtain ⟨q, hq⟩ : ∃ q, szs (l.take (g + 1)) = q := ⟨_, rfl⟩
      rw [hq] at c1
      have hql : q ≤ 65536 := by
        have h1 := szs_take_mono l (g + 1) l.length (by have := Hl.out; omega)
        rw [List.take_length, hq] at h1
        have := Hsz.out
        omega
      by_cases hc : m < (q : Int)
      · have kb : decide (m < (q : Int)) = true := decide_eq_true hc
        obtain ⟨f, hfe⟩ : ∃ f, (l.take (g + 1))[g]? = some f := ⟨_, List.getElem?_eq_getElem (by rw [List.length_take, Hl.out]; omega)⟩
        obtain ⟨N, hN⟩ : ∃ N, f.n.size + f.v.size + 32 = N := ⟨_, rfl⟩
        obtain ⟨q2, hq2⟩ : ∃ q2, szs (l.take g) = q2 := ⟨_, rfl⟩
        have hqq : q2 + N = q := by
          have h1 := szs_take_succ l g f (by rw [List.getElem?_take] at hfe; split at hfe; exact hfe; cases hfe)
          rw [hq, hq2] at h1
          rw [h1, ← hN]
          rfl
        have e1 : (q : Int) - (N : Int) = (q2 : Int) := by omega
        have e2 : IntKind.i64.wrap (q2 : Int) = (q2 : Int) := by rw [IntKind.wrap_i64]; omega
        obtain ⟨ho1, ho2⟩ := (HT.out.ok f (List.mem_of_getElem? hfe)).1
        obtain ⟨b, o, rfl, d0, d1, d2⟩ := rd_fld HT.out.rd hfe
        obtain ⟨_, _, _, _, _, _, hoff⟩ := own_shape HT.out.own
        obtain ⟨rfl, -⟩ : o = 0 ∧ True := ⟨(hoff _ (by rename_i he _ _ _; simp only [Value.slice.injEq] at he; exact he.1.symm)).1, trivial⟩
        simp only [Nat.zero_add] at d0 d1 d2
        clear hoff
        have hgs : IntKind.i64.wrap (((g + 1 : Nat) : Int) - 1) = (g : Int) := by rw [IntKind.wrap_i64]; omega
        have hgl : g < g + 1 := by omega
        have Hq2 := Lib.hid hq2
        have Hq := Lib.hid hq
        have HN := Lib.hid hN
        have Hqq := Lib.hid hqq
        have Hfe := Lib.hid hfe
        clear hq hq2 hN hqq hfe
        go_wp2
        have HTd : Hid (PTx wr.drew p (some ⟨b, 0, none⟩) (g + 1) c h (l.take (g + 1))) := HT.out.drewN 1
        have HFd : Hid (Fr (tblS p (some ⟨b, 0, none⟩)) w wr.drew) := HF.out.drewN 1
        go_region_with
          (first
          | (go_at_call 55; (with_reducible refine (pSize_n f.n f.v f.nv ho1 ho2 N HN.out _).mono ?_); rintro e w2 ⟨rfl, b2⟩
             have HT2 := Lib.hid (HTd.out.below b2)
             have HF2 := Lib.hid (HFd.out.trans (Fr.of_below (S := fun i => wr.drew.heap.size ≤ i) b2 (fun _ _ h => h)) (fun i hi h => by have := HF.out.size; have e : wr.drew.heap.size = wr.heap.size := rfl; omega))
             obtain ⟨v0, v1, v2⟩ := HT2.out.cells
             rw [Hq.out] at v1
             have z0 := HT2.out.at_.frozen 0
             have z1 := HT2.out.at_.frozen 1
             obtain ⟨cur, hcur, _, _, hcl, _⟩ := own_blk HT2.out.own
             have y0 := hcur.frozen (g * 3)
             have y1 := hcur.frozen (g * 3 + 1)
             have y2 := hcur.frozen (g * 3 + 2)
             obtain ⟨bb, oo, eA, x0, x1, x2⟩ := rd_fld HT2.out.rd Hfe.out
             cases eA
             simp only [Nat.zero_add] at x0 x1 x2
             have hbp : b ≠ p := HT2.out.ne _ rfl
             have hpb : p ≠ b := fun e => hbp e.symm
             have hgc : g ≤ c := by have := (own_len HT2.out.own).1; omega
             clear hcur hcl b2))
        all_goals
          clear e1 e2 hgs
          go_wp2
          go_roundg g
          case measure => omega
          case rel =>
            have h3 := PTx.cut HT2.out (q := q2) (by rw [List.take_take, Nat.min_eq_left (by omega)]; exact Hq2.out) (.string ⟨#[]⟩) (.string ⟨#[]⟩) (.bool false)
            rw [List.take_take, Nat.min_eq_left (by omega)] at h3
            exact ⟨by omega, h3, PTx.cutFr _ HF2.out (.inl rfl) (.inr ⟨_, rfl, rfl⟩) _ _ _ _ _ _ _ _, fun _ => by rw [Hq.out]; exact hc⟩
      · have kb : decide (m < (q : Int)) = false := decide_eq_false hc
        have hend : l.take (g + 1) = shrL m l := (shrL_of m (g + 1) l (by have := Hl.out; omega) (.inr (by rw [hq]; omega)) (fun hk => HD.out (by have := Hl.out; omega))).symm
        have Hend := Lib.hid hend
        clear hend
        clear hq
        go_wp2
        go_end0
        exact ⟨g + 1, rfl, Hend.out ▸ HT.out, HF.out⟩
end Go.Proofs.YtinieljgcenemaaDoor
namespace Go.Proofs.YtinieljgcenemaaDoor
open Go.RowKit Go.Own Go.Tbl
set_option linter.unusedVariables false
attribute [local go_sem ↓] Go.wp_at_zero Go.wp_at_succ

theorem rightMax_n (x : Int) (hx : i64 x) (H : Nat) (hH : clampI x = H) (w : World) : Calls Tryd.prog 49 #[.int .i64 x] w fun e w' => e = .returned (.int .i64 (H : Int)) ∧ w' = w := by
  subst hH
  exact rightMax_any x hx w
def NewP (w : World) (h : Nat) (e : Ending) (w' : World) : Prop := ∃ p, e = .returned (.pointer (some ⟨p, 0, none⟩)) ∧ w.heap.size ≤ p ∧ PTx w' p none 0 0 h [] ∧ Below w.heap.size w w'
set_option maxRecDepth 100000 in
theorem xNew_c (x : Int) (hx : i64 x) (w : World) : Calls Tryd.prog 35 #[.int .i64 x] w (NewP w (clampI x)) := by
  have hle := clampI_le x
  obtain ⟨H, hH⟩ : ∃ H, clampI x = H := ⟨_, rfl⟩
  rw [hH] at hle ⊢
  have HH := Lib.hid hH
  clear hH
  go_enter Tryd.func35, Tryd.ntmps35
  go_wp2_with (first
    | (go_at_call 49; (with_reducible refine (rightMax_n x hx H HH.out _).mono ?_); rintro e w2 ⟨rfl, rfl⟩))
  go_ret
  exact ⟨_, rfl, Nat.le_refl _, ⟨Blk.new _ 86 [.slice none 0 0, .int .i64 0, .int .i64 (H : Int)], World.ownsRow_nil _ _ _ _, by simp, by simp [szs], hle⟩, (Below.refl _ _).alloc (Nat.le_refl _) _⟩
def SetP (w : World) (p : Nat) (A : Option Addr) (c h : Nat) (L : List Fld) (e : Ending) (w' : World) : Prop := ∃ k, e = .returned (.tuple #[]) ∧ PTx w' p A k c h L ∧ Fr (tblS p A) w w'
theorem xshrink_n {w : World} {p : Nat} {A : Option Addr} {n c h : Nat} {l : List Fld} (t : PTx w p A n c h l) (m : Int) (hm : i64 m) (L : List Fld) (hL : shrL m l = L) :
    Calls Tryd.prog 71 #[.pointer (some ⟨p, 0, none⟩), .int .i64 m] w (ShrP w p A c h L) := by
  subst hL
  exact xshrink_any t m hm
set_option maxRecDepth 100000 in
set_option maxHeartbeats 1000000 in
theorem xSetMax_c {w : World} {p : Nat} {A : Option Addr} {n c h : Nat} {l : List Fld} (t : PTx w p A n c h l) (x : Int) (hx : i64 x) :
    Calls Tryd.prog 66 #[.pointer (some ⟨p, 0, none⟩), .int .i64 x] w (SetP w p A c (clampI x) (pre (clampI x) l)) := by
  have hle := clampI_le x
  obtain ⟨H, hH⟩ : ∃ H, clampI x = H := ⟨_, rfl⟩
  rw [hH] at hle ⊢
  obtain ⟨L, hL⟩ : ∃ L, pre H l = L := ⟨_, rfl⟩
  rw [hL]
  have hL2 : shrL (H : Int) l = L := by unfold shrL; rw [if_pos (by omega), Int.toNat_natCast, hL]
  have HH := Lib.hid hH
  have HL := Lib.hid hL2
  have hi : i64 (H : Int) := by unfold i64; omega
  obtain ⟨c0, c1, c2⟩ := t.cells
  have z2 := t.at_.frozen 2
  have T2 : Hid (PTx (w.setCell ⟨p, 2, none⟩ (.int .i64 (H : Int))) p A n c H l) :=
    have hf := (Fr.refl (· = p) w).setCell (p := ⟨p, 2, none⟩) (.inl rfl) (.int .i64 (H : Int))
    ⟨t.at_.set_ 2 (.int .i64 (H : Int)), own_fr t.own hf (fun g hg e => own_ne_blk t.own t.at_ (by decide) (by rw [hg, e])), t.ok, t.small, hle⟩
  have F2 : Hid (Fr (tblS p A) w (w.setCell ⟨p, 2, none⟩ (.int .i64 (H : Int)))) := (Fr.refl _ w).setCell (p := ⟨p, 2, none⟩) (.inl (.inl rfl)) _
  obtain ⟨r0, r1, r2⟩ := T2.out.cells
  clear hH hL hL2 t
  go_enter Tryd.func66, Tryd.ntmps66
  go_wp2_with (first
    | (go_at_call 49; (with_reducible refine (rightMax_n x hx H HH.out _).mono ?_); rintro e w2 ⟨rfl, rfl⟩)
    | (go_at_call 71; (with_reducible refine (xshrink_n T2.out (H : Int) hi L HL.out).mono ?_); rintro e w3 ⟨k, rfl, h3, hf3⟩; have H3 := Lib.hid h3; have HF3 := Lib.hid (F2.out.trans hf3 (fun _ _ h => h)); clear h3 hf3))
  go_end0
  exact ⟨k, rfl, H3.out, HF3.out⟩
end Go.Proofs.YtinieljgcenemaaDoor
namespace Go.Own
open Go.RowKit

theorem run_copy_rowK {P : Program} {w : World} {dT sT ty elem : TypeId} {k g o dLen dCap : Nat} {s0 b sLen sCap : Nat} {cur : List Value} {t : TypeId} {cs : List Value}
    (hu : P.underlying dT = some (.slice elem)) (hs : (P.info? elem).map (·.size) = some k) (hg : Blk w g t cur) (m : Nat) (hm : Nat.min sLen dLen = m) (hn : cs.length = m * k)
    (hsrc : ∀ j v, cs[j]? = some v → w.cell? ⟨b, s0 + j, none⟩ = some v) (hfit : o + cs.length ≤ cur.length) (h1 : ∀ v ∈ cs, v.oneCell' = true) :
    (Builtin.copy_ #[dT, sT] ty #[.slice (some ⟨g, o, none⟩) dLen dCap, .slice (some ⟨b, s0, none⟩) sLen sCap]).run P w =
      .ok (goInt (m : Nat)) (w.setRow g (splice cur o cs).toArray) := by
  have hl := run_loadCells_list (P := P) w ⟨b, s0, none⟩ cs (fun j v hj => by rw [add_plain]; exact hsrc j v hj)
  have hst := run_storeCells_at P g o t cs 0 cur.toArray w hg (by simpa using hfit) h1
  cases hq : P.info? elem with
  | none => simp [hq] at hs
  | some i =>
    have hi : i.size = k := by simpa [hq] using hs
    rw [hn] at hl
    simp only [Nat.add_zero] at hst
    have he : (splice cur o cs) = cur.take o ++ cs ++ cur.drop (o + cs.length) := by rw [splice, List.append_assoc]
    rw [he]
    have hm' : min sLen dLen = m := hm
    simp [Builtin.copy_, run_underlying hu, Builtin.lenOf, Builtin.firstCells, sizeOf, typeInfo, hq, hi, hm', hl, hst]
theorem blk_setRow {w : World} {g : Nat} {t : TypeId} {cur cs : List Value} (h : Blk w g t cur) : Blk (w.setRow g cs.toArray) g t cs := setRow_heap w g _ _ t _ h
theorem fr_setRow (w : World) (g : Nat) (cs : List Value) : Fr (· = g) w (w.setRow g cs.toArray) := ⟨rfl, rfl, rfl, by simp [World.setRow], fun k _ hk => setRow_other w g k _ hk⟩
theorem wp_copy_run {P : Program} {w : World} {o : Oper} {a : Act} {K : Act → World → Prop} {Q : Exit → Act → World → Prop} (d s : Operand) (t t' : TypeId)
    (ho : o.op = .call { callee := .builtin .copy, args := #[d, s], argTypes := #[t, t'] }) (v u : Value) (hd : a.eval d = v) (hs : a.eval s = u) {v' : Value} {w' : World}
    (hr : (Builtin.copy_ #[t, t'] o.type #[v, u]).run P w = .ok v' w') (h : K (a.put o.dst v') w') : o.wp P a w K Q := by
  unfold Oper.wp execOp
  simp only [ho, resolve, invoke, builtin, Sem.run_bind, Sem.run_pure, Result.andThen_ok, List.map_toArray, List.map_cons, List.map_nil, hd, hs, hr]
  exact h
/-- copy, its run known by an equation -/
theorem wpList_copy_run {P : Program} {w : World} {ops : Array Oper} {rest : List Oper} {o : Oper} {a : Act} {Q : Exit → Act → World → Prop} (hgd : o.guard = none) (d s : Operand) (t t' : TypeId)
    (ho : o.op = .call { callee := .builtin .copy, args := #[d, s], argTypes := #[t, t'] }) (v u : Value) (hd : a.eval d = v) (hs : a.eval s = u) {v' : Value} {w' : World}
    (hr : (Builtin.copy_ #[t, t'] o.type #[v, u]).run P w = .ok v' w') (h : wpList P ops Q rest (a.put o.dst v') w') : wpList P ops Q (o :: rest) a w :=
  wpList_plain hgd fun _ hK => wp_copy_run d s t t' ho v u hd hs hr (hK _ _ h)
theorem step_copy_run {P : Program} {ops : Array Oper} {o : Oper} {a : Act} {w : World} {K : Act → World → Prop} {Q : Exit → Act → World → Prop} {E : Prop} (hgd : o.guard = none) (d s : Operand) (t t' : TypeId)
    (ho : o.op = .call { callee := .builtin .copy, args := #[d, s], argTypes := #[t, t'] }) (v u : Value) (hd : a.eval d = v) (hs : a.eval s = u) {v' : Value} {w' : World}
    (hr : (Builtin.copy_ #[t, t'] o.type #[v, u]).run P w = .ok v' w') (h : K (a.put o.dst v') w') : if Region.wanted o (yielded ops a.tmps) = true then Oper.wp P o a w K Q else E := by
  have hw : Region.wanted o (yielded ops a.tmps) = true := by simp [Region.wanted, hgd]
  rw [if_pos hw]
  exact wp_copy_run d s t t' ho v u hd hs hr h
theorem zeroCells_size (z : Array Value) (n : Nat) : (Builtin.zeroCells z n).size = n * z.size := by simp [Builtin.zeroCells]
/-- s[:0] and k zeros behind it, where there is no room -/
theorem run_append_zeros {P : Program} {w : World} {t tn ty e : TypeId} {z : Value} {size bytes : Nat} (E : Elt P t e z size bytes) (htn : P.underlying tn = some (.int .i64))
    {b c : Nat} (m : Nat) (h0 : 0 < m) (hc : c < m) (hb : m * bytes ≤ 140737488355328) (h63 : m ≤ maxLen) :
    ∃ G row, (Builtin.append_ #[t, tn] ty #[.slice (some ⟨b, 0, none⟩) 0 c, .int .i64 (m : Int)]).run P w = .ok (.slice (some ⟨w.heap.size, 0, none⟩) m G) (w.drew.alloc (.cells row e)) ∧ m ≤ G ∧ G ≤ maxLen ∧ row.size = G * size := by
  obtain ⟨ht, ⟨i, hi, hz, hsize, hby⟩, hzs, hsz⟩ := E
  have hold : (Builtin.firstCells i.size 0 (.slice (some ⟨b, 0, none⟩) 0 c)).run P w.drew = .ok ([] : List Value).toArray w.drew :=
    run_firstCells_some w.drew i.size 0 ⟨b, 0, none⟩ 0 c [] (by simp) (fun j v hj => by simp at hj)
  have h63' := h63
  unfold maxLen at h63'
  have hmb : m * i.bytes ≤ 140737488355328 := by rw [hby]; exact hb
  have h := Lib.run_append_grow_zeros w t tn ty e i z .i64 .i64 ht htn hi hz (some ⟨b, 0, none⟩) 0 c [] hold m h0 (by omega) (by omega) (by omega) (by omega) (by rw [Nat.zero_add]; exact growslice_fits hc hmb)
  rw [Nat.zero_add] at h
  have hG : m ≤ grownCap w m c e := grownCap_ge _ _ _ _
  refine ⟨grownCap w m c e, _, h, hG, grownCap_le_maxLen w m c e h63, ?_⟩
  simp only [Array.size_append, zeroCells_size, hzs, List.size_toArray, List.length_nil, Nat.zero_add]
  rw [← Nat.add_mul]
  congr 1
  omega
/-- an append, its run known by an equation -/
theorem wpList_append_run {P : Program} {w : World} {ops : Array Oper} {rest : List Oper} {o : Oper} {a : Act} {Q : Exit → Act → World → Prop} (hgd : o.guard = none) (s x : Operand) (t tn : TypeId)
    (ho : o.op = .call { callee := .builtin .append, args := #[s, x], argTypes := #[t, tn] }) (vs vx : Value) (hs : a.eval s = vs) (hx : a.eval x = vx)
    {v' : Value} {w' : World} (hr : (Builtin.append_ #[t, tn] o.type #[vs, vx]).run P w = .ok v' w') (h : wpList P ops Q rest (a.put o.dst v') w') : wpList P ops Q (o :: rest) a w :=
  Lib.wpList_append_run w hgd s x t tn ho vs vx hs hx v' w' hr h
end Go.Own
namespace Go.Proofs.YtinieljgcenemaaDoor
open Go.RowKit Go.Own Go.Tbl
set_option linter.unusedVariables false
attribute [local go_sem ↓] Go.wp_at_zero Go.wp_at_succ

def InsP (w : World) (A : Option Addr) (L : List Fld) (e : Ending) (w' : World) : Prop := ∃ A' c', e = .returned (.slice A' L.length c') ∧ w'.ownsRow 0 38 3 (.slice A' L.length c') L.length (fcellsL L) ∧
  Fr (fun i => ∃ a, A = some a ∧ a.block = i) w w' ∧ (∀ a', A' = some a' → (∃ a, A = some a ∧ a.block = a'.block) ∨ w.heap.size ≤ a'.block)
theorem fcellsL_cons (f : Fld) (l : List Fld) : fcellsL (f :: l) = fcells f ++ fcellsL l := rfl
theorem blk_rd1 {w : World} {v : Nat} {f : Fld} (hv : Blk w v 38 (fcells f)) : Rd w 3 (some ⟨v, 0, none⟩) 1 (fcellsL [f]) := by
  have := Rd.of_blk (n := 1) (size := 3) hv (by simp [fcells])
  rw [List.take_of_length_le (by simp [fcells])] at this
  rwa [show fcellsL [f] = fcells f from List.append_nil _]
set_option maxRecDepth 100000 in
set_option maxHeartbeats 2000000 in
theorem sIns_empty {w : World} {A : Option Addr} {c : Nat} (ho : w.ownsRow 0 38 3 (.slice A 0 c) 0 (fcellsL [])) {v : Nat} {f : Fld} (hv : Blk w v 38 (fcells f)) :
    Calls Tryd.prog 72 #[.slice A 0 c, .int .i64 0, .slice (some ⟨v, 0, none⟩) 1 1] w (InsP w A [f]) := by
  have Ho := Lib.hid ho
  have Hv := Lib.hid hv
  have hfin : ∀ (A' : Option Addr) (c' : Nat) (w' : World), w'.ownsRow 0 38 3 (.slice A' (0 + 1) c') (0 + 1) (fcellsL [] ++ fcellsL [f]) → Fr (fun i => some i = (Value.slice A 0 c).ownBlock) w w' →
      ((Value.slice A' (0 + 1) c').ownBlock = (Value.slice A 0 c).ownBlock ∨ (Value.slice A' (0 + 1) c').ownBlock = some w.heap.size) → InsP w A [f] (.returned (.slice A' 1 c')) w' := by
    intro A' c' w' h1 h2 h3
    refine ⟨A', c', rfl, h1, h2.mono (fun i hi e => ?_), fun a' ha' => ?_⟩
    · cases A with
      | none => simp [Value.ownBlock] at e
      | some a => simp [Value.ownBlock] at e; exact ⟨a, rfl, e.symm⟩
    · subst ha'
      rcases h3 with h3 | h3
      · cases A with
        | none => simp [Value.ownBlock] at h3
        | some a => simp [Value.ownBlock] at h3; exact .inl ⟨a, rfl, h3.symm⟩
      · simp [Value.ownBlock] at h3; exact .inr (by omega)
  have Hfin := Lib.hid hfin
  clear ho hv hfin
  by_cases hc : c = 0
  · subst hc
    go_enter Tryd.func72, Tryd.ntmps72
    go_wp2_with (first
      | (at_builtin
         refine wpList_append_rd rfl (.tmp 23) (.tmp 24) 28 rfl EF (.slice A 0 0) 0 (fcellsL []) rfl Ho.out (some ⟨v, 0, none⟩) 1 1 (fcellsL [f]) rfl (blk_rd1 Hv.out) (fcells_one _) (by omega) (by unfold maxLen; omega) (by simp) ?_
         intro A6 c6 w6 ho6 hf6 hat
         have Ho6 := Lib.hid ho6
         have Hf6 := Lib.hid hf6
         have Hat := Lib.hid hat
         clear ho6 hf6 hat))
    go_ret
    exact Hfin.out _ _ _ Ho6.out Hf6.out Hat.out
  · go_enter Tryd.func72, Tryd.ntmps72
    go_wp2_with (first
      | (at_builtin
         refine wpList_append_rd rfl (.tmp 23) (.tmp 24) 28 rfl EF (.slice A 0 c) 0 (fcellsL []) rfl Ho.out (some ⟨v, 0, none⟩) 1 1 (fcellsL [f]) rfl (blk_rd1 Hv.out) (fcells_one _) (by omega) (by unfold maxLen; omega) (by simp) ?_
         intro A6 c6 w6 ho6 hf6 hat
         have Ho6 := Lib.hid ho6
         have Hf6 := Lib.hid hf6
         have Hat := Lib.hid hat
         clear ho6 hf6 hat))
    go_ret
    exact Hfin.out _ _ _ Ho6.out Hf6.out Hat.out
theorem shape_of_blk {w : World} {g : Nat} {t : TypeId} {cs : List Value} (h : Blk w g t cs) : w.shape? g = some (t, cs.length) := by
  unfold Blk at h
  simp [World.shape?, h]
theorem hsz3 : (Tryd.prog.info? 38).map (·.size) = some 3 := by kernel_rfl
theorem z3 (w : World) : (sizeOf 38).run Tryd.prog w = .ok 3 w := by kernel_rfl
theorem ov_no {w : World} {v b o la lb cb : Nat} {tb : TypeId} {f : Fld} {cur : List Value} (hv : Blk w v 38 (fcells f)) (hb : Blk w b tb cur) (hne : v ≠ b) (hc : cur.length ≠ 0) :
    (callFunc 89 #[.slice (some ⟨v, 0, none⟩) 1 la, .slice (some ⟨b, o, none⟩) lb cb]).run Tryd.prog w = .ok (.value (.bool false)) w := by
  rw [run_callFunc_extern Tryd.func89 (by kernel_rfl) (by kernel_rfl) (by kernel_rfl) (e := Extern.SlicesOverlaps.overlaps #[28, 28] #[4]) (by kernel_rfl),
    Lib.run_overlaps_apart w 28 4 38 Tryd.underlying28 3 z3 ⟨v, 0, none⟩ ⟨b, o, none⟩ 1 la lb cb hne _ _ _ _ (shape_of_blk hv) (shape_of_blk hb) hc (hv.frozen 0) (hv.frozen _)]
  rfl
set_option maxRecDepth 100000 in
set_option maxHeartbeats 2000000 in
theorem sIns_room {w : World} {b n c : Nat} {l : List Fld} {cur : List Value} (hb : Blk w b 38 cur) (hcl : cur.length = c * 3) (htk : cur.take (n * 3) = fcellsL l) (hl : l.length = n) (h0 : 0 < n) (hnc : n < c) (hcm : c ≤ maxLen) (hn : n ≤ 2048) {v : Nat} {f : Fld} (hv : Blk w v 38 (fcells f)) (hne : v ≠ b) :
    Calls Tryd.prog 72 #[.slice (some ⟨b, 0, none⟩) n c, .int .i64 0, .slice (some ⟨v, 0, none⟩) 1 1] w (InsP w (some ⟨b, 0, none⟩) (f :: l)) := by
  have hov : ∀ lb cb, (callFunc 89 #[.slice (some ⟨v, 0, none⟩) 1 1, .slice (some ⟨b, 3, none⟩) lb cb]).run Tryd.prog w = .ok (.value (.bool false)) w := fun lb cb => ov_no hv hb hne (by omega)
  have hc63 : c ≤ 9223372036854775807 := by unfold maxLen at hcm; omega
  have hcells : ∀ j u, (fcellsL l)[j]? = some u → w.cell? ⟨b, 0 + j, none⟩ = some u := fun j u hj => by
    rw [Nat.zero_add, hb.cell]
    rw [← htk, List.getElem?_take] at hj
    split at hj
    · exact hj
    · cases hj
  have hcp1 : ∀ ty, (Builtin.copy_ #[28, 28] ty #[.slice (some ⟨b, 3, none⟩) n (c - 1), .slice (some ⟨b, 0, none⟩) (n + 1) c]).run Tryd.prog w.drew = .ok (goInt (n : Nat)) (w.drew.setRow b (splice cur 3 (fcellsL l)).toArray) := fun ty =>
    run_copy_rowK (w := w.drew) Tryd.underlying28 hsz3 hb n (by simp) (by rw [fcellsL_length, hl]) hcells (by rw [fcellsL_length, hl]; omega) (fcells_one _)
  have hb1 : Blk (w.drew.setRow b (splice cur 3 (fcellsL l)).toArray) b 38 (splice cur 3 (fcellsL l)) := blk_setRow (w := w.drew) hb
  have hv1 : Blk (w.drew.setRow b (splice cur 3 (fcellsL l)).toArray) v 38 (fcells f) := Blk.fr (w := w.drew) hv (fr_setRow _ _ _) hne
  have hF1 : Fr (· = b) w (w.drew.setRow b (splice cur 3 (fcellsL l)).toArray) := ((Fr.refl (· = b) w).drew).trans (fr_setRow _ _ _) (fun _ _ h => h)
  have hl1 : (splice cur 3 (fcellsL l)).length = c * 3 := by rw [length_splice _ _ _ (by rw [fcellsL_length, hl]; omega), hcl]
  obtain ⟨W1, hW1⟩ : ∃ W1, (w.drew.setRow b (splice cur 3 (fcellsL l)).toArray) = W1 := ⟨_, rfl⟩
  rw [hW1] at hcp1 hb1 hv1 hF1
  have hcp2 : ∀ ty, (Builtin.copy_ #[28, 28] ty #[.slice (some ⟨b, 0, none⟩) (n + 1) c, .slice (some ⟨v, 0, none⟩) 1 1]).run Tryd.prog W1 = .ok (goInt (1 : Nat)) (W1.setRow b (splice (splice cur 3 (fcellsL l)) 0 (fcells f)).toArray) := fun ty =>
    run_copy_rowK Tryd.underlying28 hsz3 hb1 1 (by simp) rfl (fun j u hj => by rw [Nat.zero_add, hv1.cell]; exact hj) (by rw [hl1]; simp [fcells]; omega) (by intro x hx; simp [fcells] at hx; rcases hx with rfl | rfl | rfl <;> rfl)
  have hb2 := blk_setRow (cs := splice (splice cur 3 (fcellsL l)) 0 (fcells f)) hb1
  have hF2 : Fr (· = b) w (W1.setRow b (splice (splice cur 3 (fcellsL l)) 0 (fcells f)).toArray) := hF1.trans (fr_setRow _ _ _) (fun _ _ h => h)
  obtain ⟨W2, hW2⟩ : ∃ W2, (W1.setRow b (splice (splice cur 3 (fcellsL l)) 0 (fcells f)).toArray) = W2 := ⟨_, rfl⟩
  rw [hW2] at hcp2 hb2 hF2
  have hfin : InsP w (some ⟨b, 0, none⟩) (f :: l) (.returned (.slice (some ⟨b, 0, none⟩) (n + 1) c)) W2 := by
    have hlen : (f :: l).length = n + 1 := by rw [List.length_cons, hl]
    have h3 := own_of_blk (n := n + 1) (size := 3) (cap := c) hb2 (by rw [length_splice _ _ _ (by rw [hl1]; simp [fcells]; omega), hl1]) (by omega) hcm
    have h4 : (splice (splice cur 3 (fcellsL l)) 0 (fcells f)).take ((n + 1) * 3) = fcellsL (f :: l) := by
      rw [fcellsL_cons, splice, List.take_zero, List.nil_append, show (0 + (fcells f).length) = 3 from rfl, splice]
      have h3l : (cur.take 3).length = 3 := by rw [List.length_take]; omega
      rw [List.drop_append, h3l, List.drop_of_length_le (by omega), List.nil_append, show 3 - 3 = 0 from rfl, List.drop_zero, ← List.append_assoc, List.take_append_of_le_length (by rw [List.length_append, fcellsL_length, hl]; simp [fcells]; omega)]
      exact List.take_of_length_le (by rw [List.length_append, fcellsL_length, hl]; simp [fcells]; omega)
    rw [h4] at h3
    refine ⟨some ⟨b, 0, none⟩, c, by rw [hlen], by rw [hlen]; exact h3, hF2.mono (fun i _ e => ⟨_, rfl, e.symm⟩), fun a' ha' => .inl ⟨_, rfl, by cases ha'; rfl⟩⟩
  have Hfin := Lib.hid hfin
  have hk1 : ¬ (0 : Int) = (n : Int) := by omega
  have hk2 : ¬ (c : Int) < (n : Int) + 1 := by omega
  have hk3 : ¬ c = 0 := by omega
  have hk4 : ¬ c = 1 := by omega
  have hk5 : n + 1 ≤ c := by omega
  have Hcp1 := Lib.hid hcp1
  have Hcp2 := Lib.hid hcp2
  clear hfin hb hcl htk hcells hb1 hv1 hF1 hl1 hW1 hb2 hF2 hW2 hv hcp1 hcp2 hl
  go_enter Tryd.func72, Tryd.ntmps72
  go_wp2_with (simp only [hov])
  clear hov
  have hw1 : IntKind.i64.wrap 1 = 1 := by decide
  have hw2 : (1 : Int) ≤ (n : Int) + 1 := by omega
  have hw3 : (0 : Int) ≤ (n : Int) + 1 := by omega
  go_region_law (refine step_copy_run rfl _ _ 28 28 rfl _ _ (by simp [Act.eval, Act.put]) (by simp [Act.eval, Act.put]) (Hcp1.out _) ?_)
  go_wp2_with (first
    | (refine wpList_copy_run rfl _ _ 28 28 rfl _ _ rfl rfl (Hcp2.out _) ?_))
  go_ret
  exact Hfin.out
set_option maxRecDepth 100000 in
set_option maxHeartbeats 2000000 in
theorem sIns_grow {w : World} {b n : Nat} {l : List Fld} {cur : List Value} (hb : Blk w b 38 cur) (hcl : cur = fcellsL l) (hl : l.length = n) (h0 : 0 < n) (hn : n ≤ 2048) {v : Nat} {f : Fld} (hv : Blk w v 38 (fcells f)) (hne : v ≠ b) :
    Calls Tryd.prog 72 #[.slice (some ⟨b, 0, none⟩) n n, .int .i64 0, .slice (some ⟨v, 0, none⟩) 1 1] w (InsP w (some ⟨b, 0, none⟩) (f :: l)) := by
  obtain ⟨G, row, hap, hG, hGm, hrow⟩ := run_append_zeros (P := Tryd.prog) (w := w) (ty := 28) EF (show Tryd.prog.underlying 3 = some (.int .i64) from Tryd.underlying3) (b := b) (c := n) (n + 1) (by omega) (by omega) (by omega) (by unfold maxLen; omega)
  have hap2 : ∀ ty, (Builtin.append_ #[28, 3] ty #[.slice (some ⟨b, 0, none⟩) 0 n, .int .i64 ((n : Int) + 1)]).run Tryd.prog w = .ok (.slice (some ⟨w.heap.size, 0, none⟩) (n + 1) G) (w.drew.alloc (.cells row 38)) := fun ty => hap
  have hbl := Blk.lt hb
  have hvl := Blk.lt hv
  have hG63 : G ≤ 9223372036854775807 := by unfold maxLen at hGm; omega
  have hr0 : Blk (w.drew.alloc (.cells row 38)) w.heap.size 38 row.toList := Blk.new w.drew 38 row.toList
  have hF0 : Fr (fun _ => False) w (w.drew.alloc (.cells row 38)) := ((Fr.refl _ w).drew).alloc _
  have hrl : row.toList.length = G * 3 := by simpa using hrow
  obtain ⟨W0, hW0⟩ : ∃ W0, (w.drew.alloc (.cells row 38)) = W0 := ⟨_, rfl⟩
  rw [hW0] at hap2 hr0 hF0
  have hv0 := hv.fr hF0 (fun h => h)
  have hb0 := hb.fr hF0 (fun h => h)
  have hcpA : ∀ ty, (Builtin.copy_ #[28, 28] ty #[.slice (some ⟨w.heap.size, 0, none⟩) (n + 1) G, .slice (some ⟨v, 0, none⟩) 1 1]).run Tryd.prog W0 = .ok (goInt (1 : Nat)) (W0.setRow w.heap.size (splice row.toList 0 (fcells f)).toArray) := fun ty =>
    run_copy_rowK Tryd.underlying28 hsz3 hr0 1 (by simp) rfl (fun j u hj => by rw [Nat.zero_add, hv0.cell]; exact hj) (by rw [hrl]; simp [fcells]; omega) (by intro x hx; simp [fcells] at hx; rcases hx with rfl | rfl | rfl <;> rfl)
  have hr1 := blk_setRow (cs := splice row.toList 0 (fcells f)) hr0
  have hF1 : Fr (· = w.heap.size) w (W0.setRow w.heap.size (splice row.toList 0 (fcells f)).toArray) := hF0.trans (fr_setRow _ _ _) (fun i hi h => by omega) |>.mono (fun _ _ h => h.elim)
  have hl1 : (splice row.toList 0 (fcells f)).length = G * 3 := by rw [length_splice _ _ _ (by rw [hrl]; simp [fcells]; omega), hrl]
  obtain ⟨W1, hW1⟩ : ∃ W1, (W0.setRow w.heap.size (splice row.toList 0 (fcells f)).toArray) = W1 := ⟨_, rfl⟩
  rw [hW1] at hcpA hr1 hF1
  have hb1 := hb.fr hF1 (by omega)
  have hcpB : ∀ ty, (Builtin.copy_ #[28, 28] ty #[.slice (some ⟨w.heap.size, 3, none⟩) n (G - 1), .slice (some ⟨b, 0, none⟩) n n]).run Tryd.prog W1.drew = .ok (goInt (n : Nat)) (W1.drew.setRow w.heap.size (splice (splice row.toList 0 (fcells f)) 3 (fcellsL l)).toArray) := fun ty =>
    run_copy_rowK (w := W1.drew) Tryd.underlying28 hsz3 hr1 n (by simp) (by rw [fcellsL_length, hl]) (fun j u hj => by rw [Nat.zero_add, Blk.cell (w := W1.drew) hb1, hcl]; exact hj) (by rw [hl1, fcellsL_length, hl]; omega) (fcells_one _)
  have hr2 : Blk (W1.drew.setRow w.heap.size (splice (splice row.toList 0 (fcells f)) 3 (fcellsL l)).toArray) w.heap.size 38 (splice (splice row.toList 0 (fcells f)) 3 (fcellsL l)) := blk_setRow (w := W1.drew) hr1
  have hF2 : Fr (· = w.heap.size) w (W1.drew.setRow w.heap.size (splice (splice row.toList 0 (fcells f)) 3 (fcellsL l)).toArray) := (hF1.drew).trans (fr_setRow _ _ _) (fun _ _ h => h)
  have hfin : InsP w (some ⟨b, 0, none⟩) (f :: l) (.returned (.slice (some ⟨w.heap.size, 0, none⟩) (n + 1) G)) (W1.drew.setRow w.heap.size (splice (splice row.toList 0 (fcells f)) 3 (fcellsL l)).toArray) := by
    have hlen : (f :: l).length = n + 1 := by rw [List.length_cons, hl]
    have h3 := own_of_blk (n := n + 1) (size := 3) (cap := G) hr2 (by rw [length_splice _ _ _ (by rw [hl1, fcellsL_length, hl]; omega), hl1]) (by omega) hGm
    have h4 : (splice (splice row.toList 0 (fcells f)) 3 (fcellsL l)).take ((n + 1) * 3) = fcellsL (f :: l) := by
      rw [fcellsL_cons, splice, ← List.append_assoc]
      have h5 : (splice row.toList 0 (fcells f)).take 3 = fcells f := by
        rw [splice, List.take_zero, List.nil_append, List.take_append_of_le_length (by simp [fcells])]
        rfl
      rw [h5, List.take_append_of_le_length (by rw [List.length_append, fcellsL_length, hl]; simp [fcells]; omega)]
      exact List.take_of_length_le (by rw [List.length_append, fcellsL_length, hl]; simp [fcells]; omega)
    rw [h4] at h3
    refine ⟨some ⟨w.heap.size, 0, none⟩, G, by rw [hlen], by rw [hlen]; exact h3, hF2.mono (fun i hi e => by omega), fun a' ha' => .inr (by cases ha'; exact Nat.le_refl _)⟩
  have Hfin := Lib.hid hfin
  have hk1 : ¬ (0 : Int) = (n : Int) := by omega
  have hk2 : (n : Int) < (n : Int) + 1 := by omega
  have hk3 : ¬ n = 0 := by omega
  have hk4 : ¬ G = 0 := by omega
  have hk5 : ¬ G = 1 := by omega
  have Hap := Lib.hid hap2
  have Hcp1 := Lib.hid hcpA
  have Hcp2 := Lib.hid hcpB
  clear hfin hb hcl hap hap2 hr0 hF0 hrl hW0 hv0 hb0 hr1 hF1 hl1 hW1 hb1 hr2 hF2 hv hcpA hcpB hl hrow
  go_enter Tryd.func72, Tryd.ntmps72
  go_wp2_with (first
    | (refine wpList_append_run rfl _ _ 28 3 rfl _ _ rfl rfl (Hap.out _) ?_)
    | (refine wpList_copy_run rfl _ _ 28 28 rfl _ _ rfl rfl (Hcp1.out _) ?_))
  have hw1 : IntKind.i64.wrap 1 = 1 := by decide
  have hw2 : (1 : Int) ≤ (n : Int) + 1 := by omega
  have hw3 : (0 : Int) ≤ (n : Int) + 1 := by omega
  have hw4 : (0 : Int) ≤ (n : Int) := by omega
  go_region_law (refine step_copy_run rfl _ _ 28 28 rfl _ _ (by simp [Act.eval, Act.put]) (by simp [Act.eval, Act.put]) (Hcp2.out _) ?_)
  go_wp2
  go_ret
  exact Hfin.out
theorem sIns_c {w : World} {A : Option Addr} {n c : Nat} {l : List Fld} (ho : w.ownsRow 0 38 3 (.slice A n c) n (fcellsL l)) (hl : l.length = n) (hn : n ≤ 2048) {v : Nat} {f : Fld} (hv : Blk w v 38 (fcells f)) (hne : ∀ a, A = some a → v ≠ a.block) :
    Calls Tryd.prog 72 #[.slice A n c, .int .i64 0, .slice (some ⟨v, 0, none⟩) 1 1] w (InsP w A (f :: l)) := by
  by_cases h0 : n = 0
  · subst h0
    obtain rfl : l = [] := List.eq_nil_of_length_eq_zero hl
    exact sIns_empty ho hv
  · have hsh := own_shape ho
    obtain ⟨A', c', e, hnc, hcm, hrd, hoff⟩ := hsh
    simp only [Value.slice.injEq] at e
    obtain ⟨rfl, _, rfl⟩ := e
    obtain ⟨b, o, rfl, _⟩ := hrd.2 (by omega)
    obtain ⟨rfl, -⟩ := hoff _ rfl
    obtain ⟨cur, hb, _, _, hcl, htk⟩ := own_blk ho
    by_cases h1 : n = c
    · subst h1
      refine sIns_grow hb ?_ hl (by omega) hn hv (hne _ rfl)
      rw [← htk, List.take_of_length_le (by omega)]
    · exact sIns_room hb hcl htk hl (by omega) (by omega) hcm hn hv (hne _ rfl)
end Go.Proofs.YtinieljgcenemaaDoor
namespace Go.Proofs.YtinieljgcenemaaDoor
open Go.RowKit Go.Own Go.Tbl
set_option linter.unusedVariables false
attribute [local go_sem ↓] Go.wp_at_zero Go.wp_at_succ

theorem sIns_n {w : World} {A : Option Addr} {n c : Nat} {l : List Fld} (ho : w.ownsRow 0 38 3 (.slice A n c) n (fcellsL l)) (hl : l.length = n) (hn : n ≤ 2048) {v : Nat} {f : Fld} (hv : Blk w v 38 (fcells f)) (hne : ∀ a, A = some a → v ≠ a.block) :
    Calls Tryd.prog 72 #[.slice A n c, .int .i64 0, .slice (some ⟨v, 0, none⟩) 1 1] w fun e w' => ∃ A' c', e = .returned (.slice A' (n + 1) c') ∧ w'.ownsRow 0 38 3 (.slice A' (n + 1) c') (n + 1) (fcellsL (f :: l)) ∧
      Fr (fun i => ∃ a, A = some a ∧ a.block = i) w w' ∧ (∀ a', A' = some a' → (∃ a, A = some a ∧ a.block = a'.block) ∨ w.heap.size ≤ a'.block) := by
  refine (sIns_c ho hl hn hv hne).mono ?_
  rintro e w' ⟨A', c', rfl, h1, h2, h3⟩
  have : (f :: l).length = n + 1 := by rw [List.length_cons, hl]
  rw [this] at h1 ⊢
  exact ⟨A', c', rfl, h1, h2, h3⟩
def AddP (w : World) (p : Nat) (A : Option Addr) (h : Nat) (L : List Fld) (e : Ending) (w' : World) : Prop := ∃ A' k c', e = .returned (.tuple #[]) ∧ PTx w' p A' k c' h L ∧ Fr (tblS p A) w w' ∧ (∀ a', A' = some a' → tblS p A a'.block ∨ w.heap.size ≤ a'.block)
theorem i64_sub (h N : Nat) (h1 : h ≤ 65536) (h2 : N ≤ 281474976710688) : i64 ((h : Int) - (N : Int)) := by unfold i64; omega
set_option maxRecDepth 100000 in
set_option maxHeartbeats 4000000 in
theorem xAdd_big {w : World} {p : Nat} {A : Option Addr} {n c h : Nat} {l : List Fld} (t : PTx w p A n c h l) (f : Fld) (hf : fok f) (N : Nat) (hN2 : f.n.size + f.v.size + 32 = N) (hNl : N ≤ 281474976710688) (hc : h < N) :
    Calls Tryd.prog 56 #[.pointer (some ⟨p, 0, none⟩), .agg #[.string f.n, .string f.v, .bool f.nv]] w (AddP w p A h []) := by
  have Ht1 : Hid (PTx (w.alloc (.cells #[.string f.n, .string f.v, .bool f.nv] 38)) p A n c h l) := t.alloc _
  have htop := t.top
  have hfn : f.n.size ≤ 140737488355328 := hf.1
  have hfv : f.v.size ≤ 140737488355328 := hf.2
  have HN2 := Lib.hid hN2
  have hp := Blk.lt t.at_
  have hi := i64_sub h N htop hNl
  have hend : shrL ((h : Int) - (N : Int)) l = [] := by unfold shrL; rw [if_neg (by omega)]
  have Hend := Lib.hid hend
  have hc2 : (h : Int) < (N : Int) := by omega
  clear t hN2 hend
  go_enter Tryd.func56, Tryd.ntmps56
  go_wp2_with (first
    | (go_at_call 55; (with_reducible refine (pSize_n f.n f.v f.nv hfn hfv N HN2.out _).mono ?_); rintro e w2 ⟨rfl, hb2⟩
       have Ht2 := Lib.hid (Ht1.out.below hb2)
       have Hb2 := Lib.hid (((Below.refl _ _).alloc (Nat.le_refl _) _).trans (hb2.mono (by simp)))
       obtain ⟨c0, c1, c2⟩ := Ht2.out.cells
       clear hb2)
    | (go_at_call 71; (with_reducible refine (xshrink_n Ht2.out ((h : Int) - (N : Int)) hi [] Hend.out).mono ?_); rintro e w3 ⟨k, rfl, h3, hf3⟩
       have H3 := Lib.hid h3
       have HF3 := Lib.hid ((Fr.of_below (S := tblS p A) Hb2.out (fun i h1 h2 => by omega)).trans hf3 (fun _ _ h => h))
       obtain ⟨q0, q1, q2⟩ := h3.cells
       clear h3 hf3))
  go_end0
  exact ⟨A, k, c, rfl, H3.out, HF3.out, fun a ha => .inl (.inr ⟨a, ha, rfl⟩)⟩
set_option maxRecDepth 100000 in
set_option maxHeartbeats 4000000 in
theorem xAdd_room {w : World} {p : Nat} {A : Option Addr} {n c h : Nat} {l : List Fld} (t : PTx w p A n c h l) (f : Fld) (hf : fok f) (N : Nat) (hN2 : f.n.size + f.v.size + 32 = N) (hc : N ≤ h) :
    Calls Tryd.prog 56 #[.pointer (some ⟨p, 0, none⟩), .agg #[.string f.n, .string f.v, .bool f.nv]] w (AddP w p A h (f.plain :: pre (h - N) l)) := by
  have Ht1 : Hid (PTx (w.alloc (.cells #[.string f.n, .string f.v, .bool f.nv] 38)) p A n c h l) := t.alloc _
  have Hx1 : Hid (Blk (w.alloc (.cells #[.string f.n, .string f.v, .bool f.nv] 38)) w.heap.size 38 [.string f.n, .string f.v, .bool f.nv]) := Blk.new w 38 [.string f.n, .string f.v, .bool f.nv]
  have htop := t.top
  have hfn : f.n.size ≤ 140737488355328 := hf.1
  have hfv : f.v.size ≤ 140737488355328 := hf.2
  have HN2 := Lib.hid hN2
  have Hfo := Lib.hid hf
  have hp := Blk.lt t.at_
  have hpw : w.heap.size ≠ p := by omega
  have hAw : ∀ a, A = some a → a.block ≠ w.heap.size := fun a ha => by have := t.lt a ha; omega
  have HAw := Lib.hid hAw
  have hi : i64 ((h : Int) - (N : Int)) := by unfold i64; omega
  obtain ⟨L, hL⟩ : ∃ L, pre (h - N) l = L := ⟨_, rfl⟩
  have hend : shrL ((h : Int) - (N : Int)) l = L := by unfold shrL; rw [if_pos (by omega), ← hL]; congr 1; omega
  have hLs := pre_le (h - N) l
  rw [hL] at hLs ⊢
  obtain ⟨s, hs⟩ : ∃ s, szs L = s := ⟨_, rfl⟩
  rw [hs] at hLs
  have Hend := Lib.hid hend
  have Hs := Lib.hid hs
  have hc2 : ¬ (h : Int) < (N : Int) := by omega
  have hsum : s + N ≤ 65536 := by omega
  obtain ⟨S, hS⟩ : ∃ S, s + N = S := ⟨_, rfl⟩
  have hsz : szs (f.plain :: L) = S := by rw [szs, sz_plain, hs, sz, HN2.out]; omega
  have eS : (s : Int) + (N : Int) = (S : Int) := by omega
  have HS := Lib.hid hS
  have hS2 : S ≤ 65536 := by omega
  have Hsz := Lib.hid hsz
  clear t hN2 hend hL hf hAw hs hsz hS
  go_enter Tryd.func56, Tryd.ntmps56
  go_wp2_with (first
    | (go_at_call 55; (with_reducible refine (pSize_n f.n f.v f.nv hfn hfv N HN2.out _).mono ?_); rintro e w2 ⟨rfl, hb2⟩
       have Ht2 := Lib.hid (Ht1.out.below hb2)
       have Hx2 := Lib.hid (Hx1.out.below hb2 (Blk.lt Hx1.out))
       have Hb2 := Lib.hid (((Below.refl _ _).alloc (Nat.le_refl _) _).trans (hb2.mono (by simp)))
       obtain ⟨c0, c1, c2⟩ := Ht2.out.cells
       clear hb2)
    | (go_at_call 71; (with_reducible refine (xshrink_n Ht2.out ((h : Int) - (N : Int)) hi L Hend.out).mono ?_); rintro e w3 ⟨k, rfl, h3, hf3⟩
       have Hx3 := Lib.hid (Hx2.out.fr hf3 (fun e => by
         rcases e with e | ⟨a, ha, e⟩
         · exact hpw e
         · exact HAw.out a ha e))
       have HF3 := Lib.hid ((Fr.of_below (S := tblS p A) Hb2.out (fun i h1 h2 => by omega)).trans hf3 (fun _ _ h => h))
       have H3 := Lib.hid h3
       have x0 := Hx3.out.cell 0
       have x1 := Hx3.out.cell 1
       have x2 := Hx3.out.cell 2
       have zx := Hx3.out.frozen 2
       simp only [List.getElem?_cons_zero, List.getElem?_cons_succ] at x0 x1 x2
       obtain ⟨q0, q1, q2⟩ := h3.cells
       clear h3 hf3))
  have X4 : Hid (Blk (w3.setCell ⟨w.heap.size, 2, none⟩ (.bool false)) w.heap.size 38 [.string f.n, .string f.v, .bool false]) := Hx3.out.set_ 2 (.bool false)
  have f34 : Fr (· = w.heap.size) w3 (w3.setCell ⟨w.heap.size, 2, none⟩ (.bool false)) := (Fr.refl (· = w.heap.size) w3).setCell (p := ⟨w.heap.size, 2, none⟩) (.inl rfl) _
  have H4 := Lib.hid (H3.out.fr f34 (Ne.symm hpw) (fun a ha e => HAw.out a ha e))
  have HF4 := Lib.hid (HF3.out.trans f34 (fun i hi e => by omega))
  clear f34 x0 x1 x2 zx q0 q1 q2
  generalize w3.setCell ⟨w.heap.size, 2, none⟩ (.bool false) = w4 at X4 H4 HF4 ⊢
  obtain ⟨q0, q1, q2⟩ := H4.out.cells
  have x0 := X4.out.cell 0
  have x1 := X4.out.cell 1
  have x2 := X4.out.cell 2
  simp only [List.getElem?_cons_zero, List.getElem?_cons_succ] at x0 x1 x2
  have q0' : w4.drew.cell? ⟨p, 0, none⟩ = some (.slice A k c) := q0
  have x0' : w4.drew.cell? ⟨w.heap.size, 0, none⟩ = some (.string f.n) := x0
  have x1' : w4.drew.cell? ⟨w.heap.size, 1, none⟩ = some (.string f.v) := x1
  have x2' : w4.drew.cell? ⟨w.heap.size, 2, none⟩ = some (.bool false) := x2
  have hpl4 : p < w4.heap.size := Blk.lt H4.out.at_
  have hwl4 : w.heap.size < w4.heap.size := Blk.lt X4.out
  have H5 : Hid (PTx (w4.alloc (.cells #[.string f.n, .string f.v, .bool false] 38)).drew p A k c h L) := (H4.out.alloc _).drewN 1
  have V5 : Hid (Blk (w4.alloc (.cells #[.string f.n, .string f.v, .bool false] 38)).drew w4.heap.size 38 (fcells f.plain)) := (Blk.new w4 38 [.string f.n, .string f.v, .bool false]).drewN 1
  have F5 : Hid (Fr (tblS p A) w (w4.alloc (.cells #[.string f.n, .string f.v, .bool false] 38)).drew) := (HF4.out.alloc _).drewN 1
  have hn5 : ∀ a, A = some a → w4.heap.size ≠ a.block := fun a ha => by have := H4.out.lt a ha; omega
  have HN5 := Lib.hid hn5
  have hlen := H4.out.len
  have Hlen := Lib.hid hlen
  have hk := H4.out.n_small
  have hg5 : (w4.alloc (.cells #[.string f.n, .string f.v, .bool false] 38)).drew.heap.size = w4.heap.size + 1 := by simp [World.drew]
  have Hg5 := Lib.hid hg5
  have hpA : ∀ a, A = some a → a.block ≠ p := H4.out.ne
  have HpA := Lib.hid hpA
  clear hn5 hlen hg5 hpA
  go_region_with
    (first
    | (go_at_call 72; (with_reducible refine (sIns_n H5.out.own Hlen.out hk V5.out HN5.out).mono ?_); rintro e w6 ⟨A6, c6, rfl, ho6, hf6, hat6⟩
       have P6 := H5.out.at_.fr hf6 (fun e => by obtain ⟨a, ha, e⟩ := e; exact HpA.out a ha e)
       have F6 := Lib.hid (F5.out.trans hf6 (fun i hi e => .inr e))
       have Ho6 := Lib.hid ho6
       have Hat6 := Lib.hid hat6
       have p0 := P6.cell 0
       have p1 := P6.cell 1
       have p2 := P6.cell 2
       have y0 := P6.frozen 0
       have y1 := P6.frozen 1
       simp only [List.getElem?_cons_zero, List.getElem?_cons_succ, Hs.out] at p0 p1 p2
       have HP6 := Lib.hid P6
       clear ho6 hf6 hat6 P6))
  all_goals
    clear q0 q1 q2 x0 x1 x2 q0' x0' x1' x2'
    go_wp2
    go_end0
    obtain ⟨g1, g2⟩ := own_len Ho6.out
    have P9 := (HP6.out.set_ 0 (.slice A6 (k + 1) c6)).set_ 1 (.int .i64 (S : Int))
    have P9' : Blk ((w6.setCell ⟨p, 0, none⟩ (.slice A6 (k + 1) c6)).setCell ⟨p, 1, none⟩ (.int .i64 (S : Int))) p 86 [.slice A6 (k + 1) c6, .int .i64 ((szs (f.plain :: L) : Nat) : Int), .int .i64 (h : Int)] := by rw [Hsz.out]; exact P9
    have hnp : ∀ a, A6 = some a → a.block ≠ p := fun a ha e => by
      rcases Hat6.out a ha with ⟨a0, h0, e0⟩ | h0
      · exact HpA.out a0 h0 (by omega)
      · have := Hg5.out; omega
    have F9 := (F6.out.setCell (p := ⟨p, 0, none⟩) (.inl (.inl rfl)) (.slice A6 (k + 1) c6)).setCell (p := ⟨p, 1, none⟩) (.inl (.inl rfl)) (.int .i64 (S : Int))
    have f9 := ((Fr.refl (· = p) w6).setCell (p := ⟨p, 0, none⟩) (.inl rfl) (.slice A6 (k + 1) c6)).setCell (p := ⟨p, 1, none⟩) (.inl rfl) (.int .i64 (S : Int))
    refine ⟨A6, k + 1, c6, rfl, ⟨P9', own_fr Ho6.out f9 (fun g hg e => ?_), ?_, ?_, htop⟩, F9, fun a ha => ?_⟩
    · cases A6 with
      | none => simp [Value.ownBlock] at hg
      | some a => simp [Value.ownBlock] at hg; exact hnp a rfl (by omega)
    · intro g hg
      rcases List.mem_cons.1 hg with rfl | hg
      · exact ⟨Hfo.out, rfl⟩
      · exact H4.out.ok g hg
    · rw [Hsz.out]; exact hS2
    · rcases Hat6.out a ha with ⟨a0, h0, e0⟩ | h0
      · exact .inl (.inr ⟨a0, h0, e0⟩)
      · exact .inr (by have := Hg5.out; omega)
theorem xAdd_c {w : World} {p : Nat} {A : Option Addr} {n c h : Nat} {l : List Fld} (t : PTx w p A n c h l) (f : Fld) (hf : fok f) :
    Calls Tryd.prog 56 #[.pointer (some ⟨p, 0, none⟩), .agg #[.string f.n, .string f.v, .bool f.nv]] w (AddP w p A h (addF h f l)) := by
  have h1 := hf.1
  have h2 := hf.2
  have hsz : sz f = f.n.size + f.v.size + 32 := rfl
  unfold addF
  split
  · exact xAdd_room t f hf (sz f) rfl (by omega)
  · exact xAdd_big t f hf (sz f) rfl (by omega) (by omega)
end Go.Proofs.YtinieljgcenemaaDoor
namespace Go.Proofs.YtinieljgcenemaaDoor
open Go.RowKit Go.Own Go.Tbl
set_option linter.unusedVariables false
attribute [local go_sem ↓] Go.wp_at_zero Go.wp_at_succ

def ClS (w : World) (n : Nat) (l : List Fld) (e : Ending) (w' : World) : Prop := ∃ A' c', e = .returned (.slice A' n c') ∧ w'.ownsRow w.heap.size 38 3 (.slice A' n c') n (fcellsL l) ∧ Below w.heap.size w w'
end Go.Proofs.YtinieljgcenemaaDoor
namespace Go.Own
open Go.RowKit

/-- a block that is no cells, from B on, is turned -/
def Turns (B : Nat) (W W' : World) : Prop := ∃ (l : Nat) (o o' : Obj), B ≤ l ∧ W.heap[l]? = some o ∧ o.isCells = false ∧ W' = W.putObj l o'
/-- how a round may be left -/
def roundP (Kp : World → World → Prop) (I Ix : Nat → World → Prop) (k : Nat) (W : World) : Exit → Act → World → Prop
  | .normal, _, W' => KeepsOthers W W' ∧ Kp W W' ∧ I (k + 1) W'
  | .ret, _, W' => KeepsOthers W W' ∧ Ix k W'
  | _, _, _ => False
theorem below_putObj0 {B : Nat} {W : World} {l : Nat} {o o' : Obj} (hB : B ≤ l) (hl : W.heap[l]? = some o) : Below B W (W.putObj l o') :=
  (Below.refl B W).grown (grownBy_putObj' W l o') (by have := (Array.getElem?_eq_some_iff.1 hl).1; omega) (fun k e => by cases e; omega)
theorem below_putObj {B : Nat} {w W : World} {l : Nat} {o o' : Obj} (h : Below B w W) (hB : B ≤ l) (hl : W.heap[l]? = some o) : Below B w (W.putObj l o') :=
  h.trans (below_putObj0 hB hl)
theorem Turns.below {B C : Nat} {w W W' : World} (ht : Turns C W W') (h : Below B w W) (hC : B ≤ C) : Below B w W' := by
  obtain ⟨l, o, o', hl, ho, _, rfl⟩ := ht
  exact below_putObj h (by omega) ho
theorem Turns.blk {B : Nat} {W W' : World} {g : Nat} {t : TypeId} {cs : List Value} (ht : Turns B W W') (h : Blk W g t cs) : Blk W' g t cs := by
  obtain ⟨l, o, o', hl, ho, hc, rfl⟩ := ht
  have hne : g ≠ l := by
    rintro rfl
    unfold Blk at h
    rw [ho] at h
    cases h
    cases hc
  exact (World.putObj_heap_other hne).trans h
/-- each block of cells that S does not name is as it was -/
def KeepB (S : Nat → Prop) (W W' : World) : Prop := ∀ b t cs, Blk W b t cs → ¬ S b → Blk W' b t cs
theorem KeepB.refl (S : Nat → Prop) (W : World) : KeepB S W W := fun _ _ _ h _ => h
theorem KeepB.trans {S : Nat → Prop} {A B C : World} (h : KeepB S A B) (k : KeepB S B C) : KeepB S A C := fun b t cs hb hs => k b t cs (h b t cs hb hs) hs
theorem KeepB.turns {S : Nat → Prop} {B : Nat} {W W' : World} (h : Turns B W W') : KeepB S W W' := fun _ _ _ hb _ => h.blk hb
theorem KeepB.below {S : Nat → Prop} {W W' : World} (h : Below W.heap.size W W') : KeepB S W W' := fun _ _ _ hb _ => hb.below h hb.lt
theorem KeepB.setCell {S : Nat → Prop} {W W' : World} (h : KeepB S W W') {p : Addr} (hp : S p.block) (v : Value) : KeepB S W (W'.setCell p v) := fun b t cs hb hs => (h b t cs hb hs).far (fun e => hs (by rw [e]; exact hp)) v
variable {F : Fence} {n : Nat} {P : Program}
theorem wpIn_range_bound {α : Type} {g : Operand} {ps : Array Tmp} {assign body : Code} {Q : Exit → Act → World → Prop} {a : Act} {w : World}
    (hro : F.round = none) (h1 : 1 ≤ n) {gf : Nat} {first : Array Value} (hg : a.eval g = .func (.func gf) first #[]) (hFg : F.fn gf) (eg : ∀ args w, (callFunc gf args).run P w = .ok (.enter gf args) w)
    (xs : List α) (encs : α → Array Value) (hps : ∀ x, (encs x).size = ps.size)
    (Kp : World → World → Prop) (hKt : ∀ {A B C : World}, Kp A B → Kp B C → Kp A C) (hKb : ∀ W W', Turns w.heap.size W W' → Kp W W') (hKa : ∀ W W', Below W.heap.size W W' → Kp W W')
    (I Ix : Nat → World → Prop) (hIb : ∀ k W W', I k W → Turns w.heap.size W W' → I k W') (hXb : ∀ k W W', Ix k W → Turns w.heap.size W W' → Ix k W')
    (hIa : ∀ k W W', I k W → Below W.heap.size W W' → I k W') (h0 : I 0 w)
    (hseq : ∀ (l : Nat) (J : Nat → World → Prop) (Jx : World → Prop) (W : World), Below w.heap.size w W → (∀ k W W', J k W → Below W.heap.size W W' → J k W') → J 0 W →
      (∀ k x W1, xs[k]? = some x → J k W1 → YieldAt F (n - 1 - 1) P l (encs x) W1 fun e W' => (e = .returned (.bool true) ∧ J (k + 1) W' ∧ Kp W1 W') ∨ (e = .returned (.bool false) ∧ Jx W')) →
      CallsIn F (n - 1) P gf (first ++ #[.func (.yield l) #[] #[]]) W fun e W' => (∃ v, e = .returned v) ∧ (J xs.length W' ∨ Jx W'))
    (Ax : Nat → α → Act → World → Prop) (hAb : ∀ k x a' W W', Ax k x a' W → Turns w.heap.size W W' → Ax k x a' W')
    (hassign : ∀ (l k : Nat) (x : α) (W : World) (K : Act → World → Prop), xs[k]? = some x → I k W → (∀ a' W', Below W.heap.size W W' → I k W' → Ax k x a' W' → K a' W') →
      assign.wpIn (F.inRound l) (n - 1 - 1) P (Exit.then K (fun _ _ _ => False)) { tmps := (ps.zip (encs x)).foldl (fun t (p, v) => t.setIfInBounds p v) a.tmps, defers := [] } W)
    (hbody : ∀ (l k : Nat) (x : α) (a' : Act) (W : World), xs[k]? = some x → I k W → Ax k x a' W → body.wpIn (F.inRound l) (n - 1 - 1) P (roundP Kp I Ix k W) a' W)
    (hdone : ∀ (D : Nat) (W : World), w.heap.size ≤ D → I xs.length W → W.heap[D]? = some (.deferred (some [])) → Q .normal { a with defers := { target := .collected D, args := #[] } :: a.defers } W)
    (hstop : ∀ (D k : Nat) (W : World), w.heap.size ≤ D → Ix k W → W.heap[D]? = some (.deferred (some [])) → Code.ret.wpIn F n P Q { a with defers := { target := .collected D, args := #[] } :: a.defers } W) :
    (Code.rangeFunc g ps assign body).wpIn F n P Q a w := by
  refine wpIn_rangeFunc ?_
  intro fn hfn
  rw [hro]
  -- the loop's record, and the world in which the function is called
  let rec_ : LoopState → Option Code → Loop := fun st pe => { state := st, pending := pe, fn, tmps := a.tmps, params := ps, assign, body, defers := w.heap.size }
  obtain ⟨mk, hmk⟩ : ∃ mk, mk = rec_ := ⟨_, rfl⟩
  obtain ⟨W0, hW0⟩ : ∃ W0, (w.alloc (.deferred (some []))).alloc (.loop (mk .ready none)) = W0 := ⟨_, rfl⟩
  obtain ⟨B, hB⟩ : ∃ B, w.heap.size = B := ⟨_, rfl⟩
  have hL0 : W0.heap[B + 1]? = some (.loop (mk .ready none)) := by
    rw [← hW0, ← hB]; have := World.alloc_heap_new (w.alloc (.deferred (some []))) (.loop (mk .ready none)); rwa [World.size_alloc] at this
  have hD0 : W0.heap[B]? = some (.deferred (some [])) := by
    rw [← hW0, ← hB]; exact (Below.heap_alloc _ _ _ (by simp)).trans (World.alloc_heap_new w _)
  have hb0 : Below B w W0 := by
    rw [← hW0, ← hB]; exact ((Below.refl _ w).alloc (Nat.le_refl _) _).alloc (by simp) _
  have hI0 : I 0 W0 := hIa 0 w W0 h0 (by rw [hB]; exact hb0)
  refine ⟨B + 1, [{ target := .collected B, args := #[] }], W0, { target := .fn (.func gf) #[], args := first ++ #[.func (.yield (B + 1)) #[] #[]] }, W0, gf,
    first ++ #[.func (.yield (B + 1)) #[] #[]], W0, ?_, ?_, ?_, ?_, fun _ => h1, ?_⟩
  · rw [← hW0, hmk, ← hB]; exact run_enterLoop_outer _ _ _ _ _
  · simp only [resolve, hg]
    simp [go_sem]
  · intro f' hf'; simp [Target.leads] at hf'; subst hf'; exact hFg
  · simp [invoke, go_sem, eg]
  · have hcall := hseq (B + 1) (fun k W => I k W ∧ W.heap[B + 1]? = some (.loop (mk .ready none)) ∧ W.heap[B]? = some (.deferred (some [])))
      (fun W => ∃ k, Ix k W ∧ W.heap[B + 1]? = some (.loop (mk .done (some .ret))) ∧ W.heap[B]? = some (.deferred (some []))) W0 (by rw [hB]; exact hb0)
      (fun k W W' ⟨hi, hl, hd⟩ hb => ⟨hIa k W W' hi hb, (hb.block _ (Array.getElem?_eq_some_iff.1 hl).1).trans hl, (hb.block _ (Array.getElem?_eq_some_iff.1 hd).1).trans hd⟩)
      ⟨hI0, hL0, hD0⟩ ?_
    · refine hcall.mono ?_
      rintro e W2 ⟨⟨v, rfl⟩, ⟨hi, hl, hd⟩ | ⟨k, hi, hl, hd⟩⟩
      · refine ⟨none, W2.putObj (B + 1) (.loop { mk .ready none with state := .exhausted }), ?_, ?_⟩
        · have := run_endLoop (P := P) hl (by rw [hmk]; simp [rec_])
          rw [this, hmk]
        · exact hdone B _ (by omega) (hIb _ _ _ hi ⟨B + 1, _, _, by omega, hl, rfl, rfl⟩) ((World.putObj_heap_other (by omega)).trans hd)
      · refine ⟨some .ret, W2.putObj (B + 1) (.loop { mk .done (some .ret) with state := .exhausted }), ?_, ?_⟩
        · have := run_endLoop (P := P) hl (by rw [hmk]; simp [rec_])
          rw [this, hmk]
        · exact hstop B k _ (by omega) (hXb _ _ _ hi ⟨B + 1, _, _, by omega, hl, rfl, rfl⟩) ((World.putObj_heap_other (by omega)).trans hd)
    · -- one round
      rintro k x W hx ⟨hi, hl, hd⟩
      have hy := run_yield (P := P) (args := encs x) hl (by rw [hmk]; exact hps x)
      rw [hmk] at hy
      refine ⟨fn, _, assign, body, hy, roundIn_of_wpIn hfn (hassign _ k x W _ hx hi ?_)⟩
      intro a1 W1 hb1 hi1 hax
      have hl1 : W1.heap[B + 1]? = some (.loop (mk .ready none)) := (hb1.block _ (Array.getElem?_eq_some_iff.1 hl).1).trans hl
      have hd1 : W1.heap[B]? = some (.deferred (some [])) := (hb1.block _ (Array.getElem?_eq_some_iff.1 hd).1).trans hd
      obtain ⟨busy, hbusy⟩ : ∃ b : Loop, b = { mk .ready none with state := .busy } := ⟨_, rfl⟩
      refine ⟨W1.putObj (B + 1) (.loop busy), by rw [hbusy]; exact run_beginRound hl1 (by rw [hmk]), ?_⟩
      have ht1 : Turns w.heap.size W1 (W1.putObj (B + 1) (.loop busy)) := ⟨B + 1, _, _, by omega, hl1, rfl, rfl⟩
      have hl2 : (W1.putObj (B + 1) (.loop busy)).heap[B + 1]? = some (.loop busy) := World.putObj_heap_same (Array.getElem?_eq_some_iff.1 hl1).1
      have hd2 : (W1.putObj (B + 1) (.loop busy)).heap[B]? = some (.deferred (some [])) := (World.putObj_heap_other (by omega)).trans hd1
      have hk01 : Kp W (W1.putObj (B + 1) (.loop busy)) := hKt (hKa _ _ hb1) (hKb _ _ ht1)
      refine wpIn_mono (hbody _ k x a1 _ hx (hIb _ _ _ hi1 ht1) (hAb _ _ _ _ _ hax ht1)) ?_
      rintro e a3 W3 hp
      cases e with
      | normal =>
        obtain ⟨hko, hkp, hi3⟩ := hp
        have hl3 := hko.same _ _ hl2 rfl
        have hd3 := hko.same _ _ hd2 rfl
        have hr := run_endRound (P := P) none hl3
        have ht3 : Turns w.heap.size W3 (W3.putObj (B + 1) (.loop (mk .ready none))) := ⟨B + 1, _, _, by omega, hl3, rfl, rfl⟩
        refine ⟨_, W3.putObj (B + 1) (.loop (mk .ready none)), by rw [hr, hbusy, hmk]; rfl, .inl ⟨rfl, ⟨hIb _ _ _ hi3 ht3, World.putObj_heap_same (Array.getElem?_eq_some_iff.1 hl3).1, (World.putObj_heap_other (by omega)).trans hd3⟩, hKt hk01 (hKt hkp (hKb _ _ ht3))⟩⟩
      | ret =>
        obtain ⟨hko, hi3⟩ := hp
        have hl3 := hko.same _ _ hl2 rfl
        have hd3 := hko.same _ _ hd2 rfl
        have hr := run_endRound (P := P) (some .ret) hl3
        have ht3 : Turns w.heap.size W3 (W3.putObj (B + 1) (.loop (mk .done (some .ret)))) := ⟨B + 1, _, _, by omega, hl3, rfl, rfl⟩
        refine ⟨_, W3.putObj (B + 1) (.loop (mk .done (some .ret))), by rw [hr, hbusy, hmk]; rfl, .inr ⟨rfl, k, hXb _ _ _ hi3 ht3, World.putObj_heap_same (Array.getElem?_eq_some_iff.1 hl3).1, (World.putObj_heap_other (by omega)).trans hd3⟩⟩
      | exit id => exact hp.elim
      | goto t => exact hp.elim
      | panic ch => exact hp.elim
      | outgrown => exact hp.elim
end Go.Own
namespace Go.Proofs.YtinieljgcenemaaDoor
open Go.RowKit Go.Own Go.Tbl
set_option linter.unusedVariables false
attribute [local go_sem] Oper.semAt_some

/-- what yield is handed -/
def encX (x : Fld × Nat) : Array Value := #[.int .i64 (x.2 : Int), .agg #[.string x.1.n, .string x.1.v, .bool x.1.nv]]
def allX (l : List Fld) : List (Fld × Nat) := (statL ++ l).zipIdx 1
theorem allX_at {l : List Fld} {k : Nat} {f : Fld} (h : (statL ++ l)[k]? = some f) : (allX l)[k]? = some (f, 1 + k) := by
  unfold allX
  rw [List.getElem?_zipIdx, h]
  rfl
theorem allX_length (l : List Fld) : (allX l).length = 61 + l.length := by unfold allX; rw [List.length_zipIdx, List.length_append, statL_length]
theorem wpListIn_store_arr {F : Fence} {n : Nat} {ops : Array Oper} {rest : List Oper} {o : Oper} {a : Act} {w : World} {Q : Exit → Act → World → Prop} (hgd : o.guard = none) (x y : Operand) (ho : o.op = .store 118 x y)
    (g : Nat) (hx : a.eval x = .pointer (some ⟨g, 0, none⟩)) (l m : List Fld) (hl : l.length = 62) (hm : m.length = 62) (hy : a.eval y = .agg (fcellsL m).toArray) (hg : Blk w g 118 (fcellsL l))
    (h : ∀ w', Blk w' g 118 (fcellsL m) → Fr (· = g) w w' → wpListIn F n Tryd.prog ops Q rest (a.put o.dst undef) w') : wpListIn F n Tryd.prog ops Q (o :: rest) a w := by
  refine wpListIn_plain hgd fun K hK => ?_
  have hr := run_storeVar_row (P := Tryd.prog) w g 118 118 (fcellsL l).toArray (fcellsL m).toArray hg (by rw [zero_arr.2]; simp [fcellsL_length, hm]) (by simp [fcellsL_length, hl, hm]) (fcells_all _)
  unfold Oper.wpIn
  refine ⟨by simp [Oper.about, ho], ?_⟩
  rw [Oper.semAt_plain F _ _ (by rw [ho]; intro c hc'; cases hc')]
  simp only [execOp, ho, hx, hy, Instr.storeAt, Instr.sureAddr, Sem.run_bind, Sem.run_pure, Result.andThen_ok, hr]
  exact hK _ _ (h _ (setRow_heap w g _ _ 118 _ hg) ⟨rfl, rfl, rfl, by simp [World.setRow], fun k _ hk => setRow_other w g k _ hk⟩)
theorem PTx.keepB {w w' : World} {p : Nat} {A : Option Addr} {n c h : Nat} {l : List Fld} {S : Nat → Prop} (t : PTx w p A n c h l) (hk : KeepB S w w') (hp : ¬ S p) (hA : ∀ a, A = some a → ¬ S a.block) : PTx w' p A n c h l := by
  refine ⟨hk _ _ _ t.at_ hp, ⟨t.own.1, ?_⟩, t.ok, t.small, t.top⟩
  rcases t.own.2 with hz | ⟨g, cap, cur, e, h1, h2, rest⟩
  · exact .inl hz
  · refine .inr ⟨g, cap, cur, e, h1, ?_, rest⟩
    simp only [Value.slice.injEq] at e
    have h3 := hk g 38 cur.toList (by unfold Blk; simpa using h2) (hA _ e.1)
    unfold Blk at h3
    simpa using h3
set_option maxRecDepth 100000 in
set_option maxHeartbeats 4000000 in
theorem fields_seq {w : World} {p : Nat} {A : Option Addr} {n c h : Nat} {l : List Fld} (t : PTx w p A n c h l) (S : Nat → Prop) (hSp : ¬ S p) (hSA : ∀ a, A = some a → ¬ S a.block) (hSw : ∀ i, S i → i < w.heap.size)
    (m : Nat) (hm : 3 ≤ m) (ll : Nat) (J : Nat → World → Prop) (Jx : World → Prop) (W : World) (hW : Below w.heap.size w W) (hJa : ∀ k W W', J k W → Below W.heap.size W W' → J k W') (h0 : J 0 W)
    (hY : ∀ k x W1, (allX l)[k]? = some x → J k W1 → YieldAt Fence.wide (m - 1) Tryd.prog ll (encX x) W1 fun e W' => (e = .returned (.bool true) ∧ J (k + 1) W' ∧ KeepB S W1 W') ∨ (e = .returned (.bool false) ∧ Jx W')) :
    CallsIn Fence.wide m Tryd.prog 67 (#[.pointer (some ⟨p, 0, none⟩)] ++ #[.func (.yield ll) #[] #[]]) W fun e W' => (∃ v, e = .returned v) ∧ (J (allX l).length W' ∨ Jx W') := by
  have hz := zero_arr.1
  have tW := t.below hW
  have Tt := Lib.hid tW
  have HJa := Lib.hid hJa
  have HY := Lib.hid hY
  have HSw := Lib.hid hSw
  have HSA := Lib.hid hSA
  have HSp := Lib.hid hSp
  have hWs := hW.size
  have Hl : Hid (l.length = n) := t.len
  have H0 := Lib.hid h0
  clear hJa hY hSw hSA hSp t tW h0
  refine callsIn_of_wp Tryd.func67 rfl trivial ?_ rfl
  simp only [Tryd.ntmps67, List.size_toArray, List.length_cons, List.length_nil, Nat.reduceAdd, Nat.reduceSub, Array.replicate_succ, Array.replicate_zero, List.push_toArray, List.append_toArray, List.nil_append, List.cons_append]
  gi_wp2_with (first
    | (refine ⟨(trivial : Fence.wide.fn 81), fun _ => by omega, ?_⟩; refine (callsIn_wide.2 (statF_any _)).mono ?_; rintro e w1 ⟨rfl, b1⟩
       have B1 := Lib.hid b1
       have X1 := Lib.hid (Blk.new w1 118 (fcellsL zeroL))
       have hs1 := b1.size
       clear b1)
    | (refine wpListIn_store_arr (o := ⟨_, .store 118 _ _, _, _, _, _⟩) rfl _ _ rfl w1.heap.size rfl zeroL arrL zeroL_length arrL_length rfl X1.out ?_
       intro w5 hb5 hf5
       have X5 := Lib.hid hb5
       have B5 := Lib.hid ((B1.out.alloc B1.out.size (.cells (fcellsL zeroL).toArray 118)).trans (hf5.below (by simp; omega) (fun i _ e => by omega)))
       clear hf5 hb5))
  have hJ5 : J 0 w5 := HJa.out 0 W w5 H0.out B5.out
  have HJ5 := Lib.hid hJ5
  have hbs := B5.out.size
  clear hJ5 hz
  gi_loopw [5] (fun i wr => ∃ k : Nat, k ≤ 61 ∧ i = .int .i64 ((k : Int) + 1) ∧ J k wr ∧ KeepB S w5 wr) (fun i _ => 62 - (intOf i).toNat)
  case atStart => exact ⟨0, by omega, rfl, HJ5.out, KeepB.refl _ _⟩
  case round =>
    obtain ⟨k, hk, rfl, hJs, hkb⟩ := hrel
    have X := hkb _ _ _ X5.out (fun h => by have := HSw.out _ h; omega)
    have HX := Lib.hid X
    have HKB := Lib.hid hkb
    have HJs := Lib.hid hJs
    clear X hkb
    by_cases hlt : k < 61
    · obtain ⟨f, hf⟩ : ∃ f, statL[k]? = some f := ⟨_, List.getElem?_eq_getElem (by rw [statL_length]; exact hlt)⟩
      obtain ⟨c0, c1, c2⟩ := pStatic_cells (k := k + 1) (f := f) hf HX.out
      have hxa := allX_at (l := l) (k := k) (f := f) (by rw [List.getElem?_append_left (by rw [statL_length]; exact hlt)]; exact hf)
      obtain ⟨fn, tmps, assign, body, hy, hR⟩ := HY.out k (f, 1 + k) wr hxa hJs
      have e : encX (f, 1 + k) = #[.int .i64 ((k : Int) + 1), .agg #[.string f.n, .string f.v, .bool f.nv]] := by simp [encX]; omega
      rw [e] at hy
      have hk62 : (k : Int) + 1 < 62 := by omega
      clear hxa hf e hJs
      gi_wp2
      refine ⟨fun _ => by omega, hR.mono ?_⟩
      rintro e W3 (⟨rfl, hJ3, hk3⟩ | ⟨rfl, hJx3⟩)
      · gi_wp2
        go_roundw
        case rel => exact ⟨k + 1, by omega, by go_num, hJ3, HKB.out.trans hk3⟩
        case measure => simp [intOf]; omega
      · gi_wp2
        refine bodyPost_ret (results_none rfl _ _ _) rfl ?_
        exact ⟨⟨_, rfl⟩, .inr hJx3⟩
    · obtain rfl : k = 61 := by omega
      have T5 := (Tt.out.fr (Fr.of_below (S := fun i => W.heap.size ≤ i) B5.out (fun _ _ h => h)) (by have := Blk.lt Tt.out.at_; omega) (fun a ha => by have := Tt.out.lt a ha; omega)).keepB HKB.out HSp.out HSA.out
      have HT5 := Lib.hid T5
      obtain ⟨t0, _, _⟩ := T5.cells
      have hn := T5.n_small
      clear T5 hlt HX
      simp only [show (((61 : Nat) : Int) + 1) = 62 from rfl]
      gi_wp2
      gi_loopw [25, 6, 7] (fun i x6 x7 wx => ∃ k : Nat, k ≤ n ∧ i = .int .i64 (k : Int) ∧ J (61 + k) wx ∧ KeepB S wr wx) (fun i _ _ _ => n - (intOf i).toNat)
      case atStart => exact ⟨0, by omega, rfl, HJs.out, KeepB.refl _ _⟩
      case round =>
        clear t0
        obtain ⟨k, hk, rfl, hJx, hkx⟩ := hrel
        have T6 := HT5.out.keepB hkx HSp.out HSA.out
        have HT6 := Lib.hid T6
        have HKX := Lib.hid hkx
        have HJx := Lib.hid hJx
        clear T6 hkx hJx
        by_cases hlt : k < n
        · obtain ⟨f, hf⟩ : ∃ f, l[k]? = some f := ⟨_, List.getElem?_eq_getElem (by rw [Hl.out]; exact hlt)⟩
          obtain ⟨b, o, hA, d0, d1, d2⟩ := rd_fld HT6.out.rd hf
          subst hA
          have hbx : b < wr.heap.size := World.block_lt_of_cell? _ _ d0
          have hxa := allX_at (l := l) (k := 61 + k) (f := f) (by rw [List.getElem?_append_right (by rw [statL_length]; omega), statL_length, Nat.add_sub_cancel_left]; exact hf)
          have hba := (Below.refl wr.heap.size wr).alloc (Nat.le_refl _) (.cells #[.string f.n, .string f.v, .bool f.nv] 38)
          obtain ⟨fn, tmps, assign, body, hy, hR⟩ := HY.out (61 + k) (f, 1 + (61 + k)) (wr.alloc (.cells #[.string f.n, .string f.v, .bool f.nv] 38)) hxa (HJa.out _ _ _ HJx.out hba)
          have e : encX (f, 1 + (61 + k)) = #[.int .i64 (62 + (k : Int)), .agg #[.string f.n, .string f.v, .bool f.nv]] := by simp [encX]; omega
          rw [e] at hy
          have hk1 : (k : Int) < (n : Int) := by omega
          have HBA := Lib.hid hba
          clear hxa hf e hba
          gi_wp2
          refine ⟨fun _ => by omega, hR.mono ?_⟩
          rintro e W3 (⟨rfl, hJ3, hk3⟩ | ⟨rfl, hJx3⟩)
          · gi_wp2
            go_roundw
            case rel => exact ⟨k + 1, by omega, by go_num, hJ3, HKX.out.trans ((KeepB.below HBA.out).trans hk3)⟩
            case measure => simp [intOf]; omega
          · gi_wp2
            refine bodyPost_ret (results_none rfl _ _ _) rfl ?_
            exact ⟨⟨_, rfl⟩, .inr hJx3⟩
        · obtain rfl : k = n := by omega
          gi_wp2
          go_end0
          refine ⟨⟨_, rfl⟩, .inl ?_⟩
          rw [allX_length, Hl.out]
          exact HJx.out
end Go.Proofs.YtinieljgcenemaaDoor
namespace Go.Proofs.YtinieljgcenemaaDoor
open Go.RowKit Go.Own Go.Tbl
set_option linter.unusedVariables false
attribute [local go_sem] Oper.semAt_some

/-- the number of the first field of that name among the first k ones, or 0 -/
def NamedS (all : List Fld) (f : Fld) (k q : Nat) : Prop := (q = 0 ∧ Miss (nameB f) all k) ∨ ∃ j g, q = j + 1 ∧ j < k ∧ all[j]? = some g ∧ nameB f g = true ∧ Miss (nameB f) all j
theorem NamedS.zero (all : List Fld) (f : Fld) : NamedS all f 0 0 := .inl ⟨rfl, Miss.zero _ _⟩
theorem NamedS.keep {all : List Fld} {f x : Fld} {k q : Nat} (h : NamedS all f k q) (hx : all[k]? = some x) (hp : q ≠ 0 ∨ nameB f x = false) : NamedS all f (k + 1) q := by
  rcases h with ⟨rfl, hm⟩ | ⟨j, g, rfl, hj, rest⟩
  · rcases hp with hp | hp
    · exact absurd rfl hp
    · exact .inl ⟨rfl, hm.step hx hp⟩
  · exact .inr ⟨j, g, rfl, by omega, rest⟩
theorem NamedS.set {all : List Fld} {f x : Fld} {k : Nat} (h : NamedS all f k 0) (hx : all[k]? = some x) (hp : nameB f x = true) : NamedS all f (k + 1) (k + 1) := by
  rcases h with ⟨_, hm⟩ | ⟨j, g, e, _⟩
  · exact .inr ⟨k, x, rfl, by omega, hx, hp, hm⟩
  · omega
theorem NamedS.find {all : List Fld} {f : Fld} {k q : Nat} (h : NamedS all f k q) (hk : all.length ≤ k) (hs : Miss (sameB f) all k) : findF all f = (q, false) := by
  rcases h with ⟨rfl, hm⟩ | ⟨j, g, rfl, hj, h1, h2, h3⟩
  · exact find_none (hs.all hk) (hm.all hk)
  · exact find_name (hs.all hk) (place_hit h1 h2 h3)
theorem sameB_def (f g : Fld) : sameB f g = (g.n.toList == f.n.toList && g.v.toList == f.v.toList) := rfl
theorem nameB_def (f g : Fld) : nameB f g = (g.n.toList == f.n.toList) := rfl

theorem statL_never : ∀ g ∈ statL, g.nv = false := by
  have h : (statL.all fun g => !g.nv) = true := by kernel_rfl
  intro g hg
  simpa using List.all_eq_true.1 h g hg
theorem allX_inv {l : List Fld} {k : Nat} {x : Fld × Nat} (h : (allX l)[k]? = some x) : (statL ++ l)[k]? = some x.1 ∧ x.2 = k + 1 := by
  unfold allX at h
  rw [List.getElem?_zipIdx] at h
  cases hq : (statL ++ l)[k]? with
  | none => rw [hq] at h; simp at h
  | some f =>
    rw [hq] at h
    simp at h
    subst h
    exact ⟨rfl, Nat.add_comm _ _⟩
structure FI (w : World) (f : Fld) (all : List Fld) (k : Nat) (W : World) : Prop where
  bf : Blk W w.heap.size 38 [.string f.n, .string f.v, .bool false]
  b4 : Blk W (w.heap.size + 1) 3 [.int .i64 0]
  b5 : Blk W (w.heap.size + 1 + 1) 4 [.bool false]
  b6 : ∃ q : Nat, Blk W (w.heap.size + 1 + 1 + 1) 3 [.int .i64 (q : Int)] ∧ NamedS all f k q
  miss : Miss (sameB f) all k
  below : Below w.heap.size w W
structure FX (w : World) (f : Fld) (all : List Fld) (k : Nat) (W : World) : Prop where
  b4 : Blk W (w.heap.size + 1) 3 [.int .i64 ((k + 1 : Nat) : Int)]
  b5 : Blk W (w.heap.size + 1 + 1) 4 [.bool true]
  hit : ∃ g, all[k]? = some g ∧ sameB f g = true
  miss : Miss (sameB f) all k
  below : Below w.heap.size w W
theorem FI.turns {w : World} {f : Fld} {all : List Fld} {k B : Nat} {W W' : World} (h : FI w f all k W) (hB : w.heap.size ≤ B) (ht : Turns B W W') : FI w f all k W' := by
  obtain ⟨q, hq, hn⟩ := h.b6
  exact ⟨ht.blk h.bf, ht.blk h.b4, ht.blk h.b5, ⟨q, ht.blk hq, hn⟩, h.miss, ht.below h.below hB⟩
theorem FX.turns {w : World} {f : Fld} {all : List Fld} {k B : Nat} {W W' : World} (h : FX w f all k W) (hB : w.heap.size ≤ B) (ht : Turns B W W') : FX w f all k W' :=
  ⟨ht.blk h.b4, ht.blk h.b5, h.hit, h.miss, ht.below h.below hB⟩
theorem FI.next {w : World} {f : Fld} {all : List Fld} {k : Nat} {W W' : World} (h : FI w f all k W) (hb : Below W.heap.size W W') : FI w f all k W' := by
  obtain ⟨q, hq, hn⟩ := h.b6
  exact ⟨h.bf.below hb h.bf.lt, h.b4.below hb h.b4.lt, h.b5.below hb h.b5.lt, ⟨q, hq.below hb hq.lt, hn⟩, h.miss, h.below.trans (hb.mono h.below.size)⟩
def findS (w : World) (i : Nat) : Prop := i = w.heap.size + 1 ∨ i = w.heap.size + 1 + 1 ∨ i = w.heap.size + 1 + 1 + 1
set_option maxRecDepth 100000 in
set_option maxHeartbeats 4000000 in
theorem xFind_n {w : World} {p : Nat} {A : Option Addr} {n c h : Nat} {l : List Fld} (t : PTx w p A n c h l) (f : Fld) (R1 : Nat) (R2 : Bool) (hR : findF (statL ++ l) f = (R1, R2)) :
    Calls Tryd.prog 52 #[.pointer (some ⟨p, 0, none⟩), .agg #[.string f.n, .string f.v, .bool f.nv]] w fun e w' => e = .returned (.tuple #[.int .i64 (R1 : Int), .bool R2]) ∧ Below w.heap.size w w' := by
  have hpl := Blk.lt t.at_
  have hnv : ∀ g ∈ statL ++ l, g.nv = false := by
    intro g hg
    rcases List.mem_append.1 hg with hg | hg
    · exact statL_never g hg
    · exact (t.ok g hg).2
  have Hnv := Lib.hid hnv
  have HR := Lib.hid hR
  have Ht := Lib.hid t
  have hlen : (statL ++ l).length = (allX l).length := by rw [allX_length, List.length_append, statL_length]
  have Hlen := Lib.hid hlen
  clear t hnv hlen hR
  refine (callsIn_wide (n := 9)).1 ?_
  refine callsIn_of_wp_marks Tryd.func52 rfl trivial ?_ rfl
  simp only [Tryd.ntmps52, List.size_toArray, List.length_cons, List.length_nil, Nat.reduceAdd, Nat.reduceSub, Array.replicate_succ, Array.replicate_zero, List.push_toArray, List.append_toArray, List.nil_append, List.cons_append]
  gi_wp2
  obtain ⟨W4, hW4⟩ : ∃ W4, ((((w.alloc (.cells #[.string f.n, .string f.v, .bool false] 38)).alloc (.cells #[.int .i64 0] 3)).alloc (.cells #[.bool false] 4)).alloc (.cells #[.int .i64 0] 3)) = W4 := ⟨_, rfl⟩
  have hs4 : W4.heap.size = w.heap.size + 1 + 1 + 1 + 1 := by rw [← hW4]; simp
  have hb4 : Below w.heap.size w W4 := by rw [← hW4]; exact ((((Below.refl _ w).alloc (Nat.le_refl _) _).alloc (by simp) _).alloc (by simp; omega) _).alloc (by simp; omega) _
  have hI4 : FI w f (statL ++ l) 0 W4 := by
    refine ⟨?_, ?_, ?_, ⟨0, ?_, NamedS.zero _ _⟩, Miss.zero _ _, hb4⟩
    · rw [← hW4]; exact (((Blk.new w 38 [.string f.n, .string f.v, .bool false]).alloc _).alloc _).alloc _
    · rw [← hW4]
      have := ((Blk.new (w.alloc (.cells #[.string f.n, .string f.v, .bool false] 38)) 3 [.int .i64 0]).alloc (.cells #[.bool false] 4)).alloc (.cells #[.int .i64 0] 3)
      simpa using this
    · rw [← hW4]
      have := (Blk.new ((w.alloc (.cells #[.string f.n, .string f.v, .bool false] 38)).alloc (.cells #[.int .i64 0] 3)) 4 [.bool false]).alloc (.cells #[.int .i64 0] 3)
      simpa using this
    · rw [← hW4]
      have := Blk.new (((w.alloc (.cells #[.string f.n, .string f.v, .bool false] 38)).alloc (.cells #[.int .i64 0] 3)).alloc (.cells #[.bool false] 4)) 3 [.int .i64 0]
      simpa using this
  have HT4 := Lib.hid (Ht.out.below hb4)
  have HA : Hid (∀ a, A = some a → ¬ findS w a.block) := fun a ha e => by have := Ht.out.lt a ha; unfold findS at e; omega
  rw [hW4]
  have HI4 := Lib.hid hI4
  have Hs4 := Lib.hid hs4
  clear hW4 hI4 hs4 hb4
  refine wpIn_range_bound rfl (by omega) (gf := 67) (first := #[.pointer (some ⟨p, 0, none⟩)]) rfl trivial (enters_of Tryd.func67 (by kernel_rfl) rfl)
    (allX l) encX (fun _ => rfl) (KeepB (findS w)) (fun h k => h.trans k) (fun W W' h => KeepB.turns h) (fun W W' h => KeepB.below h)
    (FI w f (statL ++ l)) (FX w f (statL ++ l)) (fun k W W' h ht => h.turns (by have := Hs4.out; omega) ht) (fun k W W' h ht => h.turns (by have := Hs4.out; omega) ht) (fun k W W' h hb => h.next hb) HI4.out
    (fun ll J Jx W hW hJ h0 hY => fields_seq HT4.out (findS w) (by unfold findS; omega) HA.out (fun i hi => by have := Hs4.out; unfold findS at hi; omega) (9 - 1) (by omega) ll J Jx W hW hJ h0 hY)
    (fun k x a' W => ∃ g, w.heap.size + 4 ≤ g ∧ Blk W g 38 (fcells x.1) ∧ a' = { tmps := #[.pointer (some ⟨p, 0, none⟩), .agg #[.string f.n, .string f.v, .bool f.nv], undef, .pointer (some ⟨w.heap.size, 0, none⟩), .pointer (some ⟨w.heap.size + 1, 0, none⟩), .pointer (some ⟨w.heap.size + 1 + 1, 0, none⟩), .pointer (some ⟨w.heap.size + 1 + 1 + 1, 0, none⟩), .int .i64 (x.2 : Int), .pointer (some ⟨g, 0, none⟩), .pointer (some ⟨w.heap.size, 2, none⟩), .pointer (some ⟨p, 0, none⟩), .func (.func 67) #[.pointer (some ⟨p, 0, none⟩)] #[], .int .i64 (x.2 : Int), .agg #[.string x.1.n, .string x.1.v, .bool x.1.nv], undef, undef, undef, undef, undef, undef, undef, undef, undef, undef, undef, undef, undef, undef, undef], defers := [] })
    (fun k x a' W W' ⟨g, hg, hb, e⟩ ht => ⟨g, hg, ht.blk hb, e⟩) ?assign ?body ?done ?stop
  case assign =>
    intro ll k x W K hx hI hK
    unfold encX
    gi_wp2
    exact hK _ _ ((Below.refl _ _).alloc (Nat.le_refl _) _) (hI.next ((Below.refl _ _).alloc (Nat.le_refl _) _)) ⟨W.heap.size, by have := hI.below.size; have := hI.b4.lt; have := hI.b6.choose_spec.1.lt; omega, Blk.new W 38 (fcells x.1), rfl⟩
  case body =>
    rintro ll k ⟨x, xn⟩ a' W hx hI ⟨g, hg, hbx, rfl⟩
    obtain ⟨hx1, hx2⟩ := allX_inv hx
    simp only at hx1 hx2
    subst hx2
    have hxnv := Hnv.out x (List.mem_of_getElem? hx1)
    have Hx1 := Lib.hid hx1
    have HI := Lib.hid hI
    obtain ⟨q, hq, hns⟩ := hI.b6
    have Hns := Lib.hid hns
    have x0 := hbx.cell 0
    have x1 := hbx.cell 1
    have x2 := hbx.cell 2
    have f0 := hI.bf.cell 0
    have f1 := hI.bf.cell 1
    have f2 := hI.bf.cell 2
    have r4 := hI.b4.cell 0
    have r5 := hI.b5.cell 0
    have r6 := hq.cell 0
    have z4 := hI.b4.frozen 0
    have z5 := hI.b5.frozen 0
    have z6 := hq.frozen 0
    simp only [fcells, List.getElem?_cons_zero, List.getElem?_cons_succ, hxnv] at x0 x1 x2 f0 f1 f2 r4 r5 r6
    have Hq := Lib.hid hq
    have hw4 : w.heap.size ≤ w.heap.size + 1 := by omega
    obtain ⟨b1, hb1⟩ : ∃ b1, (x.n.toList == f.n.toList) = b1 := ⟨_, rfl⟩
    obtain ⟨b2, hb2⟩ : ∃ b2, (x.v.toList == f.v.toList) = b2 := ⟨_, rfl⟩
    have hs : sameB f x = (b1 && b2) := by rw [sameB, hb1, hb2]
    have hn : nameB f x = b1 := by rw [nameB, hb1]
    have Hs := Lib.hid hs
    have Hn := Lib.hid hn
    clear hx hI hq hns hx1 hs hn hbx hxnv
    rw [show ((k + 1 : Nat) : Int) = (k : Int) + 1 by omega]
    cases b1
    · gi_wp2
      all_goals exact ⟨KeepsOthers.refl _, KeepB.refl _ _, ⟨HI.out.bf, HI.out.b4, HI.out.b5, ⟨q, Hq.out, Hns.out.keep Hx1.out (.inr Hn.out)⟩, HI.out.miss.step Hx1.out (by rw [Hs.out]; rfl), HI.out.below⟩⟩
    · cases b2
      · by_cases h0 : q = 0
        · subst h0
          gi_wp2
          refine ⟨KeepsOthers.setCell _ _ _, (KeepB.refl _ _).setCell (p := ⟨w.heap.size + 1 + 1 + 1, 0, none⟩) (.inr (.inr rfl)) _, ⟨HI.out.bf.far (p := ⟨w.heap.size + 1 + 1 + 1, 0, none⟩) (by show w.heap.size ≠ w.heap.size + 1 + 1 + 1; omega) _, HI.out.b4.far (p := ⟨w.heap.size + 1 + 1 + 1, 0, none⟩) (by show w.heap.size + 1 ≠ w.heap.size + 1 + 1 + 1; omega) _, HI.out.b5.far (p := ⟨w.heap.size + 1 + 1 + 1, 0, none⟩) (by show w.heap.size + 1 + 1 ≠ w.heap.size + 1 + 1 + 1; omega) _, ⟨k + 1, Hq.out.set_ 0 _, Hns.out.set Hx1.out Hn.out⟩, HI.out.miss.step Hx1.out (by rw [Hs.out]; rfl), HI.out.below.setCell (p := ⟨w.heap.size + 1 + 1 + 1, 0, none⟩) (by show w.heap.size ≤ w.heap.size + 1 + 1 + 1; omega) _⟩⟩
        · have h1 : ((q : Int) == 0) = false := by simp; omega
          gi_wp2
          exact ⟨KeepsOthers.refl _, KeepB.refl _ _, ⟨HI.out.bf, HI.out.b4, HI.out.b5, ⟨q, Hq.out, Hns.out.keep Hx1.out (.inl h0)⟩, HI.out.miss.step Hx1.out (by rw [Hs.out]; rfl), HI.out.below⟩⟩
      · gi_wp2
        refine ⟨(KeepsOthers.setCell W ⟨w.heap.size + 1, 0, none⟩ _).trans (KeepsOthers.setCell _ ⟨w.heap.size + 1 + 1, 0, none⟩ _), ⟨(HI.out.b4.set_ 0 _).far (p := ⟨w.heap.size + 1 + 1, 0, none⟩) (by show w.heap.size + 1 ≠ w.heap.size + 1 + 1; omega) _, (HI.out.b5.far (p := ⟨w.heap.size + 1, 0, none⟩) (by show w.heap.size + 1 + 1 ≠ w.heap.size + 1; omega) _).set_ 0 _, ⟨x, Hx1.out, by rw [Hs.out]; rfl⟩, HI.out.miss, (HI.out.below.setCell (p := ⟨w.heap.size + 1, 0, none⟩) (by show w.heap.size ≤ w.heap.size + 1; omega) _).setCell (p := ⟨w.heap.size + 1 + 1, 0, none⟩) (by show w.heap.size ≤ w.heap.size + 1 + 1; omega) _⟩⟩
  case done =>
    intro D W hD hI hK
    obtain ⟨q, hq, hns⟩ := hI.b6
    have hfd := hns.find (by rw [Hlen.out]; exact Nat.le_refl _) hI.miss
    rw [HR.out] at hfd
    injection hfd with e1 e2
    subst e1 e2
    have r4 := hI.b4.cell 0
    have r5 := hI.b5.cell 0
    have r6 := hq.cell 0
    have z4 := hI.b4.frozen 0
    have z5 := hI.b5.frozen 0
    simp only [List.getElem?_cons_zero] at r4 r5 r6
    have HI := Lib.hid hI
    have HK := Lib.hid hK
    clear hI hK hq hns
    gi_wp2
    have B4 := (HI.out.b4.set_ 0 (.int .i64 (R1 : Int))).far (p := ⟨w.heap.size + 1 + 1, 0, none⟩) (by show w.heap.size + 1 ≠ w.heap.size + 1 + 1; omega) (.bool false)
    have B5 := (HI.out.b5.far (p := ⟨w.heap.size + 1, 0, none⟩) (by show w.heap.size + 1 + 1 ≠ w.heap.size + 1; omega) (.int .i64 (R1 : Int))).set_ 0 (.bool false)
    have BB := (HI.out.below.setCell (p := ⟨w.heap.size + 1, 0, none⟩) (by show w.heap.size ≤ w.heap.size + 1; omega) (.int .i64 (R1 : Int))).setCell (p := ⟨w.heap.size + 1 + 1, 0, none⟩) (by show w.heap.size ≤ w.heap.size + 1 + 1; omega) (.bool false)
    have hK' := ((KeepsOthers.setCell W ⟨w.heap.size + 1, 0, none⟩ (.int .i64 (R1 : Int))).trans (KeepsOthers.setCell _ ⟨w.heap.size + 1 + 1, 0, none⟩ (.bool false))).same D _ HK.out rfl
    generalize (W.setCell ⟨w.heap.size + 1, 0, none⟩ (.int .i64 (R1 : Int))).setCell ⟨w.heap.size + 1 + 1, 0, none⟩ (.bool false) = W2 at B4 B5 BB hK' ⊢
    refine ⟨by simp, .inl ⟨_, _, rfl, run_takeDeferred hK', ?_⟩⟩
    have ht : Turns w.heap.size W2 (W2.putObj D (.deferred none)) := ⟨D, _, _, by have := Hs4.out; omega, hK', rfl, rfl⟩
    have c4 := (ht.blk B4).cell 0
    have c5 := (ht.blk B5).cell 0
    simp at c4 c5
    refine ⟨.tuple #[.int .i64 (R1 : Int), .bool false], ?_, rfl, ht.below BB (Nat.le_refl _)⟩
    simp [results, Tryd.results52, go_sem, c4, c5]
  case stop =>
    intro D k W hD hX hK
    obtain ⟨g, h1, h2⟩ := hX.hit
    have hfd := find_same (place_hit h1 h2 hX.miss)
    rw [HR.out] at hfd
    injection hfd with e1 e2
    subst e1 e2
    have r4 := hX.b4.cell 0
    have r5 := hX.b5.cell 0
    simp only [List.getElem?_cons_zero] at r4 r5
    have HX := Lib.hid hX
    have HK := Lib.hid hK
    clear hX hK h1 h2
    gi_wp2
    refine ⟨by simp, .inl ⟨_, _, rfl, run_takeDeferred HK.out, ?_⟩⟩
    have ht : Turns w.heap.size W (W.putObj D (.deferred none)) := ⟨D, _, _, by have := Hs4.out; omega, HK.out, rfl, rfl⟩
    have c4 := (ht.blk HX.out.b4).cell 0
    have c5 := (ht.blk HX.out.b5).cell 0
    simp only [List.getElem?_cons_zero] at c4 c5
    refine ⟨.tuple #[.int .i64 ((k + 1 : Nat) : Int), .bool true], ?_, rfl, ht.below HX.out.below (Nat.le_refl _)⟩
    simp [results, Tryd.results52, go_sem, c4, c5]
theorem xFind_c {w : World} {p : Nat} {A : Option Addr} {n c h : Nat} {l : List Fld} (t : PTx w p A n c h l) (f : Fld) :
    Calls Tryd.prog 52 #[.pointer (some ⟨p, 0, none⟩), .agg #[.string f.n, .string f.v, .bool f.nv]] w fun e w' => e = .returned (.tuple #[.int .i64 ((findF (statL ++ l) f).1 : Int), .bool (findF (statL ++ l) f).2]) ∧ Below w.heap.size w w' := xFind_n t f _ _ rfl
end Go.Proofs.YtinieljgcenemaaDoor
namespace Go.Proofs.YtinieljgcenemaaDoor
open Go.RowKit Go.Own Go.Tbl
set_option linter.unusedVariables false

/-- the program's table at block p: F its blocks, h its Max, l its entries, the newest first -/
def PT (w : World) (p : Nat) (F : Nat → Prop) (h : Nat) (l : List Fld) : Prop := szs l ≤ h ∧ ∃ A n c, PTx w p A n c h l ∧ ∀ i, F i ↔ tblS p A i
variable {w w' : World} {p h : Nat} {F S : Nat → Prop} {l : List Fld}
theorem PT.le (t : PT w p F h l) : szs l ≤ h := t.1
theorem PT.top (t : PT w p F h l) : h ≤ 65536 := by obtain ⟨_, A, n, c, t, _⟩ := t; exact t.top
theorem PT.ok (t : PT w p F h l) : ∀ f ∈ l, fok f ∧ f.nv = false := by obtain ⟨_, A, n, c, t, _⟩ := t; exact t.ok
theorem PT.lt (t : PT w p F h l) (i : Nat) (hi : F i) : i < w.heap.size := by
  obtain ⟨_, A, n, c, t, hF⟩ := t
  rcases (hF i).1 hi with rfl | ⟨a, ha, rfl⟩
  · exact Blk.lt t.at_
  · exact t.lt a ha
theorem PT.fr (t : PT w p F h l) (hf : Fr S w w') (hs : ∀ i, F i → ¬ S i) : PT w' p F h l := by
  obtain ⟨hle, A, n, c, t, hF⟩ := t
  exact ⟨hle, A, n, c, t.fr hf (hs p ((hF p).2 (.inl rfl))) (fun a ha => hs _ ((hF _).2 (.inr ⟨a, ha, rfl⟩))), hF⟩
theorem pNew_c (m : Int) (hm : i64 m) (w : World) : Calls Tryd.prog 35 #[.int .i64 m] w fun e w' => ∃ p F, e = .returned (.pointer (some ⟨p, 0, none⟩)) ∧ PT w' p F (clampI m) [] ∧ (∀ i, F i → w.heap.size ≤ i) ∧ Below w.heap.size w w' := by
  refine (xNew_c m hm w).mono ?_
  rintro e w' ⟨p, rfl, hp, t, hb⟩
  refine ⟨p, tblS p none, rfl, ⟨by simp [szs], none, 0, 0, t, fun i => Iff.rfl⟩, fun i hi => ?_, hb⟩
  rcases hi with rfl | ⟨a, ha, _⟩
  · exact hp
  · cases ha
theorem pAdd_c (t : PT w p F h l) (f : Fld) (hf : fok f) : Calls Tryd.prog 56 #[.pointer (some ⟨p, 0, none⟩), .agg #[.string f.n, .string f.v, .bool f.nv]] w fun e w' => ∃ F', e = .returned (.tuple #[]) ∧ PT w' p F' h (addF h f l) ∧ (∀ i, F' i → F i ∨ w.heap.size ≤ i) ∧ Fr F w w' := by
  obtain ⟨hle, A, n, c, t, hF⟩ := t
  refine (xAdd_c t f hf).mono ?_
  rintro e w' ⟨A', k, c', rfl, t', hfr, hn⟩
  refine ⟨tblS p A', rfl, ⟨addF_le _ _ _, A', k, c', t', fun i => Iff.rfl⟩, fun i hi => ?_, hfr.mono (fun i _ hi => (hF i).2 hi)⟩
  rcases hi with rfl | ⟨a, ha, rfl⟩
  · exact .inl ((hF _).2 (.inl rfl))
  · exact (hn a ha).imp (fun h => (hF _).2 h) id
theorem pSetMax_c (t : PT w p F h l) (m : Int) (hm : i64 m) : Calls Tryd.prog 66 #[.pointer (some ⟨p, 0, none⟩), .int .i64 m] w fun e w' => ∃ F', e = .returned (.tuple #[]) ∧ PT w' p F' (clampI m) (pre (clampI m) l) ∧ (∀ i, F' i → F i ∨ w.heap.size ≤ i) ∧ Fr F w w' := by
  obtain ⟨hle, A, n, c, t, hF⟩ := t
  refine (xSetMax_c t m hm).mono ?_
  rintro e w' ⟨k, rfl, t', hfr⟩
  exact ⟨F, rfl, ⟨pre_le _ _, A, k, c, t', hF⟩, fun i hi => .inl hi, hfr.mono (fun i _ hi => (hF i).2 hi)⟩
theorem pAt_c (t : PT w p F h l) (i : Int) (hi : i64 i) : Calls Tryd.prog 77 #[.pointer (some ⟨p, 0, none⟩), .int .i64 i] w fun e w' => e = .returned (atV (atL (statL ++ l) i)) ∧ Below w.heap.size w w' := by
  obtain ⟨hle, A, n, c, t, hF⟩ := t
  exact xAt_c t i hi
theorem pFind_c (t : PT w p F h l) (f : Fld) (hf : fok f) : Calls Tryd.prog 52 #[.pointer (some ⟨p, 0, none⟩), .agg #[.string f.n, .string f.v, .bool f.nv]] w fun e w' => e = .returned (.tuple #[.int .i64 ((findF (statL ++ l) f).1 : Int), .bool (findF (statL ++ l) f).2]) ∧ Below w.heap.size w w' := by
  obtain ⟨hle, A, n, c, t, hF⟩ := t
  exact xFind_c t f
theorem pTSize_c (t : PT w p F h l) : Calls Tryd.prog 43 #[.pointer (some ⟨p, 0, none⟩)] w fun e w' => e = .returned (.int .i64 ((szs l : Nat) : Int)) ∧ Below w.heap.size w w' := by
  obtain ⟨hle, A, n, c, t, hF⟩ := t
  exact (xTSize_c t).mono fun e w' ⟨he, hw⟩ => ⟨he, hw ▸ Below.refl _ _⟩
theorem pMax_c (t : PT w p F h l) : Calls Tryd.prog 45 #[.pointer (some ⟨p, 0, none⟩)] w fun e w' => e = .returned (.int .i64 (h : Int)) ∧ Below w.heap.size w w' := by
  obtain ⟨hle, A, n, c, t, hF⟩ := t
  exact (xMax_c t).mono fun e w' ⟨he, hw⟩ => ⟨he, hw ▸ Below.refl _ _⟩
end Go.Proofs.YtinieljgcenemaaDoor
