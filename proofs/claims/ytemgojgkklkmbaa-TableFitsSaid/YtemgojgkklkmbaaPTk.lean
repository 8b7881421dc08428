/- The program's table: shrink. -/
import Derived.Test.YtemgojgkklkmbaaPTa
namespace Go.Proofs.Ytemgojgkklkmbaa
open Go.RowKit Go.Own Go.Tbl
set_option linter.unusedVariables false
attribute [local go_sem ↓] Go.wp_at_zero Go.wp_at_succ

/-- what is left when no more than m is to be there -/
def shrL (m : Int) (l : List Fld) : List Fld := if 0 ≤ m then pre m.toNat l else []
theorem shrL_of (m : Int) (k : Nat) (l : List Fld) (hk : k ≤ l.length) (h1 : k = 0 ∨ ((szs (l.take k) : Nat) : Int) ≤ m) (h2 : k < l.length → m < ((szs (l.take (k + 1)) : Nat) : Int)) : shrL m l = l.take k := by
  unfold shrL
  split
  · rename_i hm
    refine pre_of_take _ _ k hk ?_ ?_
    · rcases h1 with rfl | h1
      · simp [szs]
      · omega
    · intro f hf
      have hkl := (List.getElem?_eq_some_iff.1 hf).1
      have := h2 hkl
      rw [szs_take_succ l k f hf] at this
      omega
  · rename_i hm
    rcases h1 with rfl | h1
    · simp
    · omega
theorem pSize_n (a b : ByteArray) (nv : Bool) (ha : a.size ≤ 140737488355328) (hb : b.size ≤ 140737488355328) (N : Nat) (hN : a.size + b.size + 32 = N) (w : World) : Calls Try.prog 12 #[.agg #[.string a, .string b, .bool nv]] w fun e w' => e = .returned (.int .i64 (N : Int)) ∧ Below w.heap.size w w' := by
  subst hN
  exact pSize_c ⟨a, b, nv⟩ ⟨ha, hb⟩ w
theorem take_set_ge {α : Type} (l : List α) (i k : Nat) (x : α) (h : k ≤ i) : (l.set i x).take k = l.take k := by
  rw [List.take_set, List.set_eq_of_length_le]
  rw [List.length_take]
  omega
/-- the last entry goes -/
theorem PTx.cut {w : World} {p b g c h q : Nat} {l : List Fld} (t : PTx w p (some ⟨b, 0, none⟩) (g + 1) c h l) (hq : szs (l.take g) = q) (x y z : Value) :
    PTx (((((w.setCell ⟨p, 1, none⟩ (.int .i64 (q : Int))).setCell ⟨b, g * 3, none⟩ x).setCell ⟨b, g * 3 + 1, none⟩ y).setCell ⟨b, g * 3 + 2, none⟩ z).setCell ⟨p, 0, none⟩ (.slice (some ⟨b, 0, none⟩) g c)) p (some ⟨b, 0, none⟩) g c h (l.take g) := by
  have hne : b ≠ p := t.ne _ rfl
  have hne' : p ≠ b := fun e => hne e.symm
  obtain ⟨cur, hb, hnc, hcm, hcl, htk⟩ := own_blk t.own
  have h1 := (((t.at_.set_ 1 (.int .i64 (q : Int))).far (p := ⟨b, g * 3, none⟩) hne' x).far (p := ⟨b, g * 3 + 1, none⟩) hne' y).far (p := ⟨b, g * 3 + 2, none⟩) hne' z
  have h2 := ((((hb.far (p := ⟨p, 1, none⟩) hne (.int .i64 (q : Int))).set_ (g * 3) x).set_ (g * 3 + 1) y).set_ (g * 3 + 2) z).far (p := ⟨p, 0, none⟩) hne (.slice (some ⟨b, 0, none⟩) g c)
  have hsm := szs_take_mono l g l.length (by rw [t.len]; omega)
  rw [List.take_length] at hsm
  refine ⟨?_, ?_, fun f hf => t.ok f (List.mem_of_mem_take hf), by have := t.small; omega, t.top⟩
  · rw [hq]
    exact h1.set_ 0 (.slice (some ⟨b, 0, none⟩) g c)
  · have h3 := own_of_blk (n := g) (size := 3) (cap := c) h2 (by simp [hcl]) (by omega) hcm
    rw [take_set_ge _ _ _ _ (by omega), take_set_ge _ _ _ _ (by omega), take_set_ge _ _ _ _ (by omega)] at h3
    have h4 : cur.take (g * 3) = fcellsL (l.take g) := by
      rw [← fcellsL_take, ← htk, List.take_take, Nat.min_eq_left (by omega)]
    rw [h4] at h3
    exact h3
theorem PTx.cutFr {w0 w : World} {p b : Nat} (S : Nat → Prop) (hf : Fr S w0 w) (hp : S p) (hb : S b) (q1 q2 q3 q4 q5 : Value) (i j k : Nat) :
    Fr S w0 (((((w.setCell ⟨p, 1, none⟩ q1).setCell ⟨b, i, none⟩ q2).setCell ⟨b, j, none⟩ q3).setCell ⟨b, k, none⟩ q4).setCell ⟨p, 0, none⟩ q5) :=
  ((((hf.setCell (p := ⟨p, 1, none⟩) (.inl hp) _).setCell (p := ⟨b, i, none⟩) (.inl hb) _).setCell (p := ⟨b, j, none⟩) (.inl hb) _).setCell (p := ⟨b, k, none⟩) (.inl hb) _).setCell (p := ⟨p, 0, none⟩) (.inl hp) _
/-- the blocks of a table -/
def tblS (p : Nat) (A : Option Addr) (i : Nat) : Prop := i = p ∨ ∃ a, A = some a ∧ a.block = i
def ShrP (w : World) (p : Nat) (A : Option Addr) (c h : Nat) (L : List Fld) (e : Ending) (w' : World) : Prop := ∃ k, e = .returned (.tuple #[]) ∧ PTx w' p A k c h L ∧ Fr (tblS p A) w w'
set_option maxRecDepth 100000 in
set_option maxHeartbeats 4000000 in
theorem xshrink_any {w : World} {p : Nat} {A : Option Addr} {n c h : Nat} {l : List Fld} (t : PTx w p A n c h l) (m : Int) (hm : i64 m) :
    Calls Try.prog 33 #[.pointer (some ⟨p, 0, none⟩), .int .i64 m] w (ShrP w p A c h (shrL m l)) := by
  have Ht := Lib.hid t
  have hl := t.len
  have Hl := Lib.hid hl
  have hsz := t.small
  have Hsz := Lib.hid hsz
  have hn := t.n_small
  clear t hl hsz
  go_enter Try.func33, Try.ntmps33
  go_wp2
  go_loopg [4] n (fun gh x w' => gh ≤ n ∧ PTx w' p A gh c h (l.take gh) ∧ Fr (tblS p A) w w' ∧ (gh < n → m < ((szs (l.take (gh + 1)) : Nat) : Int)))
  case atStart =>
    refine ⟨Nat.le_refl _, ?_, Fr.refl _ _, fun h => absurd h (Nat.lt_irrefl _)⟩
    rw [List.take_of_length_le (by rw [Hl.out]; exact Nat.le_refl _)]
    exact Ht.out
  case round =>
    obtain ⟨hgn, ht, hf, hd⟩ := hrel
    have HT := Lib.hid ht
    have HF := Lib.hid hf
    have HD := Lib.hid hd
    obtain ⟨c0, c1, c2⟩ := ht.cells
    clear ht hf hd
    cases gk with
    | zero =>
      have hend : l.take 0 = shrL m l := (shrL_of m 0 l (by omega) (.inl rfl) (fun hk => HD.out (by have := Hl.out; omega))).symm
      have Hend := Lib.hid hend
      clear hend
      have e0 : szs (l.take 0) = 0 := by simp [szs]
      rw [e0] at c1
      by_cases hc : m < 0
      · have kb : decide (m < 0) = true := decide_eq_true hc
        go_wp2
        go_end0
        exact ⟨0, rfl, Hend.out ▸ HT.out, HF.out⟩
      · have kb : decide (m < 0) = false := decide_eq_false hc
        go_wp2
        go_end0
        exact ⟨0, rfl, Hend.out ▸ HT.out, HF.out⟩
    | succ g =>
      obtain ⟨q, hq⟩ : ∃ q, szs (l.take (g + 1)) = q := ⟨_, rfl⟩
      rw [hq] at c1
      have hql : q ≤ 65536 := by
        have h1 := szs_take_mono l (g + 1) l.length (by have := Hl.out; omega)
        rw [List.take_length, hq] at h1
        have := Hsz.out
        omega
      by_cases hc : m < (q : Int)
      · have kb : decide (m < (q : Int)) = true := decide_eq_true hc
        obtain ⟨f, hfe⟩ : ∃ f, (l.take (g + 1))[g]? = some f := ⟨_, List.getElem?_eq_getElem (by rw [List.length_take, Hl.out]; omega)⟩
        obtain ⟨N, hN⟩ : ∃ N, f.n.size + f.v.size + 32 = N := ⟨_, rfl⟩
        obtain ⟨q2, hq2⟩ : ∃ q2, szs (l.take g) = q2 := ⟨_, rfl⟩
        have hqq : q2 + N = q := by
          have h1 := szs_take_succ l g f (by rw [List.getElem?_take] at hfe; split at hfe; exact hfe; cases hfe)
          rw [hq, hq2] at h1
          rw [h1, ← hN]
          rfl
        have e1 : (q : Int) - (N : Int) = (q2 : Int) := by omega
        have e2 : IntKind.i64.wrap (q2 : Int) = (q2 : Int) := by rw [IntKind.wrap_i64]; omega
        obtain ⟨ho1, ho2⟩ := (HT.out.ok f (List.mem_of_getElem? hfe)).1
        obtain ⟨b, o, rfl, d0, d1, d2⟩ := rd_fld HT.out.rd hfe
        obtain ⟨_, _, _, _, _, _, hoff⟩ := own_shape HT.out.own
        obtain ⟨rfl, -⟩ : o = 0 ∧ True := ⟨(hoff _ (by rename_i he _ _ _; simp only [Value.slice.injEq] at he; exact he.1.symm)).1, trivial⟩
        simp only [Nat.zero_add] at d0 d1 d2
        clear hoff
        have hgs : IntKind.i64.wrap (((g + 1 : Nat) : Int) - 1) = (g : Int) := by rw [IntKind.wrap_i64]; omega
        have hgl : g < g + 1 := by omega
        have Hq2 := Lib.hid hq2
        have Hq := Lib.hid hq
        have HN := Lib.hid hN
        have Hqq := Lib.hid hqq
        have Hfe := Lib.hid hfe
        clear hq hq2 hN hqq hfe
        go_wp2
        have HTd : Hid (PTx wr.drew p (some ⟨b, 0, none⟩) (g + 1) c h (l.take (g + 1))) := HT.out.drewN 1
        have HFd : Hid (Fr (tblS p (some ⟨b, 0, none⟩)) w wr.drew) := HF.out.drewN 1
        go_region_with
          (first
          | (go_at_call 12; (with_reducible refine (pSize_n f.n f.v f.nv ho1 ho2 N HN.out _).mono ?_); rintro e w2 ⟨rfl, b2⟩
             have HT2 := Lib.hid (HTd.out.below b2)
             have HF2 := Lib.hid (HFd.out.trans (Fr.of_below (S := fun i => wr.drew.heap.size ≤ i) b2 (fun _ _ h => h)) (fun i hi h => by have := HF.out.size; have e : wr.drew.heap.size = wr.heap.size := rfl; omega))
             obtain ⟨v0, v1, v2⟩ := HT2.out.cells
             rw [Hq.out] at v1
             have z0 := HT2.out.at_.frozen 0
             have z1 := HT2.out.at_.frozen 1
             obtain ⟨cur, hcur, _, _, hcl, _⟩ := own_blk HT2.out.own
             have y0 := hcur.frozen (g * 3)
             have y1 := hcur.frozen (g * 3 + 1)
             have y2 := hcur.frozen (g * 3 + 2)
             obtain ⟨bb, oo, eA, x0, x1, x2⟩ := rd_fld HT2.out.rd Hfe.out
             cases eA
             simp only [Nat.zero_add] at x0 x1 x2
             have hbp : b ≠ p := HT2.out.ne _ rfl
             have hpb : p ≠ b := fun e => hbp e.symm
             have hgc : g ≤ c := by have := (own_len HT2.out.own).1; omega
             clear hcur hcl b2))
        all_goals
          clear e1 e2 hgs
          go_wp2
          go_roundg g
          case measure => omega
          case rel =>
            have h3 := PTx.cut HT2.out (q := q2) (by rw [List.take_take, Nat.min_eq_left (by omega)]; exact Hq2.out) (.string ⟨#[]⟩) (.string ⟨#[]⟩) (.bool false)
            rw [List.take_take, Nat.min_eq_left (by omega)] at h3
            exact ⟨by omega, h3, PTx.cutFr _ HF2.out (.inl rfl) (.inr ⟨_, rfl, rfl⟩) _ _ _ _ _ _ _ _, fun _ => by rw [Hq.out]; exact hc⟩
      · have kb : decide (m < (q : Int)) = false := decide_eq_false hc
        have hend : l.take (g + 1) = shrL m l := (shrL_of m (g + 1) l (by have := Hl.out; omega) (.inr (by rw [hq]; omega)) (fun hk => HD.out (by have := Hl.out; omega))).symm
        have Hend := Lib.hid hend
        clear hend
        clear hq
        go_wp2
        go_end0
        exact ⟨g + 1, rfl, Hend.out ▸ HT.out, HF.out⟩
end Go.Proofs.Ytemgojgkklkmbaa
