/- The program's table in memory; Len, Size, Max, At. -/
import Derived.Test.YtemgojgkklkmbaaPTt
namespace Go.Proofs.Ytemgojgkklkmbaa
open Go.RowKit Go.Own Go.Tbl
set_option linter.unusedVariables false
attribute [local go_sem ↓] Go.wp_at_zero Go.wp_at_succ

/-- the program's table: its block, its slice, its Max, its entries -/
structure PTx (w : World) (p : Nat) (A : Option Addr) (n c h : Nat) (l : List Fld) : Prop where
  at_ : Blk w p 55 [.slice A n c, .int .i64 ((szs l : Nat) : Int), .int .i64 (h : Int)]
  own : w.ownsRow 0 23 3 (.slice A n c) n (fcellsL l)
  ok : ∀ f ∈ l, fok f ∧ f.nv = false
  small : szs l ≤ 65536
  top : h ≤ 65536
section
variable {w w' : World} {p : Nat} {A : Option Addr} {n c h : Nat} {l : List Fld}
theorem PTx.len (t : PTx w p A n c h l) : l.length = n := by
  have := t.own.1
  rw [fcellsL_length] at this
  omega
theorem PTx.n_small (t : PTx w p A n c h l) : n ≤ 2048 := by
  have h1 := len_szs l
  have h2 := t.small
  have h3 := t.len
  omega
theorem PTx.ne (t : PTx w p A n c h l) : ∀ a, A = some a → a.block ≠ p := by
  intro a ha e
  refine own_ne_blk t.own t.at_ (by decide) ?_
  rw [ha]
  simp [Value.ownBlock, e]
theorem PTx.lt (t : PTx w p A n c h l) : ∀ a, A = some a → a.block < w.heap.size := fun a ha => (t.own.lt a.block (by rw [ha]; rfl)).2
theorem PTx.fr {S : Nat → Prop} (t : PTx w p A n c h l) (hf : Fr S w w') (h1 : ¬ S p) (h2 : ∀ a, A = some a → ¬ S a.block) : PTx w' p A n c h l :=
  ⟨t.at_.fr hf h1, own_fr t.own hf (fun g hg => by
    cases A with
    | none => simp [Value.ownBlock] at hg
    | some a => simp [Value.ownBlock] at hg; subst hg; exact h2 a rfl), t.ok, t.small, t.top⟩
theorem PTx.below (t : PTx w p A n c h l) (hb : Below w.heap.size w w') : PTx w' p A n c h l :=
  t.fr (Fr.of_below (S := fun i => w.heap.size ≤ i) hb (fun _ _ h => h)) (by have := Blk.lt t.at_; omega) (fun a ha => by have := t.lt a ha; omega)
theorem PTx.alloc (t : PTx w p A n c h l) (o : Obj) : PTx (w.alloc o) p A n c h l := t.below ((Below.refl _ _).alloc (Nat.le_refl _) _)
theorem PTx.drewN (t : PTx w p A n c h l) (q : Nat) : PTx (w.drewN q) p A n c h l := t.below (below_drewN (Below.refl _ _) q)
theorem PTx.rd (t : PTx w p A n c h l) : Rd w 3 A n (fcellsL l) := Rd.of_own t.own
theorem PTx.cells (t : PTx w p A n c h l) : w.cell? ⟨p, 0, none⟩ = some (.slice A n c) ∧ w.cell? ⟨p, 1, none⟩ = some (.int .i64 ((szs l : Nat) : Int)) ∧ w.cell? ⟨p, 2, none⟩ = some (.int .i64 (h : Int)) :=
  ⟨t.at_.cell 0, t.at_.cell 1, t.at_.cell 2⟩
end
set_option maxRecDepth 100000 in
theorem xLen_c {w : World} {p : Nat} {A : Option Addr} {n c h : Nat} {l : List Fld} (t : PTx w p A n c h l) : Calls Try.prog 28 #[.pointer (some ⟨p, 0, none⟩)] w fun e w' => e = .returned (.int .i64 (l.length : Int)) ∧ w' = w := by
  have hl := t.len
  obtain ⟨c0, c1, c2⟩ := t.cells
  rw [hl]
  clear t hl
  go_enter Try.func28, Try.ntmps28
  go_wp2
  go_ret
  exact ⟨rfl, rfl⟩
set_option maxRecDepth 100000 in
theorem xTSize_c {w : World} {p : Nat} {A : Option Addr} {n c h : Nat} {l : List Fld} (t : PTx w p A n c h l) : Calls Try.prog 29 #[.pointer (some ⟨p, 0, none⟩)] w fun e w' => e = .returned (.int .i64 ((szs l : Nat) : Int)) ∧ w' = w := by
  obtain ⟨c0, c1, c2⟩ := t.cells
  clear t
  go_enter Try.func29, Try.ntmps29
  go_wp2
  go_ret
  exact ⟨rfl, rfl⟩
set_option maxRecDepth 100000 in
theorem xMax_c {w : World} {p : Nat} {A : Option Addr} {n c h : Nat} {l : List Fld} (t : PTx w p A n c h l) : Calls Try.prog 30 #[.pointer (some ⟨p, 0, none⟩)] w fun e w' => e = .returned (.int .i64 (h : Int)) ∧ w' = w := by
  obtain ⟨c0, c1, c2⟩ := t.cells
  clear t
  go_enter Try.func30, Try.ntmps30
  go_wp2
  go_ret
  exact ⟨rfl, rfl⟩
theorem pStatic_n (i : Int) (hi : i64 i) (w : World) (R : Option Fld) (hR : atL statL i = R) : Calls Try.prog 11 #[.int .i64 i] w fun e w' => e = .returned (atV R) ∧ Below w.heap.size w w' := by
  subst hR
  exact pStatic_c i hi w
/-- a field put into a variable of its own -/
theorem putF {w : World} {r : Nat} {x : List Value} (h : Blk w r 23 x) (hx : x.length = 3) (a b : ByteArray) (nv : Bool) :
    Blk (((w.setCell ⟨r, 0, none⟩ (.string a)).setCell ⟨r, 1, none⟩ (.string b)).setCell ⟨r, 2, none⟩ (.bool nv)) r 23 [.string a, .string b, .bool nv] := by
  match x, hx with
  | [x, y, z], _ => exact ((h.set_ 0 (.string a)).set_ 1 (.string b)).set_ 2 (.bool nv)
theorem putB_ {B : Nat} {w0 w : World} {r : Nat} (h : Below B w0 w) (hr : B ≤ r) (a b c : Value) : Below B w0 (((w.setCell ⟨r, 0, none⟩ a).setCell ⟨r, 1, none⟩ b).setCell ⟨r, 2, none⟩ c) :=
  ((h.setCell (p := ⟨r, 0, none⟩) hr _).setCell (p := ⟨r, 1, none⟩) hr _).setCell (p := ⟨r, 2, none⟩) hr _
set_option maxRecDepth 100000 in
set_option maxHeartbeats 2000000 in
theorem xAt_stat {w : World} (p : Nat) (i : Int) (hi : i64 i) (f : Fld) (hf : atL statL i = some f) : Calls Try.prog 21 #[.pointer (some ⟨p, 0, none⟩), .int .i64 i] w fun e w' => e = .returned (atV (some f)) ∧ Below w.heap.size w w' := by
  have HR := Lib.hid hf
  have V0 : Hid (Blk (w.alloc (.cells #[.string ⟨#[]⟩, .string ⟨#[]⟩, .bool false] 23)) w.heap.size 23 [.string ⟨#[]⟩, .string ⟨#[]⟩, .bool false]) := Blk.new w 23 [.string ⟨#[]⟩, .string ⟨#[]⟩, .bool false]
  clear hf
  go_enter Try.func21, Try.ntmps21
  go_wp2_with (first
    | (go_at_call 11; (with_reducible refine (pStatic_n i hi _ _ HR.out).mono ?_); rintro e w3 ⟨rfl, b3⟩; unfold atV
       have B3 := Lib.hid (((Below.refl w.heap.size w).alloc (Nat.le_refl _) _).trans (b3.mono (by simp)))
       have V3 := Lib.hid (V0.out.below b3 (by simp))
       have q0 := V3.out.cell 0
       have q1 := V3.out.cell 1
       have q2 := V3.out.cell 2
       have z0 := V3.out.frozen 0
       have z1 := V3.out.frozen 1
       have z2 := V3.out.frozen 2
       have hlt : w.heap.size < w3.heap.size := by have := b3.size; simp at this; omega
       simp only [List.getElem?_cons_zero, List.getElem?_cons_succ] at q0 q1 q2
       clear b3))
  have H7 := (putF V3.out rfl f.n f.v f.nv).alloc (.cells #[.string f.n, .string f.v, .bool f.nv] 23)
  have HB7 := (putB_ B3.out (Nat.le_refl _) (.string f.n) (.string f.v) (.bool f.nv)).alloc (by simpa using B3.out.size) (.cells #[.string f.n, .string f.v, .bool f.nv] 23)
  have r0 := H7.cell 0
  have r1 := H7.cell 1
  have r2 := H7.cell 2
  simp only [List.getElem?_cons_zero, List.getElem?_cons_succ] at r0 r1 r2
  generalize ((((w3.setCell ⟨w.heap.size, 0, none⟩ (.string f.n)).setCell ⟨w.heap.size, 1, none⟩ (.string f.v)).setCell ⟨w.heap.size, 2, none⟩ (.bool f.nv)).alloc (.cells #[.string f.n, .string f.v, .bool f.nv] 23)) = w7 at H7 HB7 r0 r1 r2 ⊢
  refine bodyPost_ret (v := atV (some f)) (by simp [results, Try.results21, go_sem, r0, r1, r2, atV]) rfl ⟨rfl, HB7⟩
set_option maxRecDepth 100000 in
set_option maxHeartbeats 2000000 in
theorem xAt_none {w : World} {p : Nat} {A : Option Addr} {n c h : Nat} {l : List Fld} (t : PTx w p A n c h l) (i : Int) (hi : i64 i) (hin : i < 1 ∨ (61 + n : Nat) < i) : Calls Try.prog 21 #[.pointer (some ⟨p, 0, none⟩), .int .i64 i] w fun e w' => e = .returned (atV none) ∧ Below w.heap.size w w' := by
  have hR : atL statL i = none := by unfold atL; rw [if_pos (by rw [statL_length]; omega)]
  have HR := Lib.hid hR
  have hi2 := hi.2
  have T0 := Lib.hid (t.alloc (.cells #[.string ⟨#[]⟩, .string ⟨#[]⟩, .bool false] 23))
  have V0 : Hid (Blk (w.alloc (.cells #[.string ⟨#[]⟩, .string ⟨#[]⟩, .bool false] 23)) w.heap.size 23 [.string ⟨#[]⟩, .string ⟨#[]⟩, .bool false]) := Blk.new w 23 [.string ⟨#[]⟩, .string ⟨#[]⟩, .bool false]
  have hcase : i < 62 ∧ i < 1 ∨ (62 ≤ i ∧ (n : Int) ≤ i - 62) := by omega
  have hns := t.n_small
  have hpl := Blk.lt t.at_
  clear hR t hin
  rcases hcase with ⟨h1, _⟩ | ⟨h1, h2⟩
  all_goals
    go_enter Try.func21, Try.ntmps21
    go_wp2_with (first
      | (go_at_call 11; (with_reducible refine (pStatic_n i hi _ _ HR.out).mono ?_); rintro e w3 ⟨rfl, b3⟩; unfold atV
         have B3 := Lib.hid (((Below.refl w.heap.size w).alloc (Nat.le_refl _) _).trans (b3.mono (by simp)))
         have V3 := Lib.hid (V0.out.below b3 (by simp))
         have T3 := Lib.hid (T0.out.below b3)
         have q0 := V3.out.cell 0
         have q1 := V3.out.cell 1
         have q2 := V3.out.cell 2
         have z0 := V3.out.frozen 0
         have z1 := V3.out.frozen 1
         have z2 := V3.out.frozen 2
         have t0 := T3.out.at_.cell 0
         have hlt : w.heap.size < w3.heap.size := by have := b3.size; simp at this; omega
         have hpl3 : p < w3.heap.size := Nat.lt_trans hpl hlt
         simp only [List.getElem?_cons_zero, List.getElem?_cons_succ] at q0 q1 q2 t0
         clear b3))
    have H7 := (putF V3.out rfl ⟨#[]⟩ ⟨#[]⟩ false).alloc (.cells #[.string ⟨#[]⟩, .string ⟨#[]⟩, .bool false] 23)
    have HB7 := (putB_ B3.out (Nat.le_refl _) (.string ⟨#[]⟩) (.string ⟨#[]⟩) (.bool false)).alloc (by simpa using B3.out.size) (.cells #[.string ⟨#[]⟩, .string ⟨#[]⟩, .bool false] 23)
    have r0 := H7.cell 0
    have r1 := H7.cell 1
    have r2 := H7.cell 2
    simp only [List.getElem?_cons_zero, List.getElem?_cons_succ] at r0 r1 r2
    generalize ((((w3.setCell ⟨w.heap.size, 0, none⟩ (.string ⟨#[]⟩)).setCell ⟨w.heap.size, 1, none⟩ (.string ⟨#[]⟩)).setCell ⟨w.heap.size, 2, none⟩ (.bool false)).alloc (.cells #[.string ⟨#[]⟩, .string ⟨#[]⟩, .bool false] 23)) = w7 at H7 HB7 r0 r1 r2 ⊢
    refine bodyPost_ret (v := atV none) (by simp [results, Try.results21, go_sem, r0, r1, r2, atV]) rfl ⟨rfl, HB7⟩
set_option maxRecDepth 100000 in
set_option maxHeartbeats 2000000 in
theorem xAt_some {w : World} {p : Nat} {A : Option Addr} {n c h : Nat} {l : List Fld} (t : PTx w p A n c h l) (i : Int) (hi : i64 i) (k : Nat) (hk : i - 62 = (k : Int)) (f : Fld) (hf : l[k]? = some f) : Calls Try.prog 21 #[.pointer (some ⟨p, 0, none⟩), .int .i64 i] w fun e w' => e = .returned (atV (some f)) ∧ Below w.heap.size w w' := by
  have hR : atL statL i = none := by unfold atL; rw [if_pos (by rw [statL_length]; omega)]
  have HR := Lib.hid hR
  have hi2 := hi.2
  have T0 := Lib.hid (t.alloc (.cells #[.string ⟨#[]⟩, .string ⟨#[]⟩, .bool false] 23))
  have V0 : Hid (Blk (w.alloc (.cells #[.string ⟨#[]⟩, .string ⟨#[]⟩, .bool false] 23)) w.heap.size 23 [.string ⟨#[]⟩, .string ⟨#[]⟩, .bool false]) := Blk.new w 23 [.string ⟨#[]⟩, .string ⟨#[]⟩, .bool false]
  have hkn : k < n := by have := (List.getElem?_eq_some_iff.1 hf).1; have := t.len; omega
  have h1 : ¬ i < 62 := by omega
  have hns := t.n_small
  have hpl := Blk.lt t.at_
  have Hf := Lib.hid hf
  have hA : ∃ b o, A = some ⟨b, o, none⟩ := by obtain ⟨b, o, e, _⟩ := rd_fld t.rd hf; exact ⟨b, o, e⟩
  obtain ⟨b, o, rfl⟩ := hA
  have hk2 : ¬ (n : Int) ≤ (k : Int) := by omega
  have hk3 : decide (n ≤ k) = false := by simp; omega
  have hk4 : (k : Int) < (n : Int) := by omega
  clear hR t hf
  go_enter Try.func21, Try.ntmps21
  go_wp2_with (first
    | (go_at_call 11; (with_reducible refine (pStatic_n i hi _ _ HR.out).mono ?_); rintro e w3 ⟨rfl, b3⟩; unfold atV
       have B3 := Lib.hid (((Below.refl w.heap.size w).alloc (Nat.le_refl _) _).trans (b3.mono (by simp)))
       have V3 := Lib.hid (V0.out.below b3 (by simp))
       have T3 := Lib.hid (T0.out.below b3)
       obtain ⟨bb, oo, e3, d0, d1, d2⟩ := rd_fld T3.out.rd Hf.out
       cases e3
       have hb3 : b < w3.heap.size := World.block_lt_of_cell? _ _ d0
       have q0 := V3.out.cell 0
       have q1 := V3.out.cell 1
       have q2 := V3.out.cell 2
       have z0 := V3.out.frozen 0
       have z1 := V3.out.frozen 1
       have z2 := V3.out.frozen 2
       have t0 := T3.out.at_.cell 0
       have hlt : w.heap.size < w3.heap.size := by have := b3.size; simp at this; omega
       have hpl3 : p < w3.heap.size := Nat.lt_trans hpl hlt
       simp only [List.getElem?_cons_zero, List.getElem?_cons_succ] at q0 q1 q2 t0
       clear b3))
  have H7 := (putF V3.out rfl f.n f.v f.nv).alloc (.cells #[.string ⟨#[]⟩, .string ⟨#[]⟩, .bool false] 23)
  have HB7 := (putB_ B3.out (Nat.le_refl _) (.string f.n) (.string f.v) (.bool f.nv)).alloc (by simpa using B3.out.size) (.cells #[.string ⟨#[]⟩, .string ⟨#[]⟩, .bool false] 23)
  have r0 := H7.cell 0
  have r1 := H7.cell 1
  have r2 := H7.cell 2
  simp only [List.getElem?_cons_zero, List.getElem?_cons_succ] at r0 r1 r2
  generalize ((((w3.setCell ⟨w.heap.size, 0, none⟩ (.string f.n)).setCell ⟨w.heap.size, 1, none⟩ (.string f.v)).setCell ⟨w.heap.size, 2, none⟩ (.bool f.nv)).alloc (.cells #[.string ⟨#[]⟩, .string ⟨#[]⟩, .bool false] 23)) = w7 at H7 HB7 r0 r1 r2 ⊢
  refine bodyPost_ret (v := atV (some f)) (by simp [results, Try.results21, go_sem, r0, r1, r2, atV]) rfl ⟨rfl, HB7⟩
theorem xAt_c {w : World} {p : Nat} {A : Option Addr} {n c h : Nat} {l : List Fld} (t : PTx w p A n c h l) (i : Int) (hi : i64 i) : Calls Try.prog 21 #[.pointer (some ⟨p, 0, none⟩), .int .i64 i] w fun e w' => e = .returned (atV (atL (statL ++ l) i)) ∧ Below w.heap.size w w' := by
  have hlen : (statL ++ l).length = 61 + n := by rw [List.length_append, statL_length, t.len]
  by_cases h1 : i < 1 ∨ (61 + n : Nat) < i
  · have : atL (statL ++ l) i = none := by unfold atL; rw [if_pos (by rw [hlen]; omega)]
    rw [this]
    exact xAt_none t i hi h1
  · have hk : (i - 1).toNat < (statL ++ l).length := by rw [hlen]; omega
    have : atL (statL ++ l) i = some (statL ++ l)[(i - 1).toNat] := by
      unfold atL
      rw [if_neg (by rw [hlen]; omega), List.getElem?_eq_getElem hk]
    rw [this]
    by_cases h2 : i ≤ 61
    · refine xAt_stat p i hi _ ?_
      unfold atL
      rw [if_neg (by rw [statL_length]; omega), ← List.getElem?_eq_getElem hk, List.getElem?_append_left (by rw [statL_length]; omega)]
    · refine xAt_some t i hi (i - 62).toNat (by omega) _ ?_
      rw [← List.getElem?_eq_getElem hk, List.getElem?_append_right (by rw [statL_length]; omega)]
      congr 1
      rw [statL_length]
      omega
end Go.Proofs.Ytemgojgkklkmbaa
