/- The program's table: Static, Size, rightMax. -/
import Derived.Test.YtefjjmhbbcganaaPTs
namespace Go.Proofs.Ytefjjmhbbcganaa
open Go.RowKit Go.Own Go.Tbl
set_option linter.unusedVariables false
attribute [local go_sem ↓] Go.wp_at_zero Go.wp_at_succ

def i64 (n : Int) : Prop := -9223372036854775808 ≤ n ∧ n ≤ 9223372036854775807
set_option maxRecDepth 100000 in
theorem pSize_c (f : Fld) (hf : fok f) (w : World) : Calls Try.prog 13 #[.agg #[.string f.n, .string f.v, .bool f.nv]] w fun e w' => e = .returned (.int .i64 ((sz f : Nat) : Int)) ∧ Below w.heap.size w w' := by
  obtain ⟨h1, h2⟩ := hf
  obtain ⟨a, ha⟩ : ∃ a, f.n.size = a := ⟨_, rfl⟩
  obtain ⟨b, hb⟩ : ∃ b, f.v.size = b := ⟨_, rfl⟩
  have hs : sz f = a + b + 32 := by unfold sz; rw [ha, hb]
  rw [hs]
  rw [ha] at h1
  rw [hb] at h2
  go_enter Try.func13, Try.ntmps13
  go_wp2
  go_ret
  exact ⟨by simp, (Below.refl _ _).alloc (Nat.le_refl _) _⟩
set_option maxRecDepth 100000 in
theorem rightMax_any (x : Int) (hx : i64 x) (w : World) : Calls Try.prog 33 #[.int .i64 x] w fun e w' => e = .returned (.int .i64 ((clampI x : Nat) : Int)) ∧ w' = w := by
  have h : ((clampI x : Nat) : Int) = max 0 (min x 65536) := by
    unfold clampI
    split
    · omega
    · split <;> omega
  rw [h]
  go_enter Try.func33, Try.ntmps33
  go_wp2
  all_goals
    go_ret
    refine ⟨ret_int ?_, rfl⟩
    first | omega | (simp; omega)
theorem pStatic_cells {k : Nat} {f : Fld} (h : arrL[k]? = some f) {w : World} {g : Nat} (hg : Blk w g 51 (fcellsL arrL)) :
    w.cell? ⟨g, k * 3, none⟩ = some (.string f.n) ∧ w.cell? ⟨g, k * 3 + 1, none⟩ = some (.string f.v) ∧ w.cell? ⟨g, k * 3 + 2, none⟩ = some (.bool f.nv) := by
  obtain ⟨h1, h2, h3⟩ := fcellsL_at h
  exact ⟨(hg.cell _).trans h1, (hg.cell _).trans h2, (hg.cell _).trans h3⟩
set_option maxRecDepth 100000 in
set_option maxHeartbeats 1000000 in
theorem pStatic_no (i : Int) (hi : i64 i) (hin : i < 1 ∨ 61 < i) (w : World) : Calls Try.prog 12 #[.int .i64 i] w fun e w' => e = .returned (atV none) ∧ Below w.heap.size w w' := by
  have hcase : i < 1 ∨ (¬ i < 1 ∧ 62 ≤ i) := by omega
  clear hin
  rcases hcase with h1 | ⟨h1, h2⟩
  all_goals
    go_enter Try.func12, Try.ntmps12
    go_wp2
    refine bodyPost_ret (v := atV none) ?_ rfl ⟨rfl, ?_⟩
    · simp [results, Try.results12, go_sem, atV]
    · exact (Below.refl _ _).alloc (Nat.le_refl _) _
set_option maxRecDepth 100000 in
set_option maxHeartbeats 2000000 in
theorem pStatic_yes (k : Nat) (hk : 1 ≤ k) (hk2 : k ≤ 61) (f : Fld) (hf : arrL[k]? = some f) (w : World) : Calls Try.prog 12 #[.int .i64 (k : Int)] w fun e w' => e = .returned (atV (some f)) ∧ Below w.heap.size w w' := by
  have hz := zero_arr.1
  have Hf := Lib.hid hf
  have h1 : ¬ (k : Int) < 1 := by omega
  have h2 : ¬ 62 ≤ (k : Int) := by omega
  have h3 : k < 62 := by omega
  have V0 : Hid (Blk (w.alloc (.cells #[.string ⟨#[]⟩, .string ⟨#[]⟩, .bool false] 23)) w.heap.size 23 [.string ⟨#[]⟩, .string ⟨#[]⟩, .bool false]) := Blk.new w 23 [.string ⟨#[]⟩, .string ⟨#[]⟩, .bool false]
  clear hf
  go_enter Try.func12, Try.ntmps12
  go_wp2_with (first
    | (go_at_call 32; (with_reducible refine (statF_any _).mono ?_); rintro e w1 ⟨rfl, b1⟩
       have B1 := Lib.hid (((Below.refl w.heap.size w).alloc (Nat.le_refl _) _).trans (b1.mono (by simp)))
       have V1 := Lib.hid ((V0.out.below b1 (by simp)).alloc (.cells (fcellsL zeroL).toArray 51))
       have X1 := Lib.hid (Blk.new w1 51 (fcellsL zeroL))
       have hlt : w.heap.size < w1.heap.size := by have := b1.size; simp at this; omega
       clear b1)
    | (refine wpList_store_arr (o := ⟨_, .store 51 _ _, _, _, _, _⟩) rfl _ _ rfl w1.heap.size rfl zeroL arrL zeroL_length arrL_length rfl X1.out ?_
       intro w5 hb5 hf5
       have V5 := Lib.hid (V1.out.fr hf5 (by omega))
       have B5 := Lib.hid ((B1.out.alloc B1.out.size (.cells (fcellsL zeroL).toArray 51)).trans (hf5.below (by have := B1.out.size; simp; omega) (fun i _ e => by omega)))
       obtain ⟨c0, c1, c2⟩ := pStatic_cells Hf.out hb5
       have v0 := V5.out.cell 0
       have v1 := V5.out.cell 1
       have v2 := V5.out.cell 2
       have z0 := V5.out.frozen 0
       have z1 := V5.out.frozen 1
       have z2 := V5.out.frozen 2
       simp only [List.getElem?_cons_zero, List.getElem?_cons_succ] at v0 v1 v2
       clear hf5 hb5))
  have H7 : Blk (((w5.setCell ⟨w.heap.size, 0, none⟩ (.string f.n)).setCell ⟨w.heap.size, 1, none⟩ (.string f.v)).setCell ⟨w.heap.size, 2, none⟩ (.bool f.nv)) w.heap.size 23 [.string f.n, .string f.v, .bool f.nv] := ((V5.out.set_ 0 (.string f.n)).set_ 1 (.string f.v)).set_ 2 (.bool f.nv)
  have HB7 : Below w.heap.size w (((w5.setCell ⟨w.heap.size, 0, none⟩ (.string f.n)).setCell ⟨w.heap.size, 1, none⟩ (.string f.v)).setCell ⟨w.heap.size, 2, none⟩ (.bool f.nv)) := ((B5.out.setCell (p := ⟨w.heap.size, 0, none⟩) (Nat.le_refl _) _).setCell (p := ⟨w.heap.size, 1, none⟩) (Nat.le_refl _) _).setCell (p := ⟨w.heap.size, 2, none⟩) (Nat.le_refl _) _
  have r0 := H7.cell 0
  have r1 := H7.cell 1
  have r2 := H7.cell 2
  simp only [List.getElem?_cons_zero, List.getElem?_cons_succ] at r0 r1 r2
  generalize (((w5.setCell ⟨w.heap.size, 0, none⟩ (.string f.n)).setCell ⟨w.heap.size, 1, none⟩ (.string f.v)).setCell ⟨w.heap.size, 2, none⟩ (.bool f.nv)) = w7 at H7 HB7 r0 r1 r2 ⊢
  refine bodyPost_ret (v := atV (some f)) (by simp [results, Try.results12, go_sem, r0, r1, r2, atV]) rfl ⟨rfl, HB7⟩
theorem pStatic_c (i : Int) (hi : i64 i) (w : World) : Calls Try.prog 12 #[.int .i64 i] w fun e w' => e = .returned (atV (atL statL i)) ∧ Below w.heap.size w w' := by
  by_cases hin : i < 1 ∨ 61 < i
  · have : atL statL i = none := by unfold atL; rw [if_pos (by rw [statL_length]; omega)]
    rw [this]
    exact pStatic_no i hi hin w
  · obtain ⟨k, rfl⟩ : ∃ k : Nat, i = (k : Int) := ⟨i.toNat, by omega⟩
    have hk : k - 1 < statL.length := by rw [statL_length]; omega
    have : atL statL (k : Int) = some statL[k - 1] := by
      unfold atL
      rw [if_neg (by rw [statL_length]; omega), show ((k : Int) - 1).toNat = k - 1 by omega, List.getElem?_eq_getElem hk]
    rw [this]
    refine pStatic_yes k (by omega) (by omega) _ ?_ w
    obtain ⟨j, rfl⟩ : ∃ j, k = j + 1 := ⟨k - 1, by omega⟩
    exact List.getElem?_eq_getElem (l := statL) hk
end Go.Proofs.Ytefjjmhbbcganaa
