/- The program's table: Clone. -/
import Derived.Test.YtefjjmhbbcganaaPTd
import Derived.Lib.LazyBuf
namespace Go.Proofs.Ytefjjmhbbcganaa
open Go.RowKit Go.Own Go.Tbl
set_option linter.unusedVariables false
attribute [local go_sem ↓] Go.wp_at_zero Go.wp_at_succ

def ClS (w : World) (n : Nat) (l : List Fld) (e : Ending) (w' : World) : Prop := ∃ A' c', e = .returned (.slice A' n c') ∧ w'.ownsRow w.heap.size 23 3 (.slice A' n c') n (fcellsL l) ∧ Below w.heap.size w w'
set_option maxRecDepth 100000 in
theorem sClone_c {w : World} {A : Option Addr} {n c : Nat} {l : List Fld} (ho : w.ownsRow 0 23 3 (.slice A n c) n (fcellsL l)) (hn : n ≤ 2048) :
    Calls Try.prog 38 #[.slice A n c] w (ClS w n l) := by
  have hrd := Rd.of_own ho
  cases A with
  | none =>
    have hn0 : n = 0 ∧ c = 0 := by
      rcases ho.2 with ⟨e, h0⟩ | ⟨g, cap, cur, e, _⟩
      · simp only [Value.slice.injEq] at e; exact ⟨h0, e.2.2⟩
      · simp at e
    obtain ⟨rfl, rfl⟩ := hn0
    have hl : fcellsL l = [] := List.eq_nil_of_length_eq_zero (by simpa using ho.1)
    have Hl := Lib.hid hl
    have q : ∀ (w : World), (binOp .eql 25 (.slice none 0 0) (.slice none 0 0)).run Try.prog w = .ok (.bool true) w := fun w => Lib.run_eql_slice_nil w _ _ none 0 0 0 0 Try.underlying25
    clear ho hrd hl
    go_enter Try.func38, Try.ntmps38
    go_wp2
    go_ret
    exact ⟨none, 0, rfl, by rw [Hl.out]; exact World.ownsRow_nil _ _ _ _, Below.refl _ _⟩
  | some a =>
    have Hrd := Lib.hid (hrd.fr (S := fun _ => False) ((Fr.refl _ w).alloc (.cells #[] 23)) (fun _ _ h => h))
    have q : ∀ (w : World), (binOp .eql 25 (.slice (some a) n c) (.slice none 0 0)).run Try.prog w = .ok (.bool false) w := fun w => Lib.run_eql_slice_nil w _ _ (some a) n c 0 0 Try.underlying25
    clear ho hrd
    go_enter Try.func38, Try.ntmps38
    go_wp2_with (first
      | (at_builtin
         refine wpList_append_rd rfl (.tmp 5) (.tmp 6) 25 rfl EF (.slice (some ⟨w.heap.size, 0, none⟩) 0 0) 0 (fcellsL []) rfl (own_empty_f w) (some a) n c (fcellsL l) rfl Hrd.out (fcells_one _) (by omega) (by unfold maxLen; omega) (by simp) ?_
         intro A6 c6 w6 ho6 hf6 ho2
         rw [← fcellsL_append, List.nil_append] at ho6
         simp only [Nat.zero_add] at ho6 ⊢
         have Ho6 := Lib.hid ho6
         have HB6 := Lib.hid (((Below.refl _ _).alloc (Nat.le_refl _) (.cells #[] 23)).trans (hf6.below (B := w.heap.size) (by simp) (fun i _ e => by simp [Value.ownBlock] at e; omega)))
         clear ho6 hf6 ho2))
    go_ret
    exact ⟨A6, c6, rfl, Ho6.out, HB6.out⟩
def CloneP (w : World) (h : Nat) (l : List Fld) (e : Ending) (w' : World) : Prop := ∃ p' A' n' c', e = .returned (.pointer (some ⟨p', 0, none⟩)) ∧ PTx w' p' A' n' c' h l ∧ w.heap.size ≤ p' ∧ (∀ a, A' = some a → w.heap.size ≤ a.block) ∧ Below w.heap.size w w'
set_option maxRecDepth 100000 in
set_option maxHeartbeats 2000000 in
theorem xClone_c {w : World} {p : Nat} {A : Option Addr} {n c h : Nat} {l : List Fld} (t : PTx w p A n c h l) : Calls Try.prog 27 #[.pointer (some ⟨p, 0, none⟩)] w (CloneP w h l) := by
  obtain ⟨s, hs⟩ : ∃ s, szs l = s := ⟨_, rfl⟩
  have Hs := Lib.hid hs
  have Ht := Lib.hid t
  have HTd : Hid (PTx w.drew p A n c h l) := t.drewN 1
  have hn := t.n_small
  have hpl := Blk.lt t.at_
  obtain ⟨c0, c1, c2⟩ := t.cells
  rw [hs] at c1
  have c0' : w.drew.cell? ⟨p, 0, none⟩ = some (.slice A n c) := c0
  have c1' : w.drew.cell? ⟨p, 1, none⟩ = some (.int .i64 (s : Int)) := c1
  have c2' : w.drew.cell? ⟨p, 2, none⟩ = some (.int .i64 (h : Int)) := c2
  clear t hs
  go_enter Try.func27, Try.ntmps27
  go_wp2
  go_region_held (fun w' => w'.cell? ⟨p, 0, none⟩ = some (.slice A n c) ∧ w'.cell? ⟨p, 1, none⟩ = some (.int .i64 (s : Int)) ∧ w'.cell? ⟨p, 2, none⟩ = some (.int .i64 (h : Int)))
      (first | exact ⟨c0', c1', c2'⟩ | exact ⟨d0, d1, d2⟩ | exact ⟨e0, e1, e2⟩)
      (first
      | (go_at_call 38; (with_reducible refine (sClone_c HTd.out.own hn).mono ?_); rintro e w2 ⟨A2, c2n, rfl, ho2, hb2⟩
         have HT2 := Lib.hid (HTd.out.below hb2)
         have Ho2 := Lib.hid ho2
         have Hb2 : Hid (Below w.heap.size w w2) := ⟨hb2.os, hb2.tape, hb2.output, hb2.size, hb2.block⟩
         obtain ⟨d0, d1, d2⟩ := HT2.out.cells
         rw [Hs.out] at d1
         obtain ⟨e0, e1, e2⟩ := (HT2.out.alloc (.cells #[.slice A2 n c2n, .int .i64 (s : Int), .int .i64 (h : Int)] 55)).cells
         rw [Hs.out] at e1
         clear hb2 ho2))
  all_goals
    clear c0 c1 c2 c0' c1' c2'
    go_wp2
    go_ret
    have hB := Hb2.out.alloc Hb2.out.size (.cells #[.slice A2 n c2n, .int .i64 (s : Int), .int .i64 (h : Int)] 55)
    have ho := own_fr Ho2.out (S := fun _ => False) ((Fr.refl _ w2).alloc (.cells #[.slice A2 n c2n, .int .i64 (s : Int), .int .i64 (h : Int)] 55)) (fun _ _ h => h)
    have hbk : Blk (w2.alloc (.cells #[.slice A2 n c2n, .int .i64 (s : Int), .int .i64 (h : Int)] 55)) w2.heap.size 55 [.slice A2 n c2n, .int .i64 ((szs l : Nat) : Int), .int .i64 (h : Int)] := by rw [Hs.out]; exact Blk.new _ _ _
    refine ⟨w2.heap.size, A2, n, c2n, rfl, ⟨hbk, ⟨ho.1, ?_⟩, Ht.out.ok, Ht.out.small, Ht.out.top⟩, Hb2.out.size, fun a ha => (Ho2.out.lt a.block (by rw [ha]; rfl)).1, hB⟩
    rcases ho.2 with hz | ⟨g, cap, cur, e1, _, rest⟩
    · exact .inl hz
    · exact .inr ⟨g, cap, cur, e1, Nat.zero_le _, rest⟩
end Go.Proofs.Ytefjjmhbbcganaa
