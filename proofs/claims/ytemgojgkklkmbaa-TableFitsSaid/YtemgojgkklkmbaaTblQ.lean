/- The document's table: Clone, At. -/
import Derived.Test.YtemgojgkklkmbaaTblS
namespace Go.Proofs.Ytemgojgkklkmbaa
open Go.RowKit Go.Own Go.Tbl
set_option linter.unusedVariables false
attribute [local go_sem ↓] Go.wp_at_zero Go.wp_at_succ

theorem own_empty_f (w : World) : (w.alloc (.cells #[] 23)).ownsRow w.heap.size 23 3 (.slice (some ⟨w.heap.size, 0, none⟩) 0 0) 0 (fcellsL []) := by
  have := own_of_blk (n := 0) (size := 3) (cap := 0) (Blk.new w 23 []) rfl (by omega) (by simp [maxLen])
  exact own_up this (by intro g hg; simp [Value.ownBlock] at hg; omega)
set_option maxRecDepth 100000 in
set_option maxHeartbeats 2000000 in
theorem rClone_any {w : World} {p : Nat} {A : Option Addr} {n c h : Nat} {l : List Fld} (t : RT w p A n c h l) (hsz : szs l ≤ 65536) :
    Calls Try.prog 25 #[.pointer (some ⟨p, 0, none⟩)] w fun e w' => ∃ p' A' c', e = .returned (.pointer (some ⟨p', 0, none⟩)) ∧ RT w' p' A' n c' h l ∧ (∀ a, A' = some a → a.block ≠ p' ∧ w.heap.size ≤ a.block) ∧ w.heap.size ≤ p' ∧ Below w.heap.size w w' := by
  have hn : n ≤ 2048 := by have h1 := len_szs l; have := t.len; omega
  have Ht := Lib.hid t
  have hp := Blk.lt t.at_
  have c0 := (t.alloc (.cells #[] 23)).at_.cell 0
  simp only [List.getElem?_cons_zero] at c0
  clear t hsz
  go_enter Try.func25, Try.ntmps25
  go_wp2_with (first
    | (at_builtin
       refine wpList_append_rd rfl (.tmp 5) (.tmp 9) 25 rfl EF (.slice (some ⟨w.heap.size, 0, none⟩) 0 0) 0 (fcellsL []) rfl (own_empty_f w) A n c (fcellsL l) rfl (Ht.out.alloc _).rd (fcells_one _) (by omega) (by unfold maxLen; omega) (by simp) ?_
       intro A6 c6 w6 ho6 hf6 ho2
       rw [← fcellsL_append, List.nil_append] at ho6
       simp only [Nat.zero_add] at ho6
       have Ho6 := Lib.hid ho6
       have H6 := Lib.hid ((Ht.out.alloc (.cells #[] 23)).at_.fr hf6 (fun e => by simp [Value.ownBlock] at e; omega))
       have HB6 := Lib.hid (((Below.refl _ _).alloc (Nat.le_refl _) (.cells #[] 23)).trans (hf6.below (B := w.heap.size) (by simp) (fun i _ e => by simp [Value.ownBlock] at e; omega)))
       have q0 := H6.out.cell 0
       have q1 := H6.out.cell 1
       simp only [List.getElem?_cons_zero, List.getElem?_cons_succ] at q0 q1
       clear ho6 hf6 ho2))
  go_ret
  obtain ⟨g1, g2⟩ := own_len Ho6.out
  refine ⟨w6.heap.size, A6, c6, rfl, ⟨Blk.new w6 57 [.slice A6 n c6, .int .i64 (h : Int)], ?_, g1, g2, Ht.out.ok⟩, ?_, HB6.out.size, HB6.out.alloc HB6.out.size _⟩
  · exact (Rd.of_own Ho6.out).fr (S := fun _ => False) ((Fr.refl _ _).alloc _) (fun _ _ h => h)
  · intro a ha
    have := Ho6.out.lt a.block (by rw [ha]; rfl)
    exact ⟨by omega, this.1⟩

/-- the field of an index -/
def atL (all : List Fld) (i : Int) : Option Fld := if i < 1 ∨ (all.length : Int) < i then none else all[(i - 1).toNat]?
/-- what At answers -/
def atV : Option Fld → Value
  | some f => .tuple #[.agg #[.string f.n, .string f.v, .bool f.nv], .bool true]
  | none => .tuple #[.agg #[.string ⟨#[]⟩, .string ⟨#[]⟩, .bool false], .bool false]
theorem own_stat (w : World) : (w.alloc (.cells (fcellsL statL).toArray 23)).ownsRow w.heap.size 23 3 (.slice (some ⟨w.heap.size, 0, none⟩) 61 61) 61 (fcellsL statL) := by
  have h := own_of_blk (n := 61) (size := 3) (cap := 61) (Blk.new w 23 (fcellsL statL)) (by rw [fcellsL_length, statL_length]) (by omega) (by simp [maxLen])
  rw [List.take_of_length_le (by rw [fcellsL_length, statL_length]; omega)] at h
  exact own_up h (by intro g hg; simp [Value.ownBlock] at hg; omega)
theorem rStatics_w (w : World) : Calls Try.prog 10 #[] w fun e w' => ∃ g, e = .returned (.slice (some ⟨g, 0, none⟩) 61 61) ∧ w'.ownsRow w.heap.size 23 3 (.slice (some ⟨g, 0, none⟩) 61 61) 61 (fcellsL statL) ∧ g = w.heap.size ∧ Below w.heap.size w w' := by
  refine (rStatics_any w).mono ?_
  rintro e w' ⟨rfl, rfl⟩
  exact ⟨w.heap.size, rfl, own_stat w, rfl, (Below.refl _ _).alloc (Nat.le_refl _) _⟩
set_option maxRecDepth 100000 in
set_option maxHeartbeats 4000000 in
theorem rAt_any {w : World} {p : Nat} {A : Option Addr} {n c h : Nat} {l : List Fld} (t : RT w p A n c h l) (hsz : szs l ≤ 65536) (i : Int) (hi : -9223372036854775808 ≤ i ∧ i ≤ 9223372036854775807) (R : Option Fld) (hR : atL (statL ++ l) i = R) :
    Calls Try.prog 22 #[.pointer (some ⟨p, 0, none⟩), .int .i64 i] w fun e w' => e = .returned (atV R) ∧ Below w.heap.size w w' := by
  have hn : n ≤ 2048 := by have h1 := len_szs l; have := t.len; omega
  have hlen : (statL ++ l).length = 61 + n := by rw [List.length_append, statL_length, t.len]
  have Ht := Lib.hid t
  have hp := Blk.lt t.at_
  have HR := Lib.hid hR
  have Hlen := Lib.hid hlen
  have hN : ∃ N, 61 + n = N := ⟨_, rfl⟩
  obtain ⟨N, hN⟩ := hN
  have eN : (61 : Int) + (n : Int) = (N : Int) := by omega
  have HN := Lib.hid hN
  have Ht1 : Hid (RT (w.alloc (.cells #[.string ⟨#[]⟩, .string ⟨#[]⟩, .bool false] 23)) p A n c h l) := t.alloc _
  have Hv1 : Hid (Blk (w.alloc (.cells #[.string ⟨#[]⟩, .string ⟨#[]⟩, .bool false] 23)) w.heap.size 23 [.string ⟨#[]⟩, .string ⟨#[]⟩, .bool false]) := Blk.new w 23 [.string ⟨#[]⟩, .string ⟨#[]⟩, .bool false]
  clear t hsz hR hlen
  by_cases hout : i < 1 ∨ (N : Int) < i
  · have hr : R = none := by rw [← HR.out, atL, if_pos (by rw [Hlen.out, HN.out]; exact hout)]
    subst hr
    have hcase : i < 1 ∨ (¬ i < 1 ∧ (N : Int) < i) := by omega
    clear hout
    rcases hcase with h1 | ⟨h1, h2⟩
    all_goals
      go_enter Try.func22, Try.ntmps22
      go_wp2_with (first
        | (go_at_call 10; (with_reducible refine (rStatics_w _).mono ?_); rintro e w2 ⟨g, rfl, ho2, hg2, hb2⟩; have Ht2 := Lib.hid (Ht1.out.below hb2); have Hv2 := Lib.hid (Hv1.out.below hb2 (Blk.lt Hv1.out)); have Ho2 := Lib.hid ho2; have q0 := Ht2.out.at_.cell 0; simp only [List.getElem?_cons_zero] at q0; have HB2 := Lib.hid (((Below.refl _ _).alloc (Nat.le_refl _) _).trans (hb2.mono (by simp))); have hs2 := hb2.size; have Hg2 := Lib.hid hg2; clear ho2 hg2 hb2)
        | (at_builtin
           refine wpList_append_rd rfl (.tmp 8) (.tmp 12) 25 rfl EF (.slice (some ⟨g, 0, none⟩) 61 61) 61 (fcellsL statL) rfl Ho2.out A n c (fcellsL l) rfl Ht2.out.rd (fcells_one _) (by omega) (by unfold maxLen; omega) hs2 ?_
           intro A6 c6 w6 ho6 hf6 hat
           rw [← fcellsL_append, HN.out] at ho6
           have Ho6 := Lib.hid ho6
           have Hv6 := Lib.hid (Hv2.out.fr hf6 (fun e => by have := Hg2.out; simp [Value.ownBlock] at e this; omega))
           have HB6 := Lib.hid (HB2.out.trans (hf6.below (B := w.heap.size) HB2.out.size (fun i _ e => by have := Hg2.out; simp [Value.ownBlock] at e this; omega)))
           have y0 := Hv6.out.cell 0
           have y1 := Hv6.out.cell 1
           have y2 := Hv6.out.cell 2
           simp only [List.getElem?_cons_zero, List.getElem?_cons_succ] at y0 y1 y2
           have z0 := Hv6.out.frozen 0
           have z1 := Hv6.out.frozen 1
           have z2 := Hv6.out.frozen 2
           clear ho6 hf6 hat))
    all_goals
      have H7 : Blk (((w6.setCell ⟨w.heap.size, 0, none⟩ (.string ⟨#[]⟩)).setCell ⟨w.heap.size, 1, none⟩ (.string ⟨#[]⟩)).setCell ⟨w.heap.size, 2, none⟩ (.bool false)) w.heap.size 23 [.string ⟨#[]⟩, .string ⟨#[]⟩, .bool false] := ((Hv6.out.set_ 0 (.string ⟨#[]⟩)).set_ 1 (.string ⟨#[]⟩)).set_ 2 (.bool false)
      have HB7 : Below w.heap.size w (((w6.setCell ⟨w.heap.size, 0, none⟩ (.string ⟨#[]⟩)).setCell ⟨w.heap.size, 1, none⟩ (.string ⟨#[]⟩)).setCell ⟨w.heap.size, 2, none⟩ (.bool false)) := ((HB6.out.setCell (p := ⟨w.heap.size, 0, none⟩) (Nat.le_refl _) _).setCell (p := ⟨w.heap.size, 1, none⟩) (Nat.le_refl _) _).setCell (p := ⟨w.heap.size, 2, none⟩) (Nat.le_refl _) _
      have r0 := H7.cell 0
      have r1 := H7.cell 1
      have r2 := H7.cell 2
      simp only [List.getElem?_cons_zero, List.getElem?_cons_succ] at r0 r1 r2
      generalize (((w6.setCell ⟨w.heap.size, 0, none⟩ (.string ⟨#[]⟩)).setCell ⟨w.heap.size, 1, none⟩ (.string ⟨#[]⟩)).setCell ⟨w.heap.size, 2, none⟩ (.bool false)) = w7 at H7 HB7 r0 r1 r2 ⊢
      refine bodyPost_ret (v := atV none) (by simp [results, Try.results22, go_sem, r0, r1, r2, atV]) rfl ⟨rfl, HB7⟩
  · have h1 : ¬ i < 1 := fun e => hout (.inl e)
    have h2 : ¬ (N : Int) < i := fun e => hout (.inr e)
    obtain ⟨k, hk⟩ : ∃ k : Nat, i - 1 = (k : Int) := ⟨(i - 1).toNat, by omega⟩
    have hkN : k < N := by omega
    obtain ⟨f, hf⟩ : ∃ f, (statL ++ l)[k]? = some f := ⟨_, List.getElem?_eq_getElem (by rw [Hlen.out, HN.out]; exact hkN)⟩
    have hr : R = some f := by rw [← HR.out, atL, if_neg (by rw [Hlen.out, HN.out]; exact hout), show (i - 1).toNat = k by omega, hf]
    subst hr
    have Hf := Lib.hid hf
    have k1 : (k : Int) < (N : Int) := by omega
    clear hout hf
    go_enter Try.func22, Try.ntmps22
    go_wp2_with (first
      | (go_at_call 10; (with_reducible refine (rStatics_w _).mono ?_); rintro e w2 ⟨g, rfl, ho2, hg2, hb2⟩; have Ht2 := Lib.hid (Ht1.out.below hb2); have Hv2 := Lib.hid (Hv1.out.below hb2 (Blk.lt Hv1.out)); have Ho2 := Lib.hid ho2; have q0 := Ht2.out.at_.cell 0; simp only [List.getElem?_cons_zero] at q0; have HB2 := Lib.hid (((Below.refl _ _).alloc (Nat.le_refl _) _).trans (hb2.mono (by simp))); have hs2 := hb2.size; have Hg2 := Lib.hid hg2; clear ho2 hg2 hb2)
      | (at_builtin
         refine wpList_append_rd rfl (.tmp 8) (.tmp 12) 25 rfl EF (.slice (some ⟨g, 0, none⟩) 61 61) 61 (fcellsL statL) rfl Ho2.out A n c (fcellsL l) rfl Ht2.out.rd (fcells_one _) (by omega) (by unfold maxLen; omega) hs2 ?_
         intro A6 c6 w6 ho6 hf6 hat
         rw [← fcellsL_append, HN.out] at ho6
         have Ho6 := Lib.hid ho6
         have Hv6 := Lib.hid (Hv2.out.fr hf6 (fun e => by have := Hg2.out; simp [Value.ownBlock] at e this; omega))
         have HB6 := Lib.hid (HB2.out.trans (hf6.below (B := w.heap.size) HB2.out.size (fun i _ e => by have := Hg2.out; simp [Value.ownBlock] at e this; omega)))
         obtain ⟨bb, oo, ha6, d0, d1, d2⟩ := rd_fld (Rd.of_own ho6) Hf.out
         subst ha6
         have y0 := Hv6.out.cell 0
         have y1 := Hv6.out.cell 1
         have y2 := Hv6.out.cell 2
         simp only [List.getElem?_cons_zero, List.getElem?_cons_succ] at y0 y1 y2
         have z0 := Hv6.out.frozen 0
         have z1 := Hv6.out.frozen 1
         have z2 := Hv6.out.frozen 2
         clear ho6 hf6 hat))
    all_goals
      have H7 : Blk (((w6.setCell ⟨w.heap.size, 0, none⟩ (.string f.n)).setCell ⟨w.heap.size, 1, none⟩ (.string f.v)).setCell ⟨w.heap.size, 2, none⟩ (.bool f.nv)) w.heap.size 23 [.string f.n, .string f.v, .bool f.nv] := ((Hv6.out.set_ 0 (.string f.n)).set_ 1 (.string f.v)).set_ 2 (.bool f.nv)
      have HB7 : Below w.heap.size w (((w6.setCell ⟨w.heap.size, 0, none⟩ (.string f.n)).setCell ⟨w.heap.size, 1, none⟩ (.string f.v)).setCell ⟨w.heap.size, 2, none⟩ (.bool f.nv)) := ((HB6.out.setCell (p := ⟨w.heap.size, 0, none⟩) (Nat.le_refl _) _).setCell (p := ⟨w.heap.size, 1, none⟩) (Nat.le_refl _) _).setCell (p := ⟨w.heap.size, 2, none⟩) (Nat.le_refl _) _
      have r0 := H7.cell 0
      have r1 := H7.cell 1
      have r2 := H7.cell 2
      simp only [List.getElem?_cons_zero, List.getElem?_cons_succ] at r0 r1 r2
      generalize (((w6.setCell ⟨w.heap.size, 0, none⟩ (.string f.n)).setCell ⟨w.heap.size, 1, none⟩ (.string f.v)).setCell ⟨w.heap.size, 2, none⟩ (.bool f.nv)) = w7 at H7 HB7 r0 r1 r2 ⊢
      refine bodyPost_ret (v := atV (some f)) (by simp [results, Try.results22, go_sem, r0, r1, r2, atV]) rfl ⟨rfl, HB7⟩
end Go.Proofs.Ytemgojgkklkmbaa
