/- slices.Insert of one field at the front: its three roads. -/
import Derived.Test.YtefjjmhbbcganaaPTm
namespace Go.Proofs.Ytefjjmhbbcganaa
open Go.RowKit Go.Own Go.Tbl
set_option linter.unusedVariables false
attribute [local go_sem ↓] Go.wp_at_zero Go.wp_at_succ

def InsP (w : World) (A : Option Addr) (L : List Fld) (e : Ending) (w' : World) : Prop := ∃ A' c', e = .returned (.slice A' L.length c') ∧ w'.ownsRow 0 23 3 (.slice A' L.length c') L.length (fcellsL L) ∧
  Fr (fun i => ∃ a, A = some a ∧ a.block = i) w w' ∧ (∀ a', A' = some a' → (∃ a, A = some a ∧ a.block = a'.block) ∨ w.heap.size ≤ a'.block)
theorem fcellsL_cons (f : Fld) (l : List Fld) : fcellsL (f :: l) = fcells f ++ fcellsL l := rfl
theorem blk_rd1 {w : World} {v : Nat} {f : Fld} (hv : Blk w v 23 (fcells f)) : Rd w 3 (some ⟨v, 0, none⟩) 1 (fcellsL [f]) := by
  have := Rd.of_blk (n := 1) (size := 3) hv (by simp [fcells])
  rw [List.take_of_length_le (by simp [fcells])] at this
  rwa [show fcellsL [f] = fcells f from List.append_nil _]
set_option maxRecDepth 100000 in
set_option maxHeartbeats 2000000 in
theorem sIns_empty {w : World} {A : Option Addr} {c : Nat} (ho : w.ownsRow 0 23 3 (.slice A 0 c) 0 (fcellsL [])) {v : Nat} {f : Fld} (hv : Blk w v 23 (fcells f)) :
    Calls Try.prog 35 #[.slice A 0 c, .int .i64 0, .slice (some ⟨v, 0, none⟩) 1 1] w (InsP w A [f]) := by
  have Ho := Lib.hid ho
  have Hv := Lib.hid hv
  have hfin : ∀ (A' : Option Addr) (c' : Nat) (w' : World), w'.ownsRow 0 23 3 (.slice A' (0 + 1) c') (0 + 1) (fcellsL [] ++ fcellsL [f]) → Fr (fun i => some i = (Value.slice A 0 c).ownBlock) w w' →
      ((Value.slice A' (0 + 1) c').ownBlock = (Value.slice A 0 c).ownBlock ∨ (Value.slice A' (0 + 1) c').ownBlock = some w.heap.size) → InsP w A [f] (.returned (.slice A' 1 c')) w' := by
    intro A' c' w' h1 h2 h3
    refine ⟨A', c', rfl, h1, h2.mono (fun i hi e => ?_), fun a' ha' => ?_⟩
    · cases A with
      | none => simp [Value.ownBlock] at e
      | some a => simp [Value.ownBlock] at e; exact ⟨a, rfl, e.symm⟩
    · subst ha'
      rcases h3 with h3 | h3
      · cases A with
        | none => simp [Value.ownBlock] at h3
        | some a => simp [Value.ownBlock] at h3; exact .inl ⟨a, rfl, h3.symm⟩
      · simp [Value.ownBlock] at h3; exact .inr (by omega)
  have Hfin := Lib.hid hfin
  clear ho hv hfin
  by_cases hc : c = 0
  · subst hc
    go_enter Try.func35, Try.ntmps35
    go_wp2_with (first
      | (at_builtin
         refine wpList_append_rd rfl (.tmp 23) (.tmp 24) 25 rfl EF (.slice A 0 0) 0 (fcellsL []) rfl Ho.out (some ⟨v, 0, none⟩) 1 1 (fcellsL [f]) rfl (blk_rd1 Hv.out) (fcells_one _) (by omega) (by unfold maxLen; omega) (by simp) ?_
         intro A6 c6 w6 ho6 hf6 hat
         have Ho6 := Lib.hid ho6
         have Hf6 := Lib.hid hf6
         have Hat := Lib.hid hat
         clear ho6 hf6 hat))
    go_ret
    exact Hfin.out _ _ _ Ho6.out Hf6.out Hat.out
  · go_enter Try.func35, Try.ntmps35
    go_wp2_with (first
      | (at_builtin
         refine wpList_append_rd rfl (.tmp 23) (.tmp 24) 25 rfl EF (.slice A 0 c) 0 (fcellsL []) rfl Ho.out (some ⟨v, 0, none⟩) 1 1 (fcellsL [f]) rfl (blk_rd1 Hv.out) (fcells_one _) (by omega) (by unfold maxLen; omega) (by simp) ?_
         intro A6 c6 w6 ho6 hf6 hat
         have Ho6 := Lib.hid ho6
         have Hf6 := Lib.hid hf6
         have Hat := Lib.hid hat
         clear ho6 hf6 hat))
    go_ret
    exact Hfin.out _ _ _ Ho6.out Hf6.out Hat.out
theorem shape_of_blk {w : World} {g : Nat} {t : TypeId} {cs : List Value} (h : Blk w g t cs) : w.shape? g = some (t, cs.length) := by
  unfold Blk at h
  simp [World.shape?, h]
theorem hsz3 : (Try.prog.info? 23).map (·.size) = some 3 := by kernel_rfl
theorem z3 (w : World) : (sizeOf 23).run Try.prog w = .ok 3 w := by kernel_rfl
theorem ov_no {w : World} {v b o la lb cb : Nat} {tb : TypeId} {f : Fld} {cur : List Value} (hv : Blk w v 23 (fcells f)) (hb : Blk w b tb cur) (hne : v ≠ b) (hc : cur.length ≠ 0) :
    (callFunc 40 #[.slice (some ⟨v, 0, none⟩) 1 la, .slice (some ⟨b, o, none⟩) lb cb]).run Try.prog w = .ok (.value (.bool false)) w := by
  rw [run_callFunc_extern Try.func40 (by kernel_rfl) (by kernel_rfl) (by kernel_rfl) (e := Extern.SlicesOverlaps.overlaps #[25, 25] #[4]) (by kernel_rfl),
    Lib.run_overlaps_apart w 25 4 23 Try.underlying25 3 z3 ⟨v, 0, none⟩ ⟨b, o, none⟩ 1 la lb cb hne _ _ _ _ (shape_of_blk hv) (shape_of_blk hb) hc (hv.frozen 0) (hv.frozen _)]
  rfl
set_option maxRecDepth 100000 in
set_option maxHeartbeats 2000000 in
theorem sIns_room {w : World} {b n c : Nat} {l : List Fld} {cur : List Value} (hb : Blk w b 23 cur) (hcl : cur.length = c * 3) (htk : cur.take (n * 3) = fcellsL l) (hl : l.length = n) (h0 : 0 < n) (hnc : n < c) (hcm : c ≤ maxLen) (hn : n ≤ 2048) {v : Nat} {f : Fld} (hv : Blk w v 23 (fcells f)) (hne : v ≠ b) :
    Calls Try.prog 35 #[.slice (some ⟨b, 0, none⟩) n c, .int .i64 0, .slice (some ⟨v, 0, none⟩) 1 1] w (InsP w (some ⟨b, 0, none⟩) (f :: l)) := by
  have hov : ∀ lb cb, (callFunc 40 #[.slice (some ⟨v, 0, none⟩) 1 1, .slice (some ⟨b, 3, none⟩) lb cb]).run Try.prog w = .ok (.value (.bool false)) w := fun lb cb => ov_no hv hb hne (by omega)
  have hc63 : c ≤ 9223372036854775807 := by unfold maxLen at hcm; omega
  have hcells : ∀ j u, (fcellsL l)[j]? = some u → w.cell? ⟨b, 0 + j, none⟩ = some u := fun j u hj => by
    rw [Nat.zero_add, hb.cell]
    rw [← htk, List.getElem?_take] at hj
    split at hj
    · exact hj
    · cases hj
  have hcp1 : ∀ ty, (Builtin.copy_ #[25, 25] ty #[.slice (some ⟨b, 3, none⟩) n (c - 1), .slice (some ⟨b, 0, none⟩) (n + 1) c]).run Try.prog w.drew = .ok (goInt (n : Nat)) (w.drew.setRow b (splice cur 3 (fcellsL l)).toArray) := fun ty =>
    run_copy_rowK (w := w.drew) Try.underlying25 hsz3 hb n (by simp) (by rw [fcellsL_length, hl]) hcells (by rw [fcellsL_length, hl]; omega) (fcells_one _)
  have hb1 : Blk (w.drew.setRow b (splice cur 3 (fcellsL l)).toArray) b 23 (splice cur 3 (fcellsL l)) := blk_setRow (w := w.drew) hb
  have hv1 : Blk (w.drew.setRow b (splice cur 3 (fcellsL l)).toArray) v 23 (fcells f) := Blk.fr (w := w.drew) hv (fr_setRow _ _ _) hne
  have hF1 : Fr (· = b) w (w.drew.setRow b (splice cur 3 (fcellsL l)).toArray) := ((Fr.refl (· = b) w).drew).trans (fr_setRow _ _ _) (fun _ _ h => h)
  have hl1 : (splice cur 3 (fcellsL l)).length = c * 3 := by rw [length_splice _ _ _ (by rw [fcellsL_length, hl]; omega), hcl]
  obtain ⟨W1, hW1⟩ : ∃ W1, (w.drew.setRow b (splice cur 3 (fcellsL l)).toArray) = W1 := ⟨_, rfl⟩
  rw [hW1] at hcp1 hb1 hv1 hF1
  have hcp2 : ∀ ty, (Builtin.copy_ #[25, 25] ty #[.slice (some ⟨b, 0, none⟩) (n + 1) c, .slice (some ⟨v, 0, none⟩) 1 1]).run Try.prog W1 = .ok (goInt (1 : Nat)) (W1.setRow b (splice (splice cur 3 (fcellsL l)) 0 (fcells f)).toArray) := fun ty =>
    run_copy_rowK Try.underlying25 hsz3 hb1 1 (by simp) rfl (fun j u hj => by rw [Nat.zero_add, hv1.cell]; exact hj) (by rw [hl1]; simp [fcells]; omega) (by intro x hx; simp [fcells] at hx; rcases hx with rfl | rfl | rfl <;> rfl)
  have hb2 := blk_setRow (cs := splice (splice cur 3 (fcellsL l)) 0 (fcells f)) hb1
  have hF2 : Fr (· = b) w (W1.setRow b (splice (splice cur 3 (fcellsL l)) 0 (fcells f)).toArray) := hF1.trans (fr_setRow _ _ _) (fun _ _ h => h)
  obtain ⟨W2, hW2⟩ : ∃ W2, (W1.setRow b (splice (splice cur 3 (fcellsL l)) 0 (fcells f)).toArray) = W2 := ⟨_, rfl⟩
  rw [hW2] at hcp2 hb2 hF2
  have hfin : InsP w (some ⟨b, 0, none⟩) (f :: l) (.returned (.slice (some ⟨b, 0, none⟩) (n + 1) c)) W2 := by
    have hlen : (f :: l).length = n + 1 := by rw [List.length_cons, hl]
    have h3 := own_of_blk (n := n + 1) (size := 3) (cap := c) hb2 (by rw [length_splice _ _ _ (by rw [hl1]; simp [fcells]; omega), hl1]) (by omega) hcm
    have h4 : (splice (splice cur 3 (fcellsL l)) 0 (fcells f)).take ((n + 1) * 3) = fcellsL (f :: l) := by
      rw [fcellsL_cons, splice, List.take_zero, List.nil_append, show (0 + (fcells f).length) = 3 from rfl, splice]
      have h3l : (cur.take 3).length = 3 := by rw [List.length_take]; omega
      rw [List.drop_append, h3l, List.drop_of_length_le (by omega), List.nil_append, show 3 - 3 = 0 from rfl, List.drop_zero, ← List.append_assoc, List.take_append_of_le_length (by rw [List.length_append, fcellsL_length, hl]; simp [fcells]; omega)]
      exact List.take_of_length_le (by rw [List.length_append, fcellsL_length, hl]; simp [fcells]; omega)
    rw [h4] at h3
    refine ⟨some ⟨b, 0, none⟩, c, by rw [hlen], by rw [hlen]; exact h3, hF2.mono (fun i _ e => ⟨_, rfl, e.symm⟩), fun a' ha' => .inl ⟨_, rfl, by cases ha'; rfl⟩⟩
  have Hfin := Lib.hid hfin
  have hk1 : ¬ (0 : Int) = (n : Int) := by omega
  have hk2 : ¬ (c : Int) < (n : Int) + 1 := by omega
  have hk3 : ¬ c = 0 := by omega
  have hk4 : ¬ c = 1 := by omega
  have hk5 : n + 1 ≤ c := by omega
  have Hcp1 := Lib.hid hcp1
  have Hcp2 := Lib.hid hcp2
  clear hfin hb hcl htk hcells hb1 hv1 hF1 hl1 hW1 hb2 hF2 hW2 hv hcp1 hcp2 hl
  go_enter Try.func35, Try.ntmps35
  go_wp2_with (simp only [hov])
  clear hov
  have hw1 : IntKind.i64.wrap 1 = 1 := by decide
  have hw2 : (1 : Int) ≤ (n : Int) + 1 := by omega
  have hw3 : (0 : Int) ≤ (n : Int) + 1 := by omega
  go_region_law (refine step_copy_run rfl _ _ 25 25 rfl _ _ (by simp [Act.eval, Act.put]) (by simp [Act.eval, Act.put]) (Hcp1.out _) ?_)
  go_wp2_with (first
    | (refine wpList_copy_run rfl _ _ 25 25 rfl _ _ rfl rfl (Hcp2.out _) ?_))
  go_ret
  exact Hfin.out
set_option maxRecDepth 100000 in
set_option maxHeartbeats 2000000 in
theorem sIns_grow {w : World} {b n : Nat} {l : List Fld} {cur : List Value} (hb : Blk w b 23 cur) (hcl : cur = fcellsL l) (hl : l.length = n) (h0 : 0 < n) (hn : n ≤ 2048) {v : Nat} {f : Fld} (hv : Blk w v 23 (fcells f)) (hne : v ≠ b) :
    Calls Try.prog 35 #[.slice (some ⟨b, 0, none⟩) n n, .int .i64 0, .slice (some ⟨v, 0, none⟩) 1 1] w (InsP w (some ⟨b, 0, none⟩) (f :: l)) := by
  obtain ⟨G, row, hap, hG, hGm, hrow⟩ := run_append_zeros (P := Try.prog) (w := w) (ty := 25) EF (show Try.prog.underlying 3 = some (.int .i64) from Try.underlying3) (b := b) (c := n) (n + 1) (by omega) (by omega) (by omega) (by unfold maxLen; omega)
  have hap2 : ∀ ty, (Builtin.append_ #[25, 3] ty #[.slice (some ⟨b, 0, none⟩) 0 n, .int .i64 ((n : Int) + 1)]).run Try.prog w = .ok (.slice (some ⟨w.heap.size, 0, none⟩) (n + 1) G) (w.drew.alloc (.cells row 23)) := fun ty => hap
  have hbl := Blk.lt hb
  have hvl := Blk.lt hv
  have hG63 : G ≤ 9223372036854775807 := by unfold maxLen at hGm; omega
  have hr0 : Blk (w.drew.alloc (.cells row 23)) w.heap.size 23 row.toList := Blk.new w.drew 23 row.toList
  have hF0 : Fr (fun _ => False) w (w.drew.alloc (.cells row 23)) := ((Fr.refl _ w).drew).alloc _
  have hrl : row.toList.length = G * 3 := by simpa using hrow
  obtain ⟨W0, hW0⟩ : ∃ W0, (w.drew.alloc (.cells row 23)) = W0 := ⟨_, rfl⟩
  rw [hW0] at hap2 hr0 hF0
  have hv0 := hv.fr hF0 (fun h => h)
  have hb0 := hb.fr hF0 (fun h => h)
  have hcpA : ∀ ty, (Builtin.copy_ #[25, 25] ty #[.slice (some ⟨w.heap.size, 0, none⟩) (n + 1) G, .slice (some ⟨v, 0, none⟩) 1 1]).run Try.prog W0 = .ok (goInt (1 : Nat)) (W0.setRow w.heap.size (splice row.toList 0 (fcells f)).toArray) := fun ty =>
    run_copy_rowK Try.underlying25 hsz3 hr0 1 (by simp) rfl (fun j u hj => by rw [Nat.zero_add, hv0.cell]; exact hj) (by rw [hrl]; simp [fcells]; omega) (by intro x hx; simp [fcells] at hx; rcases hx with rfl | rfl | rfl <;> rfl)
  have hr1 := blk_setRow (cs := splice row.toList 0 (fcells f)) hr0
  have hF1 : Fr (· = w.heap.size) w (W0.setRow w.heap.size (splice row.toList 0 (fcells f)).toArray) := hF0.trans (fr_setRow _ _ _) (fun i hi h => by omega) |>.mono (fun _ _ h => h.elim)
  have hl1 : (splice row.toList 0 (fcells f)).length = G * 3 := by rw [length_splice _ _ _ (by rw [hrl]; simp [fcells]; omega), hrl]
  obtain ⟨W1, hW1⟩ : ∃ W1, (W0.setRow w.heap.size (splice row.toList 0 (fcells f)).toArray) = W1 := ⟨_, rfl⟩
  rw [hW1] at hcpA hr1 hF1
  have hb1 := hb.fr hF1 (by omega)
  have hcpB : ∀ ty, (Builtin.copy_ #[25, 25] ty #[.slice (some ⟨w.heap.size, 3, none⟩) n (G - 1), .slice (some ⟨b, 0, none⟩) n n]).run Try.prog W1.drew = .ok (goInt (n : Nat)) (W1.drew.setRow w.heap.size (splice (splice row.toList 0 (fcells f)) 3 (fcellsL l)).toArray) := fun ty =>
    run_copy_rowK (w := W1.drew) Try.underlying25 hsz3 hr1 n (by simp) (by rw [fcellsL_length, hl]) (fun j u hj => by rw [Nat.zero_add, Blk.cell (w := W1.drew) hb1, hcl]; exact hj) (by rw [hl1, fcellsL_length, hl]; omega) (fcells_one _)
  have hr2 : Blk (W1.drew.setRow w.heap.size (splice (splice row.toList 0 (fcells f)) 3 (fcellsL l)).toArray) w.heap.size 23 (splice (splice row.toList 0 (fcells f)) 3 (fcellsL l)) := blk_setRow (w := W1.drew) hr1
  have hF2 : Fr (· = w.heap.size) w (W1.drew.setRow w.heap.size (splice (splice row.toList 0 (fcells f)) 3 (fcellsL l)).toArray) := (hF1.drew).trans (fr_setRow _ _ _) (fun _ _ h => h)
  have hfin : InsP w (some ⟨b, 0, none⟩) (f :: l) (.returned (.slice (some ⟨w.heap.size, 0, none⟩) (n + 1) G)) (W1.drew.setRow w.heap.size (splice (splice row.toList 0 (fcells f)) 3 (fcellsL l)).toArray) := by
    have hlen : (f :: l).length = n + 1 := by rw [List.length_cons, hl]
    have h3 := own_of_blk (n := n + 1) (size := 3) (cap := G) hr2 (by rw [length_splice _ _ _ (by rw [hl1, fcellsL_length, hl]; omega), hl1]) (by omega) hGm
    have h4 : (splice (splice row.toList 0 (fcells f)) 3 (fcellsL l)).take ((n + 1) * 3) = fcellsL (f :: l) := by
      rw [fcellsL_cons, splice, ← List.append_assoc]
      have h5 : (splice row.toList 0 (fcells f)).take 3 = fcells f := by
        rw [splice, List.take_zero, List.nil_append, List.take_append_of_le_length (by simp [fcells])]
        rfl
      rw [h5, List.take_append_of_le_length (by rw [List.length_append, fcellsL_length, hl]; simp [fcells]; omega)]
      exact List.take_of_length_le (by rw [List.length_append, fcellsL_length, hl]; simp [fcells]; omega)
    rw [h4] at h3
    refine ⟨some ⟨w.heap.size, 0, none⟩, G, by rw [hlen], by rw [hlen]; exact h3, hF2.mono (fun i hi e => by omega), fun a' ha' => .inr (by cases ha'; exact Nat.le_refl _)⟩
  have Hfin := Lib.hid hfin
  have hk1 : ¬ (0 : Int) = (n : Int) := by omega
  have hk2 : (n : Int) < (n : Int) + 1 := by omega
  have hk3 : ¬ n = 0 := by omega
  have hk4 : ¬ G = 0 := by omega
  have hk5 : ¬ G = 1 := by omega
  have Hap := Lib.hid hap2
  have Hcp1 := Lib.hid hcpA
  have Hcp2 := Lib.hid hcpB
  clear hfin hb hcl hap hap2 hr0 hF0 hrl hW0 hv0 hb0 hr1 hF1 hl1 hW1 hb1 hr2 hF2 hv hcpA hcpB hl hrow
  go_enter Try.func35, Try.ntmps35
  go_wp2_with (first
    | (refine wpList_append_run rfl _ _ 25 3 rfl _ _ rfl rfl (Hap.out _) ?_)
    | (refine wpList_copy_run rfl _ _ 25 25 rfl _ _ rfl rfl (Hcp1.out _) ?_))
  have hw1 : IntKind.i64.wrap 1 = 1 := by decide
  have hw2 : (1 : Int) ≤ (n : Int) + 1 := by omega
  have hw3 : (0 : Int) ≤ (n : Int) + 1 := by omega
  have hw4 : (0 : Int) ≤ (n : Int) := by omega
  go_region_law (refine step_copy_run rfl _ _ 25 25 rfl _ _ (by simp [Act.eval, Act.put]) (by simp [Act.eval, Act.put]) (Hcp2.out _) ?_)
  go_wp2
  go_ret
  exact Hfin.out
theorem sIns_c {w : World} {A : Option Addr} {n c : Nat} {l : List Fld} (ho : w.ownsRow 0 23 3 (.slice A n c) n (fcellsL l)) (hl : l.length = n) (hn : n ≤ 2048) {v : Nat} {f : Fld} (hv : Blk w v 23 (fcells f)) (hne : ∀ a, A = some a → v ≠ a.block) :
    Calls Try.prog 35 #[.slice A n c, .int .i64 0, .slice (some ⟨v, 0, none⟩) 1 1] w (InsP w A (f :: l)) := by
  by_cases h0 : n = 0
  · subst h0
    obtain rfl : l = [] := List.eq_nil_of_length_eq_zero hl
    exact sIns_empty ho hv
  · have hsh := own_shape ho
    obtain ⟨A', c', e, hnc, hcm, hrd, hoff⟩ := hsh
    simp only [Value.slice.injEq] at e
    obtain ⟨rfl, _, rfl⟩ := e
    obtain ⟨b, o, rfl, _⟩ := hrd.2 (by omega)
    obtain ⟨rfl, -⟩ := hoff _ rfl
    obtain ⟨cur, hb, _, _, hcl, htk⟩ := own_blk ho
    by_cases h1 : n = c
    · subst h1
      refine sIns_grow hb ?_ hl (by omega) hn hv (hne _ rfl)
      rw [← htk, List.take_of_length_le (by omega)]
    · exact sIns_room hb hcl htk hl (by omega) (by omega) hcm hn hv (hne _ rfl)
end Go.Proofs.Ytefjjmhbbcganaa
