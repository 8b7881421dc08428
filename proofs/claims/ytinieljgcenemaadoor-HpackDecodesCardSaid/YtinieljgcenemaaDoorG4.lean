/- The document's fit: the oldest ones go · The document's table: SetMax, New · The document's table: Add · The static table: its rows; the document's Statics · The document's table: Clone, At · The document's table: Find · The laws' own small · The program's table: the static table's array, Static, Size, rightMax · The program's table: Static, Size, rightMax · What a reading of an argument says of its cells, by the program's own types: a slice of slices, of structs .. in one word. No condition; nothing of the program · The laws' inputs: a slice of fields, of steps; a field · The program's table in memory; Len, Size, Max, At -/
import Derived.Test.YtinieljgcenemaaDoorG3
import Derived.Deep.WholeRow
import Derived.Laws.Rows
import Derived.Laws.Tables
namespace Go.Proofs.YtinieljgcenemaaDoor
open Go.RowKit Go.Own Go.Tbl
set_option linter.unusedVariables false
attribute [local go_sem ↓] Go.wp_at_zero Go.wp_at_succ

/-- what is left when so many octets more are to have room -/
def fitL (h more : Nat) (l : List Fld) : List Fld := if more ≤ h then pre (h - more) l else []
theorem fitL_of (h more k : Nat) (l : List Fld) (hk : k ≤ l.length) (h1 : k = 0 ∨ szs (l.take k) + more ≤ h) (h2 : k < l.length → h < szs (l.take (k + 1)) + more) : fitL h more l = l.take k := by
  unfold fitL
  split
  · rename_i hm
    refine pre_of_take _ _ k hk ?_ ?_
    · rcases h1 with rfl | h1
      · simp [szs]
      · omega
    · intro f hf
      have hkl := (List.getElem?_eq_some_iff.1 hf).1
      have := h2 hkl
      rw [szs_take_succ l k f hf] at this
      omega
  · rename_i hm
    rcases h1 with rfl | h1
    · simp
    · omega
theorem RT.cut {w : World} {p : Nat} {A : Option Addr} {n c h k : Nat} {l : List Fld} (t : RT w p A n c h l) (hk : k ≤ n) (hp : ∀ a, A = some a → a.block ≠ p) : RT (w.setCell ⟨p, 0, none⟩ (.slice A k c)) p A k c h (l.take k) := by
  refine ⟨t.at_.set_ 0 (.slice A k c), ?_, Nat.le_trans hk t.nc, t.cm, fun f hf => t.ok f (List.mem_of_mem_take hf)⟩
  have h1 := t.rd.take (k := k) hk
  rw [fcellsL_take] at h1
  exact h1.fr ((Fr.refl (· = p) w).setCell (p := ⟨p, 0, none⟩) (.inl rfl) _) (fun a ha h => hp a ha h)
set_option maxRecDepth 100000 in
set_option maxHeartbeats 4000000 in
theorem rfit_any {w : World} {p : Nat} {A : Option Addr} {n c h : Nat} {l : List Fld} (t : RT w p A n c h l) (hA : ∀ a, A = some a → a.block ≠ p) (hsz : szs l ≤ 4611686018427387904) (hh : h ≤ 4611686018427387904) (more : Nat) (hm : more ≤ 4611686018427387903) (z : Int) (hz : z = (more : Int)) :
    Calls Tryd.prog 65 #[.pointer (some ⟨p, 0, none⟩), .int .i64 z] w fun e w' => ∃ k, e = .returned (.tuple #[]) ∧ RT w' p A k c h (fitL h more l) ∧ Fr (· = p) w w' := by
  subst hz
  have Ht := Lib.hid t
  have HA := Lib.hid hA
  have hl := t.len
  have Hl := Lib.hid hl
  have Hsz := Lib.hid hsz
  clear t hA hl hsz
  go_enter Tryd.func65, Tryd.ntmps65
  go_wp2
  go_loopg [4] n (fun gh x w' => gh ≤ n ∧ RT w' p A gh c h (l.take gh) ∧ Fr (· = p) w w' ∧ (gh < n → h < szs (l.take (gh + 1)) + more))
  case atStart => 
    refine ⟨Nat.le_refl _, ?_, Fr.refl _ _, fun h => absurd h (Nat.lt_irrefl _)⟩
    rw [List.take_of_length_le (by rw [Hl.out]; exact Nat.le_refl _)]
    exact Ht.out
  case round =>
    obtain ⟨hgn, ht, hf, hd⟩ := hrel
    have HT := Lib.hid ht
    have HF := Lib.hid hf
    have HD := Lib.hid hd
    have c0 := ht.at_.cell 0
    have c1 := ht.at_.cell 1
    simp only [List.getElem?_cons_zero, List.getElem?_cons_succ] at c0 c1
    have c0' : wr.drew.cell? ⟨p, 0, none⟩ = some (.slice A gk c) := c0
    have c1' : wr.drew.cell? ⟨p, 1, none⟩ = some (.int .i64 (h : Int)) := c1
    clear ht hf hd
    cases gk with
    | zero =>
      have hend : l.take 0 = fitL h more l := (fitL_of h more 0 l (by omega) (.inl rfl) (fun hk => HD.out (by have := Hl.out; omega))).symm
      have Hend := Lib.hid hend
      clear hend
      go_wp2
      go_quiet (fail)
      go_wp2
      go_end0
      exact ⟨0, rfl, Hend.out ▸ HT.out.drewN _, HF.out.drewN _⟩
    | succ g =>
      obtain ⟨q, hq⟩ : ∃ q, szs (l.take (g + 1)) = q := ⟨_, rfl⟩
      have hql : q ≤ 4611686018427387904 := by
        have h1 := szs_take_mono l (g + 1) l.length (by have := Hl.out; omega)
        rw [List.take_length, hq] at h1
        have := Hsz.out
        omega
      obtain ⟨s, hs⟩ : ∃ s, q + more = s := ⟨_, rfl⟩
      have e1 : (q : Int) + (more : Int) = (s : Int) := by omega
      have e2 : IntKind.i64.wrap (s : Int) = (s : Int) := by rw [IntKind.wrap_i64]; omega
      have HTd : Hid (RT wr.drew p A (g + 1) c h (l.take (g + 1))) := HT.out.drewN 1
      have hg0 : (0 : Int) < ((g + 1 : Nat) : Int) := by omega
      have Hq := Lib.hid hq
      have Hs := Lib.hid hs
      clear hq hs
      by_cases hc : h < s
      · have kb : decide (h < s) = true := decide_eq_true hc
        have hc2 : (h : Int) < (s : Int) := by omega
        go_wp2
        first
        | go_region_held (fun w' => w'.cell? ⟨p, 0, none⟩ = some (.slice A (g + 1) c) ∧ w'.cell? ⟨p, 1, none⟩ = some (.int .i64 (h : Int)))
            (first | exact ⟨c0, c1⟩ | exact ⟨c0', c1'⟩ | exact ⟨d0, d1⟩)
            (first
            | (go_at_call 44; (with_reducible refine (rTSize_any HTd.out q Hq.out hql).mono ?_); rintro e w2 ⟨rfl, hb2⟩
               have HT2 := Lib.hid (HTd.out.below hb2)
               have d0 := HT2.out.at_.cell 0
               have d1 := HT2.out.at_.cell 1
               simp only [List.getElem?_cons_zero, List.getElem?_cons_succ] at d0 d1
               have z0 := HT2.out.at_.frozen 0
               have HF2 := Lib.hid ((HF.out.drewN 1).trans (Fr.of_below (S := fun i => wr.drew.heap.size ≤ i) hb2 (fun i _ h => h)) (fun i hi h => by have := HF.out.size; have e : wr.drew.heap.size = wr.heap.size := rfl; omega))
               clear hb2))
        | fail
        all_goals
          clear c0 c1 c0' c1'
          have hgc : g + 1 ≤ c := HT2.out.nc
          have hcm := HT2.out.cm
          have hc0 : ¬ c = 0 := by omega
          have hgi : (g : Int) ≤ (c : Int) := by omega
          have hgw : IntKind.i64.wrap (g : Int) = (g : Int) := by rw [IntKind.wrap_i64]; omega
          have hgw2 : IntKind.i64.wrap ((g : Int) + 1 - 1) = (g : Int) := by rw [IntKind.wrap_i64]; omega
          go_wp2
          go_still_tail 14, (by kernel_rfl)
          change wpList _ _ _ _ _ w2.drew
          go_wp2
          go_roundg g
          case measure => omega
          case rel =>
            have h3 := (RT.cut HT2.out (k := g) (by omega) HA.out).drewN 1
            rw [List.take_take, Nat.min_eq_left (by omega)] at h3
            refine ⟨by omega, h3, ((HF2.out.setCell (p := ⟨p, 0, none⟩) (.inl rfl) _).drew), fun _ => ?_⟩
            rw [Hq.out, Hs.out]
            exact hc
      · have kb : decide (h < s) = false := decide_eq_false hc
        have hc2 : ¬ (h : Int) < (s : Int) := by omega
        have hend : l.take (g + 1) = fitL h more l := (fitL_of h more (g + 1) l (by have := Hl.out; omega) (.inr (by rw [Hq.out, Hs.out]; omega)) (fun hk => HD.out (by have := Hl.out; omega))).symm
        have Hend := Lib.hid hend
        clear hend
        go_wp2
        first
        | go_region_held (fun w' => w'.cell? ⟨p, 0, none⟩ = some (.slice A (g + 1) c) ∧ w'.cell? ⟨p, 1, none⟩ = some (.int .i64 (h : Int)))
            (first | exact ⟨c0, c1⟩ | exact ⟨c0', c1'⟩ | exact ⟨d0, d1⟩)
            (first
            | (go_at_call 44; (with_reducible refine (rTSize_any HTd.out q Hq.out hql).mono ?_); rintro e w2 ⟨rfl, hb2⟩
               have HT2 := Lib.hid (HTd.out.below hb2)
               have d0 := HT2.out.at_.cell 0
               have d1 := HT2.out.at_.cell 1
               simp only [List.getElem?_cons_zero, List.getElem?_cons_succ] at d0 d1
               have HF2 := Lib.hid ((HF.out.drewN 1).trans (Fr.of_below (S := fun i => wr.drew.heap.size ≤ i) hb2 (fun i _ h => h)) (fun i hi h => by have := HF.out.size; have e : wr.drew.heap.size = wr.heap.size := rfl; omega))
               clear hb2))
        | fail
        all_goals
          clear c0 c1 c0' c1'
          go_wp2
          go_end0
          exact ⟨g + 1, rfl, Hend.out ▸ HT2.out, HF2.out⟩
end Go.Proofs.YtinieljgcenemaaDoor
namespace Go.Proofs.YtinieljgcenemaaDoor
open Go.RowKit Go.Own Go.Tbl
set_option linter.unusedVariables false
attribute [local go_sem ↓] Go.wp_at_zero Go.wp_at_succ

theorem fitL_zero (h : Nat) (l : List Fld) : fitL h 0 l = pre h l := by unfold fitL; rw [if_pos (Nat.zero_le _), Nat.sub_zero]
theorem RT.fr {w w' : World} {p : Nat} {A : Option Addr} {n c h : Nat} {l : List Fld} {S : Nat → Prop} (t : RT w p A n c h l) (hf : Fr S w w') (hp : ¬ S p) (hA : ∀ a, A = some a → ¬ S a.block) : RT w' p A n c h l :=
  ⟨t.at_.fr hf hp, t.rd.fr hf hA, t.nc, t.cm, t.ok⟩
theorem RT.seth {w : World} {p : Nat} {A : Option Addr} {n c h : Nat} {l : List Fld} (t : RT w p A n c h l) (hA : ∀ a, A = some a → a.block ≠ p) (x : Int) (h' : Nat) (hx : x = (h' : Int)) : RT (w.setCell ⟨p, 1, none⟩ (.int .i64 x)) p A n c h' l := by
  subst hx
  exact ⟨t.at_.set_ 1 (.int .i64 (h' : Int)), t.rd.fr ((Fr.refl (· = p) w).setCell (p := ⟨p, 1, none⟩) (.inl rfl) _) (fun a ha h => hA a ha h), t.nc, t.cm, t.ok⟩
set_option maxRecDepth 100000 in
set_option maxHeartbeats 2000000 in
theorem rSetMax_any {w : World} {p : Nat} {A : Option Addr} {n c h : Nat} {l : List Fld} (t : RT w p A n c h l) (hA : ∀ a, A = some a → a.block ≠ p) (hsz : szs l ≤ 4611686018427387904) (x : Int) (h' : Nat) (hx : clampI x = h') :
    Calls Tryd.prog 50 #[.pointer (some ⟨p, 0, none⟩), .int .i64 x] w fun e w' => ∃ k, e = .returned (.tuple #[]) ∧ RT w' p A k c h' (pre h' l) ∧ Fr (· = p) w w' := by
  have Ht := Lib.hid t
  have HA := Lib.hid hA
  have Hsz := Lib.hid hsz
  have hle : h' ≤ 65536 := by rw [← hx]; exact clampI_le x
  have hle2 : h' ≤ 4611686018427387904 := by omega
  have Hx := Lib.hid hx
  have c1 := t.at_.cell 1
  have f1 := t.at_.frozen 1
  simp only [List.getElem?_cons_zero, List.getElem?_cons_succ] at c1
  have Hend : Hid (fitL h' 0 l = pre h' l) := fitL_zero h' l
  clear t hA hsz hx
  by_cases hneg : x < 0
  · have hx0 : h' = 0 := by rw [← Hx.out]; unfold clampI; rw [if_pos hneg]
    have hng : ¬ (65536 : Int) < x := by omega
    have Ht2 : Hid (RT ((w.setCell ⟨p, 1, none⟩ (.int .i64 x)).setCell ⟨p, 1, none⟩ (.int .i64 0)) p A n c h' l) := by
      have h1 : Blk (w.setCell ⟨p, 1, none⟩ (.int .i64 x)) p 80 [.slice A n c, .int .i64 x] := Ht.out.at_.set_ 1 (.int .i64 x)
      have h2 := h1.set_ 1 (.int .i64 (h' : Int))
      have hf : Fr (· = p) w ((w.setCell ⟨p, 1, none⟩ (.int .i64 x)).setCell ⟨p, 1, none⟩ (.int .i64 (h' : Int))) := ((Fr.refl (· = p) w).setCell (p := ⟨p, 1, none⟩) (.inl rfl) _).setCell (p := ⟨p, 1, none⟩) (.inl rfl) _
      subst hx0
      exact ⟨h2, Ht.out.rd.fr hf (fun a ha h => HA.out a ha h), Ht.out.nc, Ht.out.cm, Ht.out.ok⟩
    have HF2 : Hid (Fr (· = p) w ((w.setCell ⟨p, 1, none⟩ (.int .i64 x)).setCell ⟨p, 1, none⟩ (.int .i64 0))) := ((Fr.refl (· = p) w).setCell (p := ⟨p, 1, none⟩) (.inl rfl) _).setCell (p := ⟨p, 1, none⟩) (.inl rfl) _
    clear hx0
    go_enter Tryd.func50, Tryd.ntmps50
    go_wp2_with (first
      | (go_at_call 65; (with_reducible refine (rfit_any Ht2.out HA.out Hsz.out hle2 0 (by omega) 0 rfl).mono ?_); rintro e w5 ⟨k, rfl, h5, hf5⟩; have H5 := Lib.hid h5; have HF5 := Lib.hid (HF2.out.trans hf5 (fun _ _ h => h)); clear h5 hf5))
    go_end0
    exact ⟨k, rfl, Hend.out ▸ H5.out, HF5.out⟩
  · by_cases hbig : (65536 : Int) < x
    · have hx0 : h' = 65536 := by rw [← Hx.out]; unfold clampI; rw [if_neg hneg, if_pos hbig]
      have Ht2 : Hid (RT ((w.setCell ⟨p, 1, none⟩ (.int .i64 x)).setCell ⟨p, 1, none⟩ (.int .i64 65536)) p A n c h' l) := by
        have h1 : Blk (w.setCell ⟨p, 1, none⟩ (.int .i64 x)) p 80 [.slice A n c, .int .i64 x] := Ht.out.at_.set_ 1 (.int .i64 x)
        have h2 := h1.set_ 1 (.int .i64 (h' : Int))
        have hf : Fr (· = p) w ((w.setCell ⟨p, 1, none⟩ (.int .i64 x)).setCell ⟨p, 1, none⟩ (.int .i64 (h' : Int))) := ((Fr.refl (· = p) w).setCell (p := ⟨p, 1, none⟩) (.inl rfl) _).setCell (p := ⟨p, 1, none⟩) (.inl rfl) _
        subst hx0
        exact ⟨h2, Ht.out.rd.fr hf (fun a ha h => HA.out a ha h), Ht.out.nc, Ht.out.cm, Ht.out.ok⟩
      have HF2 : Hid (Fr (· = p) w ((w.setCell ⟨p, 1, none⟩ (.int .i64 x)).setCell ⟨p, 1, none⟩ (.int .i64 65536))) := ((Fr.refl (· = p) w).setCell (p := ⟨p, 1, none⟩) (.inl rfl) _).setCell (p := ⟨p, 1, none⟩) (.inl rfl) _
      clear hx0
      go_enter Tryd.func50, Tryd.ntmps50
      go_wp2_with (first
        | (go_at_call 65; (with_reducible refine (rfit_any Ht2.out HA.out Hsz.out hle2 0 (by omega) 0 rfl).mono ?_); rintro e w5 ⟨k, rfl, h5, hf5⟩; have H5 := Lib.hid h5; have HF5 := Lib.hid (HF2.out.trans hf5 (fun _ _ h => h)); clear h5 hf5))
      go_end0
      exact ⟨k, rfl, Hend.out ▸ H5.out, HF5.out⟩
    · have hx0 : x = (h' : Int) := by rw [← Hx.out]; unfold clampI; rw [if_neg hneg, if_neg hbig]; omega
      have Ht2 : Hid (RT (w.setCell ⟨p, 1, none⟩ (.int .i64 x)) p A n c h' l) := Ht.out.seth HA.out x h' hx0
      have HF2 : Hid (Fr (· = p) w (w.setCell ⟨p, 1, none⟩ (.int .i64 x))) := (Fr.refl (· = p) w).setCell (p := ⟨p, 1, none⟩) (.inl rfl) _
      clear hx0
      go_enter Tryd.func50, Tryd.ntmps50
      go_wp2_with (first
        | (go_at_call 65; (with_reducible refine (rfit_any Ht2.out HA.out Hsz.out hle2 0 (by omega) 0 rfl).mono ?_); rintro e w5 ⟨k, rfl, h5, hf5⟩; have H5 := Lib.hid h5; have HF5 := Lib.hid (HF2.out.trans hf5 (fun _ _ h => h)); clear h5 hf5))
      go_end0
      exact ⟨k, rfl, Hend.out ▸ H5.out, HF5.out⟩
theorem pre_nil (h : Nat) : pre h [] = [] := rfl
set_option maxRecDepth 100000 in
theorem rNew_any (w : World) (x : Int) (h' : Nat) (hx : clampI x = h') :
    Calls Tryd.prog 36 #[.int .i64 x] w fun e w' => e = .returned (.pointer (some ⟨w.heap.size, 0, none⟩)) ∧ RT w' w.heap.size none 0 0 h' [] ∧ Below w.heap.size w w' := by
  have Hx := Lib.hid hx
  clear hx
  have Ht : Hid (RT (w.alloc (.cells #[.slice none 0 0, .int .i64 0] 80)) w.heap.size none 0 0 0 []) :=
    ⟨Blk.new w 80 [.slice none 0 0, .int .i64 ((0 : Nat) : Int)], Rd.nil _ _ _, Nat.le_refl _, by omega, by simp⟩
  go_enter Tryd.func36, Tryd.ntmps36
  go_wp2_with (first
    | (go_at_call 50; (with_reducible refine (rSetMax_any Ht.out (by simp) (by simp [szs]) x h' Hx.out).mono ?_); rintro e w5 ⟨k, rfl, h5, hf5⟩
       have hk : k = 0 := h5.len.symm
       subst hk
       have H5 := Lib.hid h5
       have HF5 := Lib.hid hf5
       clear h5 hf5))
  go_ret
  exact ⟨rfl, H5.out, ((Below.refl _ _).alloc (Nat.le_refl _) _).trans (HF5.out.below (by simp) (fun i _ e => by omega))⟩
end Go.Proofs.YtinieljgcenemaaDoor
namespace Go.Proofs.YtinieljgcenemaaDoor
open Go.RowKit Go.Own Go.Tbl
set_option linter.unusedVariables false
attribute [local go_sem ↓] Go.wp_at_zero Go.wp_at_succ

theorem rFSize_c (a b : ByteArray) (nv : Bool) (ha : a.size ≤ 140737488355328) (hb : b.size ≤ 140737488355328) (N : Nat) (hN : a.size + b.size + 32 = N) (w : World) : Calls Tryd.prog 33 #[.agg #[.string a, .string b, .bool nv]] w fun e w' => e = .returned (.int .i64 (N : Int)) ∧ Below w.heap.size w w' :=
  rFSize_n ⟨a, b, nv⟩ ⟨ha, hb⟩ N hN w
theorem RT.alloc {w : World} {p : Nat} {A : Option Addr} {n c h : Nat} {l : List Fld} (t : RT w p A n c h l) (o : Obj) : RT (w.alloc o) p A n c h l :=
  t.fr (S := fun _ => False) ((Fr.refl _ _).alloc o) (fun h => h) (fun _ _ h => h)
theorem len_szs (l : List Fld) : l.length * 32 ≤ szs l := by
  induction l with
  | nil => simp [szs]
  | cons f r ih => rw [szs, List.length_cons]; have := sz_pos f; omega
theorem own_lit3 (w : World) (f : Fld) : (w.alloc (.cells #[.string f.n, .string f.v, .bool false] 38)).ownsRow w.heap.size 38 3 (.slice (some ⟨w.heap.size, 0, none⟩) 1 1) 1 (fcellsL [f.plain]) := by
  have := own_of_blk (n := 1) (size := 3) (cap := 1) (Blk.new w 38 [.string f.n, .string f.v, .bool false]) rfl (by omega) (by simp [maxLen])
  exact own_up this (by intro g hg; simp [Value.ownBlock] at hg; omega)
theorem own_len {w : World} {base : Nat} {e : TypeId} {A : Option Addr} {n c size : Nat} {xs : List Value} (h : w.ownsRow base e size (.slice A n c) n xs) : n ≤ c ∧ c ≤ 9223372036854775807 := by
  obtain ⟨A', c', he, h1, h2, _⟩ := own_shape h
  simp only [Value.slice.injEq] at he
  obtain ⟨_, _, rfl⟩ := he
  exact ⟨h1, h2⟩
set_option maxRecDepth 100000 in
set_option maxHeartbeats 4000000 in
theorem rAdd_any {w : World} {p : Nat} {A : Option Addr} {n c h : Nat} {l : List Fld} (t : RT w p A n c h l) (hA : ∀ a, A = some a → a.block ≠ p) (hsz : szs l ≤ 65536) (hh : h ≤ 65536) (f : Fld) (hf : fok f) (L : List Fld) (hL : addF h f l = L) :
    Calls Tryd.prog 60 #[.pointer (some ⟨p, 0, none⟩), .agg #[.string f.n, .string f.v, .bool f.nv]] w fun e w' => ∃ A' k c', e = .returned (.tuple #[]) ∧ RT w' p A' k c' h L ∧ (∀ a, A' = some a → a.block ≠ p) ∧ Fr (· = p) w w' := by
  obtain ⟨N, hN⟩ : ∃ N, sz f = N := ⟨_, rfl⟩
  have hN2 : f.n.size + f.v.size + 32 = N := hN
  have hNl : N ≤ 281474976710688 := by have := hf.1; have := hf.2; omega
  have Ht1 : Hid (RT (w.alloc (.cells #[.string f.n, .string f.v, .bool false] 38)) p A n c h l) := t.alloc _
  have Hx1 : Hid (Blk (w.alloc (.cells #[.string f.n, .string f.v, .bool false] 38)) w.heap.size 38 [.string f.n, .string f.v, .bool false]) := Blk.new w 38 [.string f.n, .string f.v, .bool false]
  have HA := Lib.hid hA
  have hsz2 : szs l ≤ 4611686018427387904 := by omega
  have hh2 : h ≤ 4611686018427387904 := by omega
  have hN3 : N ≤ 4611686018427387903 := by omega
  have Hsz := Lib.hid hsz2
  have hfn : f.n.size ≤ 140737488355328 := hf.1
  have hfv : f.v.size ≤ 140737488355328 := hf.2
  have Hfo := Lib.hid hf
  have HN2 := Lib.hid hN2
  have hp := Blk.lt t.at_
  have HL : Hid (addF h f l = L) := hL
  have hpw : p ≠ w.heap.size := by omega
  clear t hA hsz2 hN2 hL
  by_cases hc : h < N
  · have hc2 : (h : Int) < (N : Int) := by omega
    have kb : decide (h < N) = true := decide_eq_true hc
    have hend : fitL h N l = L := by
      rw [← HL.out, addF, hN, if_neg (by omega), fitL, if_neg (by omega)]
    have Hend := Lib.hid hend
    clear hend hc
    go_enter Tryd.func60, Tryd.ntmps60
    go_wp2_with (first
      | (go_at_call 33; (with_reducible refine (rFSize_c f.n f.v false hfn hfv N HN2.out _).mono ?_); rintro e w2 ⟨rfl, hb2⟩; have Ht2 := Lib.hid (Ht1.out.below hb2); have Hx2 := Lib.hid (Hx1.out.below hb2 (Blk.lt Hx1.out)); have Hb2 := Lib.hid (((Below.refl _ _).alloc (Nat.le_refl _) _).trans (hb2.mono (by simp))); clear hb2)
      | (go_at_call 65; (with_reducible refine (rfit_any Ht2.out HA.out Hsz.out hh2 N hN3 _ rfl).mono ?_); rintro e w3 ⟨k, rfl, h3, hf3⟩; have H3 := Lib.hid h3; have Hx3 := Lib.hid (Hx2.out.fr hf3 (Ne.symm hpw)); have HF3 := Lib.hid ((Fr.of_below (S := fun i => i = p) Hb2.out (fun i h1 h2 => by omega)).trans hf3 (fun _ _ h => h)); clear h3 hf3))
    have p1 := H3.out.at_.cell 1
    have x0 := Hx3.out.cell 0
    have x1 := Hx3.out.cell 1
    have x2 := Hx3.out.cell 2
    simp only [List.getElem?_cons_zero, List.getElem?_cons_succ] at p1 x0 x1 x2
    have p1' : w3.drew.cell? ⟨p, 1, none⟩ = some (.int .i64 (h : Int)) := p1
    have x0' : w3.drew.cell? ⟨w.heap.size, 0, none⟩ = some (.string f.n) := x0
    have x1' : w3.drew.cell? ⟨w.heap.size, 1, none⟩ = some (.string f.v) := x1
    have x2' : w3.drew.cell? ⟨w.heap.size, 2, none⟩ = some (.bool false) := x2
    have H3d : Hid (RT w3.drew p A k c h (fitL h N l)) := H3.out.drewN 1
    have Hx3d : Hid (Blk w3.drew w.heap.size 38 [.string f.n, .string f.v, .bool false]) := Hx3.out.drewN 1
    first
    | go_region_held (fun w' => w'.cell? ⟨p, 1, none⟩ = some (.int .i64 (h : Int)) ∧ w'.cell? ⟨w.heap.size, 0, none⟩ = some (.string f.n) ∧ w'.cell? ⟨w.heap.size, 1, none⟩ = some (.string f.v) ∧ w'.cell? ⟨w.heap.size, 2, none⟩ = some (.bool false))
        (first | exact ⟨p1, x0, x1, x2⟩ | exact ⟨p1', x0', x1', x2'⟩ | exact ⟨p4, y0, y1, y2⟩)
        (first
        | (go_at_call 33; (with_reducible refine (rFSize_c f.n f.v false hfn hfv N HN2.out _).mono ?_); rintro e w4 ⟨rfl, hb4⟩
           have H4 := Lib.hid (H3d.out.below hb4)
           have Hx4 := Lib.hid (Hx3d.out.below hb4 (Blk.lt Hx3d.out))
           have p4 := H4.out.at_.cell 1
           have y0 := Hx4.out.cell 0
           have y1 := Hx4.out.cell 1
           have y2 := Hx4.out.cell 2
           simp only [List.getElem?_cons_zero, List.getElem?_cons_succ] at p4 y0 y1 y2
           have HF4 := Lib.hid ((HF3.out.drewN 1).trans (Fr.of_below (S := fun i => w3.drew.heap.size ≤ i) hb4 (fun i _ h => h)) (fun i hi h => by have := HF3.out.size; have e : w3.drew.heap.size = w3.heap.size := rfl; omega))
           clear hb4))
    | fail
    all_goals
      clear p1 x0 x1 x2 p1' x0' x1' x2' H3d Hx3d
      go_wp2
      refine bodyPost_ret (results_none rfl _ _ _) rfl ?_
      exact ⟨A, k, c, rfl, Hend.out ▸ H4.out, HA.out, HF4.out⟩
  · have hc2 : ¬ (h : Int) < (N : Int) := by omega
    have kb : decide (h < N) = false := decide_eq_false hc
    have hNh : N ≤ h := by omega
    have hend : f.plain :: fitL h N l = L := by
      rw [← HL.out, addF, hN, if_pos hNh, fitL, if_pos hNh]
    have Hend := Lib.hid hend
    have hkl : (fitL h N l).length ≤ 2048 := by
      have h1 := len_szs (fitL h N l)
      have h2 : szs (fitL h N l) ≤ h - N := by rw [fitL, if_pos hNh]; exact pre_le _ _
      omega
    have Hkl := Lib.hid hkl
    clear hend hc hkl
    go_enter Tryd.func60, Tryd.ntmps60
    go_wp2_with (first
      | (go_at_call 33; (with_reducible refine (rFSize_c f.n f.v false hfn hfv N HN2.out _).mono ?_); rintro e w2 ⟨rfl, hb2⟩; have Ht2 := Lib.hid (Ht1.out.below hb2); have Hx2 := Lib.hid (Hx1.out.below hb2 (Blk.lt Hx1.out)); have Hb2 := Lib.hid (((Below.refl _ _).alloc (Nat.le_refl _) _).trans (hb2.mono (by simp))); clear hb2)
      | (go_at_call 65; (with_reducible refine (rfit_any Ht2.out HA.out Hsz.out hh2 N hN3 _ rfl).mono ?_); rintro e w3 ⟨k, rfl, h3, hf3⟩; have H3 := Lib.hid h3; have Hx3 := Lib.hid (Hx2.out.fr hf3 (Ne.symm hpw)); have HF3 := Lib.hid ((Fr.of_below (S := fun i => i = p) Hb2.out (fun i h1 h2 => by omega)).trans hf3 (fun _ _ h => h)); clear h3 hf3))
    have p1 := H3.out.at_.cell 1
    have x0 := Hx3.out.cell 0
    have x1 := Hx3.out.cell 1
    have x2 := Hx3.out.cell 2
    simp only [List.getElem?_cons_zero, List.getElem?_cons_succ] at p1 x0 x1 x2
    have p1' : w3.drew.cell? ⟨p, 1, none⟩ = some (.int .i64 (h : Int)) := p1
    have x0' : w3.drew.cell? ⟨w.heap.size, 0, none⟩ = some (.string f.n) := x0
    have x1' : w3.drew.cell? ⟨w.heap.size, 1, none⟩ = some (.string f.v) := x1
    have x2' : w3.drew.cell? ⟨w.heap.size, 2, none⟩ = some (.bool false) := x2
    have H3d : Hid (RT w3.drew p A k c h (fitL h N l)) := H3.out.drewN 1
    have Hx3d : Hid (Blk w3.drew w.heap.size 38 [.string f.n, .string f.v, .bool false]) := Hx3.out.drewN 1
    first
    | go_region_held (fun w' => w'.cell? ⟨p, 1, none⟩ = some (.int .i64 (h : Int)) ∧ w'.cell? ⟨w.heap.size, 0, none⟩ = some (.string f.n) ∧ w'.cell? ⟨w.heap.size, 1, none⟩ = some (.string f.v) ∧ w'.cell? ⟨w.heap.size, 2, none⟩ = some (.bool false))
        (first | exact ⟨p1, x0, x1, x2⟩ | exact ⟨p1', x0', x1', x2'⟩ | exact ⟨p4, y0, y1, y2⟩)
        (first
        | (go_at_call 33; (with_reducible refine (rFSize_c f.n f.v false hfn hfv N HN2.out _).mono ?_); rintro e w4 ⟨rfl, hb4⟩
           have H4 := Lib.hid (H3d.out.below hb4)
           have Hx4 := Lib.hid (Hx3d.out.below hb4 (Blk.lt Hx3d.out))
           have p4 := H4.out.at_.cell 1
           have y0 := Hx4.out.cell 0
           have y1 := Hx4.out.cell 1
           have y2 := Hx4.out.cell 2
           simp only [List.getElem?_cons_zero, List.getElem?_cons_succ] at p4 y0 y1 y2
           have HF4 := Lib.hid ((HF3.out.drewN 1).trans (Fr.of_below (S := fun i => w3.drew.heap.size ≤ i) hb4 (fun i _ h => h)) (fun i hi h => by have := HF3.out.size; have e : w3.drew.heap.size = w3.heap.size := rfl; omega))
           clear hb4))
    | fail
    all_goals
      clear p1 x0 x1 x2 p1' x0' x1' x2' H3d Hx3d
      have hk2 : k ≤ 2048 := by have h1 := H4.out.len; have := Hkl.out; omega
      have hpl4 : p < w4.heap.size := Blk.lt H4.out.at_
      have q0 := (H4.out.alloc (.cells #[.string f.n, .string f.v, .bool false] 38)).at_.cell 0
      simp only [List.getElem?_cons_zero] at q0
      go_wp2_with (first
        | (at_builtin
           refine wpList_append_rd rfl (.tmp 19) (.tmp 23) 28 rfl EF (.slice (some ⟨w4.heap.size, 0, none⟩) 1 1) 1 (fcellsL [f.plain]) rfl (own_lit3 w4 f) A k c (fcellsL (fitL h N l)) rfl (H4.out.alloc _).rd (fcells_one _) (by omega) (by unfold maxLen; omega) (by simp) ?_
           intro A6 c6 w6 ho6 hf6 ho2
           rw [← fcellsL_append] at ho6
           have Ho6 := Lib.hid ho6
           have H6 := Lib.hid ((H4.out.alloc (.cells #[.string f.n, .string f.v, .bool false] 38)).at_.fr hf6 (fun e => by simp [Value.ownBlock] at e; omega))
           have HF6 := Lib.hid ((HF4.out.alloc _).trans hf6 (fun i hi e => by simp [Value.ownBlock] at e; have := HF4.out.size; omega))
           have q6 := H6.out.cell 0
           have z6 := H6.out.frozen 0
           simp only [List.getElem?_cons_zero] at q6
           clear ho6 hf6 ho2))
    all_goals
      go_end0
      have hbl : ∀ a, A6 = some a → a.block ≠ p := fun a ha e => by
        have := (Ho6.out.lt a.block (by rw [ha]; rfl)).1
        omega
      obtain ⟨g1, g2⟩ := own_len Ho6.out
      refine ⟨A6, 1 + k, c6, rfl, ⟨H6.out.set_ 0 (.slice A6 (1 + k) c6), ?_, g1, g2, ?_⟩, hbl, HF6.out.setCell (p := ⟨p, 0, none⟩) (.inl rfl) _⟩
      · rw [← Hend.out]
        exact (Rd.of_own Ho6.out).fr ((Fr.refl (· = p) w6).setCell (p := ⟨p, 0, none⟩) (.inl rfl) _) (fun a ha e => hbl a ha e)
      · rw [← Hend.out]
        intro g hg
        rcases List.mem_cons.1 hg with rfl | hg
        · exact Hfo.out
        · exact H4.out.ok g hg
end Go.Proofs.YtinieljgcenemaaDoor
namespace Go.Proofs.YtinieljgcenemaaDoor
open Go.RowKit Go.Own Go.Tbl
set_option linter.unusedVariables false

/-- the fields of the static table, by their octets -/
def statL : List Fld := [
  ⟨⟨#[58, 97, 117, 116, 104, 111, 114, 105, 116, 121]⟩, ⟨#[]⟩, false⟩,
  ⟨⟨#[58, 109, 101, 116, 104, 111, 100]⟩, ⟨#[71, 69, 84]⟩, false⟩,
  ⟨⟨#[58, 109, 101, 116, 104, 111, 100]⟩, ⟨#[80, 79, 83, 84]⟩, false⟩,
  ⟨⟨#[58, 112, 97, 116, 104]⟩, ⟨#[47]⟩, false⟩,
  ⟨⟨#[58, 112, 97, 116, 104]⟩, ⟨#[47, 105, 110, 100, 101, 120, 46, 104, 116, 109, 108]⟩, false⟩,
  ⟨⟨#[58, 115, 99, 104, 101, 109, 101]⟩, ⟨#[104, 116, 116, 112]⟩, false⟩,
  ⟨⟨#[58, 115, 99, 104, 101, 109, 101]⟩, ⟨#[104, 116, 116, 112, 115]⟩, false⟩,
  ⟨⟨#[58, 115, 116, 97, 116, 117, 115]⟩, ⟨#[50, 48, 48]⟩, false⟩,
  ⟨⟨#[58, 115, 116, 97, 116, 117, 115]⟩, ⟨#[50, 48, 52]⟩, false⟩,
  ⟨⟨#[58, 115, 116, 97, 116, 117, 115]⟩, ⟨#[50, 48, 54]⟩, false⟩,
  ⟨⟨#[58, 115, 116, 97, 116, 117, 115]⟩, ⟨#[51, 48, 52]⟩, false⟩,
  ⟨⟨#[58, 115, 116, 97, 116, 117, 115]⟩, ⟨#[52, 48, 48]⟩, false⟩,
  ⟨⟨#[58, 115, 116, 97, 116, 117, 115]⟩, ⟨#[52, 48, 52]⟩, false⟩,
  ⟨⟨#[58, 115, 116, 97, 116, 117, 115]⟩, ⟨#[53, 48, 48]⟩, false⟩,
  ⟨⟨#[97, 99, 99, 101, 112, 116, 45, 99, 104, 97, 114, 115, 101, 116]⟩, ⟨#[]⟩, false⟩,
  ⟨⟨#[97, 99, 99, 101, 112, 116, 45, 101, 110, 99, 111, 100, 105, 110, 103]⟩, ⟨#[103, 122, 105, 112, 44, 32, 100, 101, 102, 108, 97, 116, 101]⟩, false⟩,
  ⟨⟨#[97, 99, 99, 101, 112, 116, 45, 108, 97, 110, 103, 117, 97, 103, 101]⟩, ⟨#[]⟩, false⟩,
  ⟨⟨#[97, 99, 99, 101, 112, 116, 45, 114, 97, 110, 103, 101, 115]⟩, ⟨#[]⟩, false⟩,
  ⟨⟨#[97, 99, 99, 101, 112, 116]⟩, ⟨#[]⟩, false⟩,
  ⟨⟨#[97, 99, 99, 101, 115, 115, 45, 99, 111, 110, 116, 114, 111, 108, 45, 97, 108, 108, 111, 119, 45, 111, 114, 105, 103, 105, 110]⟩, ⟨#[]⟩, false⟩,
  ⟨⟨#[97, 103, 101]⟩, ⟨#[]⟩, false⟩,
  ⟨⟨#[97, 108, 108, 111, 119]⟩, ⟨#[]⟩, false⟩,
  ⟨⟨#[97, 117, 116, 104, 111, 114, 105, 122, 97, 116, 105, 111, 110]⟩, ⟨#[]⟩, false⟩,
  ⟨⟨#[99, 97, 99, 104, 101, 45, 99, 111, 110, 116, 114, 111, 108]⟩, ⟨#[]⟩, false⟩,
  ⟨⟨#[99, 111, 110, 116, 101, 110, 116, 45, 100, 105, 115, 112, 111, 115, 105, 116, 105, 111, 110]⟩, ⟨#[]⟩, false⟩,
  ⟨⟨#[99, 111, 110, 116, 101, 110, 116, 45, 101, 110, 99, 111, 100, 105, 110, 103]⟩, ⟨#[]⟩, false⟩,
  ⟨⟨#[99, 111, 110, 116, 101, 110, 116, 45, 108, 97, 110, 103, 117, 97, 103, 101]⟩, ⟨#[]⟩, false⟩,
  ⟨⟨#[99, 111, 110, 116, 101, 110, 116, 45, 108, 101, 110, 103, 116, 104]⟩, ⟨#[]⟩, false⟩,
  ⟨⟨#[99, 111, 110, 116, 101, 110, 116, 45, 108, 111, 99, 97, 116, 105, 111, 110]⟩, ⟨#[]⟩, false⟩,
  ⟨⟨#[99, 111, 110, 116, 101, 110, 116, 45, 114, 97, 110, 103, 101]⟩, ⟨#[]⟩, false⟩,
  ⟨⟨#[99, 111, 110, 116, 101, 110, 116, 45, 116, 121, 112, 101]⟩, ⟨#[]⟩, false⟩,
  ⟨⟨#[99, 111, 111, 107, 105, 101]⟩, ⟨#[]⟩, false⟩,
  ⟨⟨#[100, 97, 116, 101]⟩, ⟨#[]⟩, false⟩,
  ⟨⟨#[101, 116, 97, 103]⟩, ⟨#[]⟩, false⟩,
  ⟨⟨#[101, 120, 112, 101, 99, 116]⟩, ⟨#[]⟩, false⟩,
  ⟨⟨#[101, 120, 112, 105, 114, 101, 115]⟩, ⟨#[]⟩, false⟩,
  ⟨⟨#[102, 114, 111, 109]⟩, ⟨#[]⟩, false⟩,
  ⟨⟨#[104, 111, 115, 116]⟩, ⟨#[]⟩, false⟩,
  ⟨⟨#[105, 102, 45, 109, 97, 116, 99, 104]⟩, ⟨#[]⟩, false⟩,
  ⟨⟨#[105, 102, 45, 109, 111, 100, 105, 102, 105, 101, 100, 45, 115, 105, 110, 99, 101]⟩, ⟨#[]⟩, false⟩,
  ⟨⟨#[105, 102, 45, 110, 111, 110, 101, 45, 109, 97, 116, 99, 104]⟩, ⟨#[]⟩, false⟩,
  ⟨⟨#[105, 102, 45, 114, 97, 110, 103, 101]⟩, ⟨#[]⟩, false⟩,
  ⟨⟨#[105, 102, 45, 117, 110, 109, 111, 100, 105, 102, 105, 101, 100, 45, 115, 105, 110, 99, 101]⟩, ⟨#[]⟩, false⟩,
  ⟨⟨#[108, 97, 115, 116, 45, 109, 111, 100, 105, 102, 105, 101, 100]⟩, ⟨#[]⟩, false⟩,
  ⟨⟨#[108, 105, 110, 107]⟩, ⟨#[]⟩, false⟩,
  ⟨⟨#[108, 111, 99, 97, 116, 105, 111, 110]⟩, ⟨#[]⟩, false⟩,
  ⟨⟨#[109, 97, 120, 45, 102, 111, 114, 119, 97, 114, 100, 115]⟩, ⟨#[]⟩, false⟩,
  ⟨⟨#[112, 114, 111, 120, 121, 45, 97, 117, 116, 104, 101, 110, 116, 105, 99, 97, 116, 101]⟩, ⟨#[]⟩, false⟩,
  ⟨⟨#[112, 114, 111, 120, 121, 45, 97, 117, 116, 104, 111, 114, 105, 122, 97, 116, 105, 111, 110]⟩, ⟨#[]⟩, false⟩,
  ⟨⟨#[114, 97, 110, 103, 101]⟩, ⟨#[]⟩, false⟩,
  ⟨⟨#[114, 101, 102, 101, 114, 101, 114]⟩, ⟨#[]⟩, false⟩,
  ⟨⟨#[114, 101, 102, 114, 101, 115, 104]⟩, ⟨#[]⟩, false⟩,
  ⟨⟨#[114, 101, 116, 114, 121, 45, 97, 102, 116, 101, 114]⟩, ⟨#[]⟩, false⟩,
  ⟨⟨#[115, 101, 114, 118, 101, 114]⟩, ⟨#[]⟩, false⟩,
  ⟨⟨#[115, 101, 116, 45, 99, 111, 111, 107, 105, 101]⟩, ⟨#[]⟩, false⟩,
  ⟨⟨#[115, 116, 114, 105, 99, 116, 45, 116, 114, 97, 110, 115, 112, 111, 114, 116, 45, 115, 101, 99, 117, 114, 105, 116, 121]⟩, ⟨#[]⟩, false⟩,
  ⟨⟨#[116, 114, 97, 110, 115, 102, 101, 114, 45, 101, 110, 99, 111, 100, 105, 110, 103]⟩, ⟨#[]⟩, false⟩,
  ⟨⟨#[117, 115, 101, 114, 45, 97, 103, 101, 110, 116]⟩, ⟨#[]⟩, false⟩,
  ⟨⟨#[118, 97, 114, 121]⟩, ⟨#[]⟩, false⟩,
  ⟨⟨#[118, 105, 97]⟩, ⟨#[]⟩, false⟩,
  ⟨⟨#[119, 119, 119, 45, 97, 117, 116, 104, 101, 110, 116, 105, 99, 97, 116, 101]⟩, ⟨#[]⟩, false⟩]
theorem statL_length : statL.length = 61 := rfl
theorem run_build1 (a : ByteArray) (w : World) : (Instr.build 38 #[(0, .string a)]).run Tryd.prog w = .ok (.agg #[.string a, .string ⟨#[]⟩, .bool false]) w := by kernel_rfl
theorem run_build2 (a b : ByteArray) (w : World) : (Instr.build 38 #[(0, .string a), (1, .string b)]).run Tryd.prog w = .ok (.agg #[.string a, .string b, .bool false]) w := by kernel_rfl
theorem wpList_build1 {ops : Array Oper} {rest : List Oper} {o : Oper} {a : Act} {w : World} {Q : Exit → Act → World → Prop} (hg : o.guard = none) (x : ByteArray) (ho : o.op = .build 38 #[(0, .const (.string x))])
    (h : wpList Tryd.prog ops Q rest (a.put o.dst (.agg #[.string x, .string ⟨#[]⟩, .bool false])) w) : wpList Tryd.prog ops Q (o :: rest) a w := by
  refine wpList_plain hg fun _ hK => ?_
  unfold Oper.wp execOp
  simp only [ho, Sem.run_bind, List.map_toArray, List.map_cons, List.map_nil, Act.eval, run_build1, Result.andThen_ok]
  exact hK _ _ h
theorem wpList_build2 {ops : Array Oper} {rest : List Oper} {o : Oper} {a : Act} {w : World} {Q : Exit → Act → World → Prop} (hg : o.guard = none) (x y : ByteArray) (ho : o.op = .build 38 #[(0, .const (.string x)), (1, .const (.string y))])
    (h : wpList Tryd.prog ops Q rest (a.put o.dst (.agg #[.string x, .string y, .bool false])) w) : wpList Tryd.prog ops Q (o :: rest) a w := by
  refine wpList_plain hg fun _ hK => ?_
  unfold Oper.wp execOp
  simp only [ho, Sem.run_bind, List.map_toArray, List.map_cons, List.map_nil, Act.eval, run_build2, Result.andThen_ok]
  exact hK _ _ h
theorem wpList_statics {ops : Array Oper} {rest : List Oper} {o : Oper} {a : Act} {w : World} {Q : Exit → Act → World → Prop} (hg : o.guard = none) (parts : Array (Nat × Operand)) (ho : o.op = .buildSlice 28 61 parts)
    (hf : Instr.fill (fun i => some (i * 3, 3)) ((Array.range (61 * 3)).map (#[Value.string ⟨#[]⟩, .string ⟨#[]⟩, .bool false][· % 3]!)) (parts.map fun (i, x) => (i, a.eval x)).toList = some (fcellsL statL).toArray)
    (h : wpList Tryd.prog ops Q rest (a.put o.dst (.slice (some ⟨w.heap.size, 0, none⟩) 61 61)) (w.alloc (.cells (fcellsL statL).toArray 38))) : wpList Tryd.prog ops Q (o :: rest) a w := by
  obtain ⟨_, ⟨ie, h1, h2, h3, _⟩, _⟩ := EF
  exact wpList_buildSlice hg 28 38 61 parts ho _ ie _ Tryd.underlying28 h1 h2 (by rw [h3]; decide) (by rw [h3]; decide) (by rw [h3]; exact hf) h
set_option maxRecDepth 100000 in
set_option maxHeartbeats 4000000 in
theorem rStatics_any (w : World) : Calls Tryd.prog 34 #[] w fun e w' => e = .returned (.slice (some ⟨w.heap.size, 0, none⟩) 61 61) ∧ w' = w.alloc (.cells (fcellsL statL).toArray 38) := by
  go_enter Tryd.func34, Tryd.ntmps34
  go_wp2_with (first
    | (refine wpList_build2 rfl _ _ rfl ?_)
    | (refine wpList_build1 rfl _ rfl ?_)
    | (refine wpList_statics rfl _ rfl (by kernel_rfl) ?_))
  go_ret
  exact ⟨rfl, rfl⟩
end Go.Proofs.YtinieljgcenemaaDoor
namespace Go.Proofs.YtinieljgcenemaaDoor
open Go.RowKit Go.Own Go.Tbl
set_option linter.unusedVariables false
attribute [local go_sem ↓] Go.wp_at_zero Go.wp_at_succ

theorem own_empty_f (w : World) : (w.alloc (.cells #[] 38)).ownsRow w.heap.size 38 3 (.slice (some ⟨w.heap.size, 0, none⟩) 0 0) 0 (fcellsL []) := by
  have := own_of_blk (n := 0) (size := 3) (cap := 0) (Blk.new w 38 []) rfl (by omega) (by simp [maxLen])
  exact own_up this (by intro g hg; simp [Value.ownBlock] at hg; omega)
/-- the field of an index -/
def atL (all : List Fld) (i : Int) : Option Fld := if i < 1 ∨ (all.length : Int) < i then none else all[(i - 1).toNat]?
/-- what At answers -/
def atV : Option Fld → Value
  | some f => .tuple #[.agg #[.string f.n, .string f.v, .bool f.nv], .bool true]
  | none => .tuple #[.agg #[.string ⟨#[]⟩, .string ⟨#[]⟩, .bool false], .bool false]
theorem own_stat (w : World) : (w.alloc (.cells (fcellsL statL).toArray 38)).ownsRow w.heap.size 38 3 (.slice (some ⟨w.heap.size, 0, none⟩) 61 61) 61 (fcellsL statL) := by
  have h := own_of_blk (n := 61) (size := 3) (cap := 61) (Blk.new w 38 (fcellsL statL)) (by rw [fcellsL_length, statL_length]) (by omega) (by simp [maxLen])
  rw [List.take_of_length_le (by rw [fcellsL_length, statL_length]; omega)] at h
  exact own_up h (by intro g hg; simp [Value.ownBlock] at hg; omega)
theorem rStatics_w (w : World) : Calls Tryd.prog 34 #[] w fun e w' => ∃ g, e = .returned (.slice (some ⟨g, 0, none⟩) 61 61) ∧ w'.ownsRow w.heap.size 38 3 (.slice (some ⟨g, 0, none⟩) 61 61) 61 (fcellsL statL) ∧ g = w.heap.size ∧ Below w.heap.size w w' := by
  refine (rStatics_any w).mono ?_
  rintro e w' ⟨rfl, rfl⟩
  exact ⟨w.heap.size, rfl, own_stat w, rfl, (Below.refl _ _).alloc (Nat.le_refl _) _⟩
set_option maxRecDepth 100000 in
set_option maxHeartbeats 4000000 in
theorem rAt_any {w : World} {p : Nat} {A : Option Addr} {n c h : Nat} {l : List Fld} (t : RT w p A n c h l) (hsz : szs l ≤ 65536) (i : Int) (hi : -9223372036854775808 ≤ i ∧ i ≤ 9223372036854775807) (R : Option Fld) (hR : atL (statL ++ l) i = R) :
    Calls Tryd.prog 79 #[.pointer (some ⟨p, 0, none⟩), .int .i64 i] w fun e w' => e = .returned (atV R) ∧ Below w.heap.size w w' := by
  have hn : n ≤ 2048 := by have h1 := len_szs l; have := t.len; omega
  have hlen : (statL ++ l).length = 61 + n := by rw [List.length_append, statL_length, t.len]
  have Ht := Lib.hid t
  have hp := Blk.lt t.at_
  have HR := Lib.hid hR
  have Hlen := Lib.hid hlen
  have hN : ∃ N, 61 + n = N := ⟨_, rfl⟩
  obtain ⟨N, hN⟩ := hN
  have eN : (61 : Int) + (n : Int) = (N : Int) := by omega
  have HN := Lib.hid hN
  have Ht1 : Hid (RT (w.alloc (.cells #[.string ⟨#[]⟩, .string ⟨#[]⟩, .bool false] 38)) p A n c h l) := t.alloc _
  have Hv1 : Hid (Blk (w.alloc (.cells #[.string ⟨#[]⟩, .string ⟨#[]⟩, .bool false] 38)) w.heap.size 38 [.string ⟨#[]⟩, .string ⟨#[]⟩, .bool false]) := Blk.new w 38 [.string ⟨#[]⟩, .string ⟨#[]⟩, .bool false]
  clear t hsz hR hlen
  by_cases hout : i < 1 ∨ (N : Int) < i
  · have hr : R = none := by rw [← HR.out, atL, if_pos (by rw [Hlen.out, HN.out]; exact hout)]
    subst hr
    have hcase : i < 1 ∨ (¬ i < 1 ∧ (N : Int) < i) := by omega
    clear hout
    rcases hcase with h1 | ⟨h1, h2⟩
    all_goals
      go_enter Tryd.func79, Tryd.ntmps79
      go_wp2_with (first
        | (go_at_call 34; (with_reducible refine (rStatics_w _).mono ?_); rintro e w2 ⟨g, rfl, ho2, hg2, hb2⟩; have Ht2 := Lib.hid (Ht1.out.below hb2); have Hv2 := Lib.hid (Hv1.out.below hb2 (Blk.lt Hv1.out)); have Ho2 := Lib.hid ho2; have q0 := Ht2.out.at_.cell 0; simp only [List.getElem?_cons_zero] at q0; have HB2 := Lib.hid (((Below.refl _ _).alloc (Nat.le_refl _) _).trans (hb2.mono (by simp))); have hs2 := hb2.size; have Hg2 := Lib.hid hg2; clear ho2 hg2 hb2)
        | (at_builtin
           refine wpList_append_rd rfl (.tmp 8) (.tmp 12) 28 rfl EF (.slice (some ⟨g, 0, none⟩) 61 61) 61 (fcellsL statL) rfl Ho2.out A n c (fcellsL l) rfl Ht2.out.rd (fcells_one _) (by omega) (by unfold maxLen; omega) hs2 ?_
           intro A6 c6 w6 ho6 hf6 hat
           rw [← fcellsL_append, HN.out] at ho6
           have Ho6 := Lib.hid ho6
           have Hv6 := Lib.hid (Hv2.out.fr hf6 (fun e => by have := Hg2.out; simp [Value.ownBlock] at e this; omega))
           have HB6 := Lib.hid (HB2.out.trans (hf6.below (B := w.heap.size) HB2.out.size (fun i _ e => by have := Hg2.out; simp [Value.ownBlock] at e this; omega)))
           have y0 := Hv6.out.cell 0
           have y1 := Hv6.out.cell 1
           have y2 := Hv6.out.cell 2
           simp only [List.getElem?_cons_zero, List.getElem?_cons_succ] at y0 y1 y2
           have z0 := Hv6.out.frozen 0
           have z1 := Hv6.out.frozen 1
           have z2 := Hv6.out.frozen 2
           clear ho6 hf6 hat))
    all_goals
      have H7 : Blk (((w6.setCell ⟨w.heap.size, 0, none⟩ (.string ⟨#[]⟩)).setCell ⟨w.heap.size, 1, none⟩ (.string ⟨#[]⟩)).setCell ⟨w.heap.size, 2, none⟩ (.bool false)) w.heap.size 38 [.string ⟨#[]⟩, .string ⟨#[]⟩, .bool false] := ((Hv6.out.set_ 0 (.string ⟨#[]⟩)).set_ 1 (.string ⟨#[]⟩)).set_ 2 (.bool false)
      have HB7 : Below w.heap.size w (((w6.setCell ⟨w.heap.size, 0, none⟩ (.string ⟨#[]⟩)).setCell ⟨w.heap.size, 1, none⟩ (.string ⟨#[]⟩)).setCell ⟨w.heap.size, 2, none⟩ (.bool false)) := ((HB6.out.setCell (p := ⟨w.heap.size, 0, none⟩) (Nat.le_refl _) _).setCell (p := ⟨w.heap.size, 1, none⟩) (Nat.le_refl _) _).setCell (p := ⟨w.heap.size, 2, none⟩) (Nat.le_refl _) _
      have r0 := H7.cell 0
      have r1 := H7.cell 1
      have r2 := H7.cell 2
      simp only [List.getElem?_cons_zero, List.getElem?_cons_succ] at r0 r1 r2
      generalize (((w6.setCell ⟨w.heap.size, 0, none⟩ (.string ⟨#[]⟩)).setCell ⟨w.heap.size, 1, none⟩ (.string ⟨#[]⟩)).setCell ⟨w.heap.size, 2, none⟩ (.bool false)) = w7 at H7 HB7 r0 r1 r2 ⊢
      refine bodyPost_ret (v := atV none) (by simp [results, Tryd.results79, go_sem, r0, r1, r2, atV]) rfl ⟨rfl, HB7⟩
  · have h1 : ¬ i < 1 := fun e => hout (.inl e)
    have h2 : ¬ (N : Int) < i := fun e => hout (.inr e)
    obtain ⟨k, hk⟩ : ∃ k : Nat, i - 1 = (k : Int) := ⟨(i - 1).toNat, by omega⟩
    have hkN : k < N := by omega
    obtain ⟨f, hf⟩ : ∃ f, (statL ++ l)[k]? = some f := ⟨_, List.getElem?_eq_getElem (by rw [Hlen.out, HN.out]; exact hkN)⟩
    have hr : R = some f := by rw [← HR.out, atL, if_neg (by rw [Hlen.out, HN.out]; exact hout), show (i - 1).toNat = k by omega, hf]
    subst hr
    have Hf := Lib.hid hf
    have k1 : (k : Int) < (N : Int) := by omega
    clear hout hf
    go_enter Tryd.func79, Tryd.ntmps79
    go_wp2_with (first
      | (go_at_call 34; (with_reducible refine (rStatics_w _).mono ?_); rintro e w2 ⟨g, rfl, ho2, hg2, hb2⟩; have Ht2 := Lib.hid (Ht1.out.below hb2); have Hv2 := Lib.hid (Hv1.out.below hb2 (Blk.lt Hv1.out)); have Ho2 := Lib.hid ho2; have q0 := Ht2.out.at_.cell 0; simp only [List.getElem?_cons_zero] at q0; have HB2 := Lib.hid (((Below.refl _ _).alloc (Nat.le_refl _) _).trans (hb2.mono (by simp))); have hs2 := hb2.size; have Hg2 := Lib.hid hg2; clear ho2 hg2 hb2)
      | (at_builtin
         refine wpList_append_rd rfl (.tmp 8) (.tmp 12) 28 rfl EF (.slice (some ⟨g, 0, none⟩) 61 61) 61 (fcellsL statL) rfl Ho2.out A n c (fcellsL l) rfl Ht2.out.rd (fcells_one _) (by omega) (by unfold maxLen; omega) hs2 ?_
         intro A6 c6 w6 ho6 hf6 hat
         rw [← fcellsL_append, HN.out] at ho6
         have Ho6 := Lib.hid ho6
         have Hv6 := Lib.hid (Hv2.out.fr hf6 (fun e => by have := Hg2.out; simp [Value.ownBlock] at e this; omega))
         have HB6 := Lib.hid (HB2.out.trans (hf6.below (B := w.heap.size) HB2.out.size (fun i _ e => by have := Hg2.out; simp [Value.ownBlock] at e this; omega)))
         obtain ⟨bb, oo, ha6, d0, d1, d2⟩ := rd_fld (Rd.of_own ho6) Hf.out
         subst ha6
         have y0 := Hv6.out.cell 0
         have y1 := Hv6.out.cell 1
         have y2 := Hv6.out.cell 2
         simp only [List.getElem?_cons_zero, List.getElem?_cons_succ] at y0 y1 y2
         have z0 := Hv6.out.frozen 0
         have z1 := Hv6.out.frozen 1
         have z2 := Hv6.out.frozen 2
         clear ho6 hf6 hat))
    all_goals
      have H7 : Blk (((w6.setCell ⟨w.heap.size, 0, none⟩ (.string f.n)).setCell ⟨w.heap.size, 1, none⟩ (.string f.v)).setCell ⟨w.heap.size, 2, none⟩ (.bool f.nv)) w.heap.size 38 [.string f.n, .string f.v, .bool f.nv] := ((Hv6.out.set_ 0 (.string f.n)).set_ 1 (.string f.v)).set_ 2 (.bool f.nv)
      have HB7 : Below w.heap.size w (((w6.setCell ⟨w.heap.size, 0, none⟩ (.string f.n)).setCell ⟨w.heap.size, 1, none⟩ (.string f.v)).setCell ⟨w.heap.size, 2, none⟩ (.bool f.nv)) := ((HB6.out.setCell (p := ⟨w.heap.size, 0, none⟩) (Nat.le_refl _) _).setCell (p := ⟨w.heap.size, 1, none⟩) (Nat.le_refl _) _).setCell (p := ⟨w.heap.size, 2, none⟩) (Nat.le_refl _) _
      have r0 := H7.cell 0
      have r1 := H7.cell 1
      have r2 := H7.cell 2
      simp only [List.getElem?_cons_zero, List.getElem?_cons_succ] at r0 r1 r2
      generalize (((w6.setCell ⟨w.heap.size, 0, none⟩ (.string f.n)).setCell ⟨w.heap.size, 1, none⟩ (.string f.v)).setCell ⟨w.heap.size, 2, none⟩ (.bool f.nv)) = w7 at H7 HB7 r0 r1 r2 ⊢
      refine bodyPost_ret (v := atV (some f)) (by simp [results, Tryd.results79, go_sem, r0, r1, r2, atV]) rfl ⟨rfl, HB7⟩
end Go.Proofs.YtinieljgcenemaaDoor
namespace Go.Proofs.YtinieljgcenemaaDoor
open Go.RowKit Go.Own Go.Tbl
set_option linter.unusedVariables false
attribute [local go_sem ↓] Go.wp_at_zero Go.wp_at_succ

theorem place_hit {p : Fld → Bool} : ∀ {l : List Fld} {k : Nat} {f : Fld}, l[k]? = some f → p f = true → (∀ (j : Nat) (g : Fld), j < k → l[j]? = some g → p g = false) → place p l = some k
  | [], k, f, h, _, _ => by simp at h
  | x :: r, 0, f, h, hp, _ => by
    rw [List.getElem?_cons_zero] at h
    obtain rfl := Option.some.inj h
    rw [place, if_pos hp]
  | x :: r, k + 1, f, h, hp, hl => by
    have h0 : p x = false := hl 0 x (by omega) rfl
    rw [place, if_neg (by simp [h0]), place_hit (l := r) (k := k) (by rw [List.getElem?_cons_succ] at h; exact h) hp (fun j g hj hg => hl (j + 1) g (by omega) (by rw [List.getElem?_cons_succ]; exact hg))]
    rfl
theorem place_miss {p : Fld → Bool} : ∀ {l : List Fld}, (∀ (j : Nat) (g : Fld), l[j]? = some g → p g = false) → place p l = none
  | [], _ => rfl
  | x :: r, hl => by
    have h0 : p x = false := hl 0 x rfl
    rw [place, if_neg (by simp [h0]), place_miss (l := r) (fun j g hg => hl (j + 1) g (by rw [List.getElem?_cons_succ]; exact hg))]
    rfl
/-- none of the first k ones -/
def Miss (p : Fld → Bool) (l : List Fld) (k : Nat) : Prop := ∀ (j : Nat) (g : Fld), j < k → l[j]? = some g → p g = false
theorem Miss.zero (p : Fld → Bool) (l : List Fld) : Miss p l 0 := fun j g h => absurd h (Nat.not_lt_zero j)
theorem Miss.step {p : Fld → Bool} {l : List Fld} {k : Nat} {f : Fld} (h : Miss p l k) (hf : l[k]? = some f) (hp : p f = false) : Miss p l (k + 1) := by
  intro j g hj hg
  by_cases e : j = k
  · subst e
    rw [hf] at hg
    obtain rfl := Option.some.inj hg
    exact hp
  · exact h j g (by omega) hg
theorem Miss.all {p : Fld → Bool} {l : List Fld} {k : Nat} (h : Miss p l k) (hk : l.length ≤ k) : place p l = none :=
  place_miss (fun j g hg => h j g (by have := (List.getElem?_eq_some_iff.1 hg).1; omega) hg)
theorem find_same {all : List Fld} {f : Fld} {k : Nat} (h : place (sameB f) all = some k) : findF all f = (k + 1, true) := by rw [findF, h]
theorem find_name {all : List Fld} {f : Fld} {k : Nat} (h0 : place (sameB f) all = none) (h : place (nameB f) all = some k) : findF all f = (k + 1, false) := by rw [findF, h0, h]
theorem find_none {all : List Fld} {f : Fld} (h0 : place (sameB f) all = none) (h : place (nameB f) all = none) : findF all f = (0, false) := by rw [findF, h0, h]
set_option maxRecDepth 100000 in
set_option maxHeartbeats 8000000 in
theorem rFind_any {w : World} {p : Nat} {A : Option Addr} {n c h : Nat} {l : List Fld} (t : RT w p A n c h l) (hsz : szs l ≤ 65536) (f : Fld) (R1 : Nat) (R2 : Bool) (hR : findF (statL ++ l) f = (R1, R2)) :
    Calls Tryd.prog 58 #[.pointer (some ⟨p, 0, none⟩), .agg #[.string f.n, .string f.v, .bool f.nv]] w fun e w' => e = .returned (.tuple #[.int .i64 (R1 : Int), .bool R2]) ∧ Below w.heap.size w w' := by
  have hn : n ≤ 2048 := by have h1 := len_szs l; have := t.len; omega
  have hlen : (statL ++ l).length = 61 + n := by rw [List.length_append, statL_length, t.len]
  have Ht := Lib.hid t
  have hp := Blk.lt t.at_
  have HR := Lib.hid hR
  have Hlen := Lib.hid hlen
  have hN : ∃ N, 61 + n = N := ⟨_, rfl⟩
  obtain ⟨N, hN⟩ := hN
  have eN : (61 : Int) + (n : Int) = (N : Int) := by omega
  have HN := Lib.hid hN
  have Ht1 : Hid (RT (w.alloc (.cells #[.string f.n, .string f.v, .bool f.nv] 38)) p A n c h l) := t.alloc _
  have Hv1 : Hid (Blk (w.alloc (.cells #[.string f.n, .string f.v, .bool f.nv] 38)) w.heap.size 38 [.string f.n, .string f.v, .bool f.nv]) := Blk.new w 38 [.string f.n, .string f.v, .bool f.nv]
  clear t hsz hR hlen
  go_enter Tryd.func58, Tryd.ntmps58
  go_wp2_with (first
    | (go_at_call 34; (with_reducible refine (rStatics_w _).mono ?_); rintro e w2 ⟨g, rfl, ho2, hg2, hb2⟩; have Ht2 := Lib.hid (Ht1.out.below hb2); have Hv2 := Lib.hid (Hv1.out.below hb2 (Blk.lt Hv1.out)); have Ho2 := Lib.hid ho2; have q0 := Ht2.out.at_.cell 0; simp only [List.getElem?_cons_zero] at q0; have HB2 := Lib.hid (((Below.refl _ _).alloc (Nat.le_refl _) _).trans (hb2.mono (by simp))); have hs2 := hb2.size; have Hg2 := Lib.hid hg2; clear ho2 hg2 hb2)
    | (at_builtin
       refine wpList_append_rd rfl (.tmp 10) (.tmp 14) 28 rfl EF (.slice (some ⟨g, 0, none⟩) 61 61) 61 (fcellsL statL) rfl Ho2.out A n c (fcellsL l) rfl Ht2.out.rd (fcells_one _) (by omega) (by unfold maxLen; omega) hs2 ?_
       intro A6 c6 w6 ho6 hf6 hat
       rw [← fcellsL_append, HN.out] at ho6
       have Ho6 := Lib.hid ho6
       have Hv6 := Lib.hid (Hv2.out.fr hf6 (fun e => by have := Hg2.out; simp [Value.ownBlock] at e this; omega))
       have HB6 := Lib.hid (HB2.out.trans (hf6.below (B := w.heap.size) HB2.out.size (fun i _ e => by have := Hg2.out; simp [Value.ownBlock] at e this; omega)))
       have y0 := Hv6.out.cell 0
       have y1 := Hv6.out.cell 1
       have y2 := Hv6.out.cell 2
       simp only [List.getElem?_cons_zero, List.getElem?_cons_succ] at y0 y1 y2
       clear ho6 hf6 hat))
  go_loopg [7] N (fun gh i w' => ∃ (k q : Nat), gh + k = N ∧ i = .int .i64 (k : Int) ∧ Miss (sameB f) (statL ++ l) k ∧ w' = w6.drewN q)
  case atStart => exact ⟨0, 0, by omega, rfl, Miss.zero _ _, rfl⟩
  case round =>
    obtain ⟨k, q, hk, rfl, hmiss, rfl⟩ := hrel
    have HM := Lib.hid hmiss
    clear hmiss
    cases gk with
    | succ g1 =>
      have hkN : k < N := by omega
      obtain ⟨x, hx⟩ : ∃ x, (statL ++ l)[k]? = some x := ⟨_, List.getElem?_eq_getElem (by rw [Hlen.out, HN.out]; exact hkN)⟩
      obtain ⟨bb, oo, ha6, d0, d1, d2⟩ := rd_fld (Rd.of_own Ho6.out) hx
      subst ha6
      have Hx := Lib.hid hx
      have k1 : (k : Int) < (N : Int) := by omega
      obtain ⟨b1, hb1⟩ : ∃ b1, (x.n.toList == f.n.toList) = b1 := ⟨_, rfl⟩
      obtain ⟨b2, hb2⟩ : ∃ b2, (x.v.toList == f.v.toList) = b2 := ⟨_, rfl⟩
      have hs : sameB f x = (b1 && b2) := by rw [sameB, hb1, hb2]
      have Hs := Lib.hid hs
      clear hx hs
      cases b1
      · go_wp2
        go_quiet (fail)
        go_wp2
        go_roundg g1
        case measure => omega
        case rel => exact ⟨k + 1, _, by omega, by go_num, HM.out.step Hx.out Hs.out, rfl⟩
      · cases b2
        · go_wp2
          go_quiet (fail)
          go_wp2
          go_roundg g1
          case measure => omega
          case rel => exact ⟨k + 1, _, by omega, by go_num, HM.out.step Hx.out Hs.out, rfl⟩
        · have hr : findF (statL ++ l) f = (k + 1, true) := find_same (place_hit Hx.out Hs.out HM.out)
          rw [HR.out] at hr
          injection hr with hr1 hr2
          subst hr1 hr2
          go_wp2
          go_quiet (fail)
          go_wp2
          go_ret2
          exact ⟨by go_num, below_drewN HB6.out _⟩
    | zero =>
      obtain rfl : k = N := by omega
      have hnone : place (sameB f) (statL ++ l) = none := HM.out.all (by rw [Hlen.out, HN.out]; exact Nat.le_refl _)
      have Hnone := Lib.hid hnone
      clear hnone
      go_wp2
      go_loopg [8] k (fun gh i w' => ∃ (m q' : Nat), gh + m = k ∧ i = .int .i64 (m : Int) ∧ Miss (nameB f) (statL ++ l) m ∧ w' = w6.drewN q')
      case atStart => exact ⟨0, q, by omega, rfl, Miss.zero _ _, rfl⟩
      case round =>
        clear HM
        obtain ⟨m, q', hm, rfl, hmiss, rfl⟩ := hrel
        have HM := Lib.hid hmiss
        clear hmiss
        cases gk with
        | succ g1 =>
          have hmN : m < k := by omega
          obtain ⟨x, hx⟩ : ∃ x, (statL ++ l)[m]? = some x := ⟨_, List.getElem?_eq_getElem (by rw [Hlen.out, HN.out]; exact hmN)⟩
          obtain ⟨bb, oo, ha6, d0, d1, d2⟩ := rd_fld (Rd.of_own Ho6.out) hx
          subst ha6
          have Hx := Lib.hid hx
          have k1 : (m : Int) < (k : Int) := by omega
          obtain ⟨b1, hb1⟩ : ∃ b1, (x.n.toList == f.n.toList) = b1 := ⟨_, rfl⟩
          have hs : nameB f x = b1 := by rw [nameB, hb1]
          have Hs := Lib.hid hs
          clear hx hs
          cases b1
          · go_wp2
            go_quiet (fail)
            go_wp2
            go_roundg g1
            case measure => omega
            case rel => exact ⟨m + 1, _, by omega, by go_num, HM.out.step Hx.out Hs.out, rfl⟩
          · have hr : findF (statL ++ l) f = (m + 1, false) := find_name Hnone.out (place_hit Hx.out Hs.out HM.out)
            rw [HR.out] at hr
            injection hr with hr1 hr2
            subst hr1 hr2
            go_wp2
            go_quiet (fail)
            go_wp2
            go_ret2
            exact ⟨by go_num, below_drewN HB6.out _⟩
        | zero =>
          obtain rfl : m = k := by omega
          have hr : findF (statL ++ l) f = (0, false) := find_none Hnone.out (HM.out.all (by rw [Hlen.out, HN.out]; exact Nat.le_refl _))
          rw [HR.out] at hr
          injection hr with hr1 hr2
          subst hr1 hr2
          go_wp2
          go_ret2
          exact ⟨rfl, below_drewN HB6.out _⟩
end Go.Proofs.YtinieljgcenemaaDoor
namespace Go.Proofs.YtinieljgcenemaaDoor
open Go.RowKit Go.Own Go.Tbl
set_option linter.unusedVariables false
/-- two thousand octets of each text at most -/
def smallF (f : Fld) : Fld := ⟨f.n.extract 0 (min f.n.size 2000), f.v.extract 0 (min f.v.size 2000), f.nv⟩
theorem smallF_ok (f : Fld) : fok (smallF f) := by
  constructor
  · show (f.n.extract 0 (min f.n.size 2000)).size ≤ _
    rw [ByteArray.size_extract]
    omega
  · show (f.v.extract 0 (min f.v.size 2000)).size ≤ _
    rw [ByteArray.size_extract]
    omega
theorem smallF_sz (f : Fld) : sz (smallF f) ≤ 4032 := by
  show (f.n.extract 0 (min f.n.size 2000)).size + (f.v.extract 0 (min f.v.size 2000)).size + 32 ≤ _
  rw [ByteArray.size_extract, ByteArray.size_extract]
  omega
end Go.Proofs.YtinieljgcenemaaDoor
namespace Go.Proofs.YtinieljgcenemaaDoor
open Go.RowKit Go.Own Go.Tbl
set_option linter.unusedVariables false
attribute [local go_sem ↓] Go.wp_at_zero Go.wp_at_succ

/-- a field that is none -/
def zf : Fld := ⟨⟨#[]⟩, ⟨#[]⟩, false⟩
/-- the array of the static table -/
def arrL : List Fld := zf :: statL
theorem arrL_length : arrL.length = 62 := rfl
def zeroL : List Fld := List.replicate 62 zf
theorem zeroL_length : zeroL.length = 62 := rfl
theorem zero_arr : (∀ w, (zeroValue 118).run Tryd.prog w = .ok (.agg (fcellsL zeroL).toArray) w) ∧ (Tryd.prog.info? 118).map (·.size) = some 186 := zero_of_info (by kernel_rfl)
theorem fcells_all (l : List Fld) : (fcellsL l).toArray.all (·.oneCell') = true := by
  rw [Array.all_eq_true_iff_forall_mem]
  intro v hv
  exact fcells_one l v (by simpa using hv)
theorem wpList_load_arr {ops : Array Oper} {rest : List Oper} {o : Oper} {a : Act} {w : World} {Q : Exit → Act → World → Prop} (hgd : o.guard = none) (x : Operand) (ho : o.op = .load 118 x)
    (g : Nat) (hx : a.eval x = .pointer (some ⟨g, 0, none⟩)) (l : List Fld) (hl : l.length = 62) (hg : Blk w g 118 (fcellsL l))
    (h : wpList Tryd.prog ops Q rest (a.put o.dst (.agg (fcellsL l).toArray)) w) : wpList Tryd.prog ops Q (o :: rest) a w :=
  wpList_load_row hgd 118 x ho g hx 118 (fcellsL l).toArray (0, 0) _ hg Tryd.underlying118 rfl (by rw [zero_arr.2]; simp [fcellsL_length, hl]) h
theorem wpList_store_arr {ops : Array Oper} {rest : List Oper} {o : Oper} {a : Act} {w : World} {Q : Exit → Act → World → Prop} (hgd : o.guard = none) (x y : Operand) (ho : o.op = .store 118 x y)
    (g : Nat) (hx : a.eval x = .pointer (some ⟨g, 0, none⟩)) (l m : List Fld) (hl : l.length = 62) (hm : m.length = 62) (hy : a.eval y = .agg (fcellsL m).toArray) (hg : Blk w g 118 (fcellsL l))
    (h : ∀ w', Blk w' g 118 (fcellsL m) → Fr (· = g) w w' → wpList Tryd.prog ops Q rest (a.put o.dst undef) w') : wpList Tryd.prog ops Q (o :: rest) a w := by
  refine wpList_store_row hgd 118 x y ho g (fcellsL m).toArray hx hy 118 _ hg (by rw [zero_arr.2]; simp [fcellsL_length, hm]) (by simp [fcellsL_length, hl, hm]) (fcells_all _) ?_
  exact h _ (setRow_heap w g _ _ 118 _ hg) ⟨rfl, rfl, rfl, by simp [World.setRow], fun k _ hk => setRow_other w g k _ hk⟩
theorem results_arr {tmps : Array Value} {w : World} {g : Nat} {l : List Fld} (hl : l.length = 62) (hp : tmps.getD 0 undef = .pointer (some ⟨g, 0, none⟩)) (hb : Blk w g 118 (fcellsL l)) : (results Tryd.f81 tmps).run Tryd.prog w = .ok (.agg (fcellsL l).toArray) w :=
  results_cell_row (p := 0) (ty := 118) (by kernel_rfl) tmps w g 118 (fcellsL l).toArray (0, 0) _ hp hb Tryd.underlying118 rfl (by rw [zero_arr.2]; simp [fcellsL_length, hl])
theorem wpList_buildArr {ops : Array Oper} {rest : List Oper} {o : Oper} {a : Act} {w : World} {Q : Exit → Act → World → Prop} (hg : o.guard = none) (parts : Array (Nat × Operand)) (ho : o.op = .build 118 parts) (v : Array Value)
    (hf : Tryd.prog.built 118 (parts.map fun (i, x) => (i, a.eval x)).toList = some v)
    (h : wpList Tryd.prog ops Q rest (a.put o.dst (.agg v)) w) : wpList Tryd.prog ops Q (o :: rest) a w := by
  refine wpList_plain hg fun _ hK => ?_
  unfold Oper.wp execOp
  simp only [ho, Sem.run_bind, run_build w _ _ _ hf, Result.andThen_ok]
  exact hK _ _ h
/-- here the walk stops -/
def Stop (p : Prop) : Prop := p
theorem stopX {p : Prop} (h : Stop p) : p := h
theorem stop_out {p : Prop} (h : p) : Stop p := h
set_option maxRecDepth 100000 in
set_option maxHeartbeats 4000000 in
theorem statF_any (w : World) : Calls Tryd.prog 81 #[] w fun e w' => e = .returned (.agg (fcellsL arrL).toArray) ∧ Below w.heap.size w w' := by
  have hz := zero_arr.1
  have hb0 : Hid (Blk (w.alloc (.cells (fcellsL zeroL).toArray 118)) w.heap.size 118 (fcellsL zeroL)) := Blk.new w 118 (fcellsL zeroL)
  go_enter Tryd.func81, Tryd.ntmps81
  go_wp2_with (first
    | (refine wpList_build2 rfl _ _ rfl ?_)
    | (refine wpList_build1 rfl _ rfl ?_)
    | (refine wpList_buildArr rfl _ rfl (fcellsL arrL).toArray (by kernel_rfl) ?_; refine stopX ?_))
  refine stop_out ?_
  refine wpList_store_arr rfl _ _ rfl w.heap.size rfl zeroL arrL zeroL_length arrL_length rfl hb0.out ?_
  intro w5 hb5 hf5
  go_wp2
  have hb : Below w.heap.size w w5 := ((Below.refl _ _).alloc (Nat.le_refl _) _).trans (hf5.below (by simp) (fun i _ e => by omega))
  refine bodyPost_ret (v := .agg (fcellsL arrL).toArray) ?_ ?_ ?_
  · refine results_arr (g := w.heap.size) arrL_length ?_ hb5
    kernel_rfl
  · kernel_rfl
  · exact ⟨rfl, hb⟩
end Go.Proofs.YtinieljgcenemaaDoor
namespace Go.Proofs.YtinieljgcenemaaDoor
open Go.RowKit Go.Own Go.Tbl
set_option linter.unusedVariables false
attribute [local go_sem ↓] Go.wp_at_zero Go.wp_at_succ

def i64 (n : Int) : Prop := -9223372036854775808 ≤ n ∧ n ≤ 9223372036854775807
set_option maxRecDepth 100000 in
theorem pSize_c (f : Fld) (hf : fok f) (w : World) : Calls Tryd.prog 55 #[.agg #[.string f.n, .string f.v, .bool f.nv]] w fun e w' => e = .returned (.int .i64 ((sz f : Nat) : Int)) ∧ Below w.heap.size w w' := by
  obtain ⟨h1, h2⟩ := hf
  obtain ⟨a, ha⟩ : ∃ a, f.n.size = a := ⟨_, rfl⟩
  obtain ⟨b, hb⟩ : ∃ b, f.v.size = b := ⟨_, rfl⟩
  have hs : sz f = a + b + 32 := by unfold sz; rw [ha, hb]
  rw [hs]
  rw [ha] at h1
  rw [hb] at h2
  go_enter Tryd.func55, Tryd.ntmps55
  go_wp2
  go_ret
  exact ⟨by simp, (Below.refl _ _).alloc (Nat.le_refl _) _⟩
set_option maxRecDepth 100000 in
theorem rightMax_any (x : Int) (hx : i64 x) (w : World) : Calls Tryd.prog 49 #[.int .i64 x] w fun e w' => e = .returned (.int .i64 ((clampI x : Nat) : Int)) ∧ w' = w := by
  have h : ((clampI x : Nat) : Int) = max 0 (min x 65536) := by
    unfold clampI
    split
    · omega
    · split <;> omega
  rw [h]
  go_enter Tryd.func49, Tryd.ntmps49
  go_wp2
  all_goals
    go_ret
    refine ⟨ret_int ?_, rfl⟩
    first | omega | (simp; omega)
theorem pStatic_cells {k : Nat} {f : Fld} (h : arrL[k]? = some f) {w : World} {g : Nat} (hg : Blk w g 118 (fcellsL arrL)) :
    w.cell? ⟨g, k * 3, none⟩ = some (.string f.n) ∧ w.cell? ⟨g, k * 3 + 1, none⟩ = some (.string f.v) ∧ w.cell? ⟨g, k * 3 + 2, none⟩ = some (.bool f.nv) := by
  obtain ⟨h1, h2, h3⟩ := fcellsL_at h
  exact ⟨(hg.cell _).trans h1, (hg.cell _).trans h2, (hg.cell _).trans h3⟩
set_option maxRecDepth 100000 in
set_option maxHeartbeats 1000000 in
theorem pStatic_no (i : Int) (hi : i64 i) (hin : i < 1 ∨ 61 < i) (w : World) : Calls Tryd.prog 94 #[.int .i64 i] w fun e w' => e = .returned (atV none) ∧ Below w.heap.size w w' := by
  have hcase : i < 1 ∨ (¬ i < 1 ∧ 62 ≤ i) := by omega
  clear hin
  rcases hcase with h1 | ⟨h1, h2⟩
  all_goals
    go_enter Tryd.func94, Tryd.ntmps94
    go_wp2
    refine bodyPost_ret (v := atV none) ?_ rfl ⟨rfl, ?_⟩
    · simp [results, Tryd.results94, go_sem, atV]
    · exact (Below.refl _ _).alloc (Nat.le_refl _) _
set_option maxRecDepth 100000 in
set_option maxHeartbeats 2000000 in
theorem pStatic_yes (k : Nat) (hk : 1 ≤ k) (hk2 : k ≤ 61) (f : Fld) (hf : arrL[k]? = some f) (w : World) : Calls Tryd.prog 94 #[.int .i64 (k : Int)] w fun e w' => e = .returned (atV (some f)) ∧ Below w.heap.size w w' := by
  have hz := zero_arr.1
  have Hf := Lib.hid hf
  have h1 : ¬ (k : Int) < 1 := by omega
  have h2 : ¬ 62 ≤ (k : Int) := by omega
  have h3 : k < 62 := by omega
  have V0 : Hid (Blk (w.alloc (.cells #[.string ⟨#[]⟩, .string ⟨#[]⟩, .bool false] 38)) w.heap.size 38 [.string ⟨#[]⟩, .string ⟨#[]⟩, .bool false]) := Blk.new w 38 [.string ⟨#[]⟩, .string ⟨#[]⟩, .bool false]
  clear hf
  go_enter Tryd.func94, Tryd.ntmps94
  go_wp2_with (first
    | (go_at_call 81; (with_reducible refine (statF_any _).mono ?_); rintro e w1 ⟨rfl, b1⟩
       have B1 := Lib.hid (((Below.refl w.heap.size w).alloc (Nat.le_refl _) _).trans (b1.mono (by simp)))
       have V1 := Lib.hid ((V0.out.below b1 (by simp)).alloc (.cells (fcellsL zeroL).toArray 118))
       have X1 := Lib.hid (Blk.new w1 118 (fcellsL zeroL))
       have hlt : w.heap.size < w1.heap.size := by have := b1.size; simp at this; omega
       clear b1)
    | (refine wpList_store_arr (o := ⟨_, .store 118 _ _, _, _, _, _⟩) rfl _ _ rfl w1.heap.size rfl zeroL arrL zeroL_length arrL_length rfl X1.out ?_
       intro w5 hb5 hf5
       have V5 := Lib.hid (V1.out.fr hf5 (by omega))
       have B5 := Lib.hid ((B1.out.alloc B1.out.size (.cells (fcellsL zeroL).toArray 118)).trans (hf5.below (by have := B1.out.size; simp; omega) (fun i _ e => by omega)))
       obtain ⟨c0, c1, c2⟩ := pStatic_cells Hf.out hb5
       have v0 := V5.out.cell 0
       have v1 := V5.out.cell 1
       have v2 := V5.out.cell 2
       have z0 := V5.out.frozen 0
       have z1 := V5.out.frozen 1
       have z2 := V5.out.frozen 2
       simp only [List.getElem?_cons_zero, List.getElem?_cons_succ] at v0 v1 v2
       clear hf5 hb5))
  have H7 : Blk (((w5.setCell ⟨w.heap.size, 0, none⟩ (.string f.n)).setCell ⟨w.heap.size, 1, none⟩ (.string f.v)).setCell ⟨w.heap.size, 2, none⟩ (.bool f.nv)) w.heap.size 38 [.string f.n, .string f.v, .bool f.nv] := ((V5.out.set_ 0 (.string f.n)).set_ 1 (.string f.v)).set_ 2 (.bool f.nv)
  have HB7 : Below w.heap.size w (((w5.setCell ⟨w.heap.size, 0, none⟩ (.string f.n)).setCell ⟨w.heap.size, 1, none⟩ (.string f.v)).setCell ⟨w.heap.size, 2, none⟩ (.bool f.nv)) := ((B5.out.setCell (p := ⟨w.heap.size, 0, none⟩) (Nat.le_refl _) _).setCell (p := ⟨w.heap.size, 1, none⟩) (Nat.le_refl _) _).setCell (p := ⟨w.heap.size, 2, none⟩) (Nat.le_refl _) _
  have r0 := H7.cell 0
  have r1 := H7.cell 1
  have r2 := H7.cell 2
  simp only [List.getElem?_cons_zero, List.getElem?_cons_succ] at r0 r1 r2
  generalize (((w5.setCell ⟨w.heap.size, 0, none⟩ (.string f.n)).setCell ⟨w.heap.size, 1, none⟩ (.string f.v)).setCell ⟨w.heap.size, 2, none⟩ (.bool f.nv)) = w7 at H7 HB7 r0 r1 r2 ⊢
  refine bodyPost_ret (v := atV (some f)) (by simp [results, Tryd.results94, go_sem, r0, r1, r2, atV]) rfl ⟨rfl, HB7⟩
theorem pStatic_c (i : Int) (hi : i64 i) (w : World) : Calls Tryd.prog 94 #[.int .i64 i] w fun e w' => e = .returned (atV (atL statL i)) ∧ Below w.heap.size w w' := by
  by_cases hin : i < 1 ∨ 61 < i
  · have : atL statL i = none := by unfold atL; rw [if_pos (by rw [statL_length]; omega)]
    rw [this]
    exact pStatic_no i hi hin w
  · obtain ⟨k, rfl⟩ : ∃ k : Nat, i = (k : Int) := ⟨i.toNat, by omega⟩
    have hk : k - 1 < statL.length := by rw [statL_length]; omega
    have : atL statL (k : Int) = some statL[k - 1] := by
      unfold atL
      rw [if_neg (by rw [statL_length]; omega), show ((k : Int) - 1).toNat = k - 1 by omega, List.getElem?_eq_getElem hk]
    rw [this]
    refine pStatic_yes k (by omega) (by omega) _ ?_ w
    obtain ⟨j, rfl⟩ : ∃ j, k = j + 1 := ⟨k - 1, by omega⟩
    exact List.getElem?_eq_getElem (l := statL) hk
end Go.Proofs.YtinieljgcenemaaDoor
namespace Go.Own
open Go.RowKit Go.ChangeShapes Go.WideShapes Go.ChangeAt

/-- the cells cs read as a value of type t, d levels down -/
def HoldsT (P : Program) (W : World) : Nat → TypeId → List Value → Prop
  | 0, _, _ => True
  | d + 1, t, cs => match P.underlying t with
    | some (.int k) => ∃ n, cs = [.int k n] ∧ (Lit.int k n).wf = true
    | some .bool => ∃ b, cs = [.bool b]
    | some .string => ∃ s : ByteArray, cs = [.string s] ∧ s.size ≤ 140737488351232
    | some (.slice e) => ∃ (A : Option Addr) (len cap : Nat) (vs : List Value), cs = [.slice A len cap] ∧ len ≤ cap ∧ cap ≤ 9223372036854775807 ∧ cap * P.bytesOf e ≤ 140737488351232 ∧ (0 < P.cellsOf e → Rd W (P.cellsOf e) A len vs) ∧
        ∀ i, i < len → HoldsT P W d e ((vs.drop (i * P.cellsOf e)).take (P.cellsOf e))
    | some (.struct fs) => cs.length = P.cellsOf t ∧ ∀ (i : Nat) (f : Field), fs[i]? = some f → HoldsT P W d f.type ((cs.drop f.offset).take (P.cellsOf f.type))
    | _ => True

theorem weightsAll_mem {H : Type} {P : Program} {e : TypeId} : ∀ {l : List (DataW H)} {d : DataW H}, d ∈ l → ∀ n ∈ d.weights P e, n ∈ DataW.weightsAll P e l
  | x :: r, d, h, n, hn => by
    simp only [DataW.weightsAll, List.mem_append]
    rcases List.mem_cons.1 h with rfl | h
    · exact .inl hn
    · exact .inr (weightsAll_mem h n hn)
theorem add_add (a : Addr) (i j : Nat) : (a.add i).add j = a.add (i + j) := by
  unfold Addr.add
  by_cases hi : i = 0 <;> by_cases hj : j = 0 <;> simp [hi, hj, Nat.add_assoc]
theorem mapM_get {α β : Type} {f : α → Option β} : ∀ {l : List α} {r : List β}, l.mapM f = some r → r.length = l.length ∧ ∀ (i : Nat) (x : α), l[i]? = some x → f x = r[i]?
  | [], r, h => by
    simp at h
    subst h
    simp
  | a :: l, r, h => by
    simp only [List.mapM_cons, Option.pure_def, Option.bind_eq_bind, Option.bind_eq_some_iff, Option.some.injEq] at h
    obtain ⟨b, hb, r', hr, rfl⟩ := h
    obtain ⟨h1, h2⟩ := mapM_get hr
    refine ⟨by simp [h1], fun i x hi => ?_⟩
    cases i with
    | zero => simp at hi; subst hi; simpa using hb
    | succ i => simpa using h2 i x (by simpa using hi)
theorem cells_get {w : World} {a : Addr} {n : Nat} {l : List Value} (h : w.cells? 0 a n = some l) : l.length = n ∧ ∀ j, j < n → w.cell? (a.add j) = l[j]? := by
  simp only [World.cells?, Nat.zero_le, if_true] at h
  obtain ⟨h1, h2⟩ := mapM_get h
  exact ⟨by simpa using h1, fun j hj => h2 j j (by simp [hj])⟩

theorem rd_of_parts {W : World} {a : Addr} {c len : Nat} (hc : 0 < c) (part : Nat → List Value) (h : ∀ i, i < len → W.cells? 0 (a.add (i * c)) c = some (part i)) :
    ∃ vs, Rd W c (some a) len vs ∧ ∀ i, i < len → (vs.drop (i * c)).take c = part i := by
  have hp : ∀ i, i < len → (part i).length = c := fun i hi => (cells_get (h i hi)).1
  have key : ∀ m, m ≤ len → ∃ vs : List Value, vs.length = m * c ∧ (∀ i, i < m → (vs.drop (i * c)).take c = part i) ∧ ∀ j u, vs[j]? = some u → W.cell? (a.add j) = some u := by
    intro m
    induction m with
    | zero => intro _; exact ⟨[], by simp, fun i hi => by omega, fun j u hu => by simp at hu⟩
    | succ m ih =>
      intro hm
      obtain ⟨vs, h1, h2, h3⟩ := ih (by omega)
      have hlen := hp m (by omega)
      refine ⟨vs ++ part m, by rw [List.length_append, h1, hlen, Nat.succ_mul], fun i hi => ?_, fun j u hu => ?_⟩
      · rcases Nat.lt_or_ge i m with hlt | hge
        · have hb : i * c + c ≤ vs.length := by rw [h1, ← Nat.succ_mul]; exact Nat.mul_le_mul_right _ hlt
          rw [List.drop_append_of_le_length (by omega), List.take_append_of_le_length (by rw [List.length_drop]; omega)]
          exact h2 i hlt
        · obtain rfl : i = m := by omega
          rw [List.drop_append, List.drop_of_length_le (by omega), h1, Nat.sub_self, List.drop_zero, List.nil_append, List.take_of_length_le (by omega)]
      · rcases Nat.lt_or_ge j vs.length with hlt | hge
        · rw [List.getElem?_append_left hlt] at hu
          exact h3 j u hu
        · rw [List.getElem?_append_right hge] at hu
          have hj : j - vs.length < c := by
            rcases Nat.lt_or_ge (j - vs.length) c with hx | hx
            · exact hx
            · rw [List.getElem?_eq_none (by omega)] at hu; cases hu
          have := (cells_get (h m (by omega))).2 (j - vs.length) hj
          rw [add_add, hu] at this
          rw [← this]
          congr 2
          omega
  obtain ⟨vs, h1, h2, h3⟩ := key len (Nat.le_refl _)
  refine ⟨vs, ⟨h1, fun hn => ?_⟩, h2⟩
  have hl0 : 0 < vs.length := by rw [h1]; exact Nat.mul_pos hn hc
  have h0 := h3 0 vs[0] (List.getElem?_eq_getElem hl0)
  obtain ⟨b, o, spot⟩ := a
  have hspot : spot = none := by simpa [Addr.add] using World.cell?_spot h0
  subst hspot
  exact ⟨b, o, rfl, fun j u hu => by have := h3 j u hu; rwa [add_plain] at this⟩

theorem holdsT_of_trod {H : Type} {enc : TypeId × Value → H} {P : Program} {W : World} : ∀ (d : Nat) {t : TypeId} {cs : List Value} {fuel : Nat} {x : DataW H × List MemPlace},
    DataW.trod enc P W 0 (fun _ => true) true fuel t cs = some x → (∀ n ∈ x.1.weights P t, n ≤ reachBytes) → HoldsT P W d t cs
  | 0, _, _, _, _, _, _ => trivial
  | d + 1, t, cs, fuel, x, h, hw => by
    unfold HoldsT
    split
    · rename_i k ht
      obtain ⟨n, rfl, _, hn⟩ := DataW.trod_int ht h
      exact ⟨n, rfl, hn⟩
    · rename_i ht
      obtain ⟨b, rfl, _⟩ := DataW.trod_bool ht h
      exact ⟨b, rfl⟩
    · rename_i ht
      obtain ⟨s, rfl, rfl, hs⟩ := DataW.trod_string ht h
      refine ⟨s, rfl, ?_⟩
      have := hw s.data.toList.length (by simp [DataW.weights])
      simp only [reachBytes] at this
      have e : s.data.toList.length = s.size := by rw [Array.length_toList]; rfl
      omega
    · rename_i e ht
      rcases DataW.trod_slice ht h with ⟨rfl, rfl⟩ | ⟨a, len, cap, elems, rest, n, rfl, rfl, rfl, _, hl, hm, hel, hparts, hrest, _⟩
      · exact ⟨none, 0, 0, [], rfl, Nat.le_refl _, by omega, by omega, fun _ => Rd.nil _ _ _, fun i hi => by omega⟩
      · obtain ⟨hr1, _⟩ := hrest rfl
        have hsz := hw ((elems.length + rest.length) * P.bytesOf e) (by simp [DataW.weights, ht])
        simp only [reachBytes] at hsz
        have hcap : elems.length + rest.length = cap := by omega
        rw [hcap] at hsz
        have hpart : ∀ i, i < len → ∃ p y, W.cells? 0 (a.add (i * P.cellsOf e)) (P.cellsOf e) = some p ∧ elems[i]? = some y ∧ DataW.trod enc P W 0 (fun _ => true) true n e p = some y := by
          intro i hi
          have hy : elems[i]? = some elems[i] := List.getElem?_eq_getElem (by omega)
          have := hparts i hi
          rw [hy, Option.bind_eq_some_iff] at this
          obtain ⟨p, hp, hd⟩ := this
          exact ⟨p, _, hp, hy, hd⟩
        let part : Nat → List Value := fun i => (W.cells? 0 (a.add (i * P.cellsOf e)) (P.cellsOf e)).getD []
        have hp : ∀ i, i < len → W.cells? 0 (a.add (i * P.cellsOf e)) (P.cellsOf e) = some (part i) := fun i hi => by
          obtain ⟨p, _, hp, _⟩ := hpart i hi
          simp only [part, hp, Option.getD_some]
        have each : ∀ i, i < len → HoldsT P W d e (part i) := fun i hi => by
          obtain ⟨p, y, hp', hy, hd⟩ := hpart i hi
          have hpe : part i = p := by simp only [part, hp', Option.getD_some]
          rw [hpe]
          refine holdsT_of_trod d hd (fun m hm' => hw m ?_)
          simp only [DataW.weights, ht, List.mem_cons, List.mem_append]
          exact .inr (.inl (weightsAll_mem (List.mem_map.2 ⟨y, List.mem_of_getElem? hy, rfl⟩) m hm'))
        rcases Nat.eq_zero_or_pos (P.cellsOf e) with hc | hc
        · refine ⟨some a, len, cap, [], rfl, hl, by unfold maxLen at hm; omega, hsz, fun h => by omega, fun i hi => ?_⟩
          have := each i hi
          have hl0 := (cells_get (hp i hi)).1
          have e0 : part i = [] := List.eq_nil_of_length_eq_zero (by omega)
          rw [e0] at this
          simpa [hc] using this
        · obtain ⟨vs, hrd, hvs⟩ := rd_of_parts hc part hp
          exact ⟨some a, len, cap, vs, rfl, hl, by unfold maxLen at hm; omega, hsz, fun _ => hrd, fun i hi => by rw [hvs i hi]; exact each i hi⟩
    · rename_i fs ht
      obtain ⟨xs, n, rfl, rfl, hlen, hxs, hf⟩ := DataW.trod_struct ht h
      refine ⟨hlen, fun i f hif => ?_⟩
      have hi : i < fs.size := (Array.getElem?_eq_some_iff.1 hif).1
      have hx : xs[i]? = some xs[i] := List.getElem?_eq_getElem (by omega)
      have hd := hf i f hif
      rw [hx] at hd
      refine holdsT_of_trod d hd (fun m hm => hw m ?_)
      simp only [DataW.weights, ht]
      exact DataW.weights_mem_each (j := i) (t := f.type) (d := xs[i].1) (by simp [List.getElem?_map, hif]) (by simp [hx]) m hm
    · trivial

section
variable {P : Program} {W : World} {d : Nat} {t e : TypeId}
theorem weights_of {H : Type} {ts : List TypeId} {ds : List (DataW H)} (h : (DataW.weightsEach P ts ds).all (· ≤ reachBytes) = true) {j : Nat} {x : DataW H} (ht : ts[j]? = some t) (hd : ds[j]? = some x) : ∀ n ∈ x.weights P t, n ≤ reachBytes := fun n hn => by
  have := List.all_eq_true.1 h _ (DataW.weights_mem_each ht hd n hn)
  simpa using this
/-- an argument that is a slice -/
theorem opened_slice {H : Type} {enc : TypeId × Value → H} {base : Nat} {v : Value} {x : DataW H} {ps : List MemPlace} (dep : Nat) (ht : P.underlying t = some (.slice e)) (hv : Value.okWide P W .any base t v)
    (h : DataW.Trod enc P W 0 (fun _ => true) true t v x ps) (hw : ∀ n ∈ x.weights P t, n ≤ reachBytes) : ∃ A len cap, v = .slice A len cap ∧ HoldsT P W dep t [.slice A len cap] := by
  obtain ⟨A, len, cap, rfl⟩ := okWide_slice ht hv
  obtain ⟨fuel, hf⟩ := h
  exact ⟨A, len, cap, rfl, holdsT_of_trod dep (by simpa [Value.cells] using hf) hw⟩
theorem HoldsT.slice {A : Option Addr} {len cap : Nat} (ht : P.underlying t = some (.slice e)) (h : HoldsT P W (d + 1) t [.slice A len cap]) :
    len ≤ cap ∧ cap ≤ 9223372036854775807 ∧ cap * P.bytesOf e ≤ 140737488351232 ∧ ∃ vs, (0 < P.cellsOf e → Rd W (P.cellsOf e) A len vs) ∧ ∀ i, i < len → HoldsT P W d e ((vs.drop (i * P.cellsOf e)).take (P.cellsOf e)) := by
  unfold HoldsT at h
  rw [ht] at h
  obtain ⟨A', len', cap', vs, e1, h1, h2, h3, h4, h5⟩ := h
  simp only [List.cons.injEq, Value.slice.injEq, and_true] at e1
  obtain ⟨rfl, rfl, rfl⟩ := e1
  exact ⟨h1, h2, h3, vs, h4, h5⟩
/-- one element of one cell -/
theorem HoldsT.at_ {A : Option Addr} {len cap k : Nat} (ht : P.underlying t = some (.slice e)) (hc : P.cellsOf e = 1) (h : HoldsT P W (d + 1) t [.slice A len cap]) (hk : k < len) :
    ∃ b o v, A = some ⟨b, o, none⟩ ∧ W.cell? ⟨b, o + k, none⟩ = some v ∧ HoldsT P W d e [v] := by
  obtain ⟨_, _, _, vs, hr, hv⟩ := h.slice ht
  rw [hc] at hr
  obtain ⟨b, o, u, hA, hu, hcell⟩ := (hr (by omega)).at_ hk
  refine ⟨b, o, u, hA, hcell, ?_⟩
  have := hv k hk
  rw [hc, Nat.mul_one] at this
  have hlt : k < vs.length := by
    rcases Nat.lt_or_ge k vs.length with hx | hx
    · exact hx
    · rw [List.getElem?_eq_none hx] at hu; cases hu
  rw [List.drop_eq_getElem_cons hlt, List.take_succ_cons, List.take_zero] at this
  rw [List.getElem?_eq_getElem hlt] at hu
  cases hu
  exact this
theorem HoldsT.int {k : IntKind} {v : Value} (ht : P.underlying t = some (.int k)) (h : HoldsT P W (d + 1) t [v]) : ∃ n, v = .int k n ∧ (Lit.int k n).wf = true := by
  unfold HoldsT at h
  rw [ht] at h
  obtain ⟨n, e1, hn⟩ := h
  exact ⟨n, by simpa using e1, hn⟩
theorem HoldsT.bool {v : Value} (ht : P.underlying t = some .bool) (h : HoldsT P W (d + 1) t [v]) : ∃ b, v = .bool b := by
  unfold HoldsT at h
  rw [ht] at h
  obtain ⟨n, e1⟩ := h
  exact ⟨n, by simpa using e1⟩
theorem HoldsT.string {v : Value} (ht : P.underlying t = some .string) (h : HoldsT P W (d + 1) t [v]) : ∃ s : ByteArray, v = .string s ∧ s.size ≤ 140737488351232 := by
  unfold HoldsT at h
  rw [ht] at h
  obtain ⟨n, e1, hn⟩ := h
  exact ⟨n, by simpa using e1, hn⟩
theorem HoldsT.isSlice {v : Value} (ht : P.underlying t = some (.slice e)) (h : HoldsT P W (d + 1) t [v]) : ∃ A len cap, v = .slice A len cap := by
  unfold HoldsT at h
  rw [ht] at h
  obtain ⟨A, len, cap, _, e1, _⟩ := h
  exact ⟨A, len, cap, by simpa using e1⟩
/-- a slice of bytes -/
theorem HoldsT.bytes {A : Option Addr} {len cap : Nat} (ht : P.underlying t = some (.slice e)) (he : P.underlying e = some (.int .u8)) (hc : P.cellsOf e = 1) (h : HoldsT P W (d + 2) t [.slice A len cap]) :
    ∃ xs : List UInt8, Rd W 1 A len (xs.map BV) := by
  obtain ⟨_, _, _, vs, hr, hv⟩ := HoldsT.slice (d := d + 1) ht h
  rw [hc] at hr hv
  have hrd := hr (by omega)
  have hl : vs.length = len := by simpa using hrd.1
  have each : ∀ v ∈ vs, ∃ n, v = .int .u8 n ∧ (Lit.int .u8 n).wf = true := by
    intro v hm
    obtain ⟨i, hi, rfl⟩ := List.getElem_of_mem hm
    have := hv i (by omega)
    rw [Nat.mul_one, List.drop_eq_getElem_cons hi, List.take_succ_cons, List.take_zero] at this
    exact HoldsT.int he this
  have hb : ∀ (l : List Value), (∀ v ∈ l, ∃ n, v = .int .u8 n ∧ (Lit.int .u8 n).wf = true) → ∃ xs : List UInt8, l = xs.map BV := by
    intro l
    induction l with
    | nil => intro _; exact ⟨[], rfl⟩
    | cons v l ih =>
      intro hall
      obtain ⟨xs, rfl⟩ := ih (fun u hu => hall u (List.mem_cons_of_mem _ hu))
      obtain ⟨n, rfl, hn⟩ := hall v List.mem_cons_self
      refine ⟨UInt8.ofNat n.toNat :: xs, ?_⟩
      have hbd : 0 ≤ n ∧ n ≤ 255 := by simpa [Lit.wf, IntKind.min, IntKind.max, IntKind.signed, IntKind.bits] using hn
      rw [List.map_cons]
      congr 1
      simp only [BV]
      congr 1
      simp
      omega
  obtain ⟨xs, rfl⟩ := hb vs each
  exact ⟨xs, hrd⟩
end
end Go.Own
namespace Go.Own
open Go.RowKit
theorem HoldsT.struct_ {P : Program} {W : World} {d : Nat} {t : TypeId} {cs : List Value} {fs : Array Field} (ht : P.underlying t = some (.struct fs)) (h : HoldsT P W (d + 1) t cs) :
    cs.length = P.cellsOf t ∧ ∀ (i : Nat) (f : Field), fs[i]? = some f → HoldsT P W d f.type ((cs.drop f.offset).take (P.cellsOf f.type)) := by
  unfold HoldsT at h
  rw [ht] at h
  exact h
/-- cells in pieces of c, each the cells of some x -/
theorem pieces {α : Type} {cells : α → List Value} {all : List α → List Value} (h0 : all [] = []) (h1 : ∀ x l, all (x :: l) = cells x ++ all l) {ok : α → Prop} {c : Nat} (hc : ∀ x, (cells x).length = c) :
    ∀ (n : Nat) (vs : List Value), vs.length = n * c → (∀ i, i < n → ∃ x, (vs.drop (i * c)).take c = cells x ∧ ok x) → ∃ l : List α, vs = all l ∧ l.length = n ∧ ∀ x ∈ l, ok x
  | 0, vs, hl, _ => ⟨[], by rw [h0]; exact List.eq_nil_of_length_eq_zero (by omega), rfl, by simp⟩
  | n + 1, vs, hl, h => by
    obtain ⟨x, hx, ox⟩ := h 0 (by omega)
    rw [Nat.zero_mul, List.drop_zero] at hx
    obtain ⟨l, e, hll, ol⟩ := pieces h0 h1 hc n (vs.drop c) (by rw [List.length_drop, hl, Nat.succ_mul]; omega) (fun i hi => by
      obtain ⟨y, hy, oy⟩ := h (i + 1) (by omega)
      refine ⟨y, ?_, oy⟩
      rw [List.drop_drop, ← hy, Nat.succ_mul, Nat.add_comm c])
    refine ⟨x :: l, ?_, by simp [hll], ?_⟩
    · rw [h1, ← e, ← hx, List.take_append_drop]
    · intro y hy
      rcases List.mem_cons.1 hy with rfl | hy
      · exact ox
      · exact ol y hy
end Go.Own
namespace Go.Proofs.YtinieljgcenemaaDoor
open Go.RowKit Go.Own Go.Tbl
set_option linter.unusedVariables false
set_option maxRecDepth 100000

theorem cellsField : Tryd.prog.cellsOf 38 = 3 := by kernel_rfl
theorem cellsStr : Tryd.prog.cellsOf 9 = 1 := by kernel_rfl
theorem cellsBool : Tryd.prog.cellsOf 4 = 1 := by kernel_rfl
theorem cellsInt : Tryd.prog.cellsOf 3 = 1 := by kernel_rfl
theorem fld_of {W : World} {d : Nat} {cs : List Value} (h : HoldsT Tryd.prog W (d + 2) 38 cs) : ∃ f : Fld, cs = fcells f ∧ fok f := by
  obtain ⟨hl, hf⟩ := HoldsT.struct_ (d := d + 1) Tryd.underlying38 h
  rw [cellsField] at hl
  match cs, hl with
  | [x, y, z], _ =>
    have f0 := hf 0 _ rfl
    have f1 := hf 1 _ rfl
    have f2 := hf 2 _ rfl
    simp only [List.getElem_toArray, List.getElem_cons_zero, List.getElem_cons_succ, cellsStr, cellsBool, List.drop_zero, List.drop_succ_cons, List.take_succ_cons, List.take_zero] at f0 f1 f2
    obtain ⟨n, rfl, hn⟩ := HoldsT.string Tryd.underlying9 f0
    obtain ⟨v, rfl, hv⟩ := HoldsT.string Tryd.underlying9 f1
    obtain ⟨b, rfl⟩ := HoldsT.bool Tryd.underlying4 f2
    exact ⟨⟨n, v, b⟩, rfl, ⟨by show n.size ≤ _; omega, by show v.size ≤ _; omega⟩⟩
/-- a slice of fields -/
theorem flds_of {W : World} {d : Nat} {A : Option Addr} {n c : Nat} (h : HoldsT Tryd.prog W (d + 3) 28 [.slice A n c]) : n ≤ c ∧ c ≤ 9223372036854775807 ∧ ∃ l : List Fld, Rd W 3 A n (fcellsL l) ∧ l.length = n ∧ ∀ f ∈ l, fok f := by
  obtain ⟨h1, h2, _, vs, hr, hv⟩ := HoldsT.slice (d := d + 2) Tryd.underlying28 h
  rw [cellsField] at hr hv
  have hrd := hr (by omega)
  obtain ⟨l, rfl, hl, ho⟩ := pieces (cells := fcells) (all := fcellsL) (ok := fok) (c := 3) rfl (fun _ _ => rfl) (fun _ => rfl) n vs hrd.1 (fun i hi => fld_of (hv i hi))
  exact ⟨h1, h2, l, hrd, hl, ho⟩

/-- a step -/
structure Opp where
  kind : Int
  n : Int
  f : Fld
def opcells (o : Opp) : List Value := [.int .i64 o.kind, .int .i64 o.n, .string o.f.n, .string o.f.v, .bool o.f.nv]
def opcellsL : List Opp → List Value
  | [] => []
  | o :: r => opcells o ++ opcellsL r
def ook (o : Opp) : Prop := i64 o.kind ∧ i64 o.n ∧ fok o.f
theorem i64_of {n : Int} (h : (Lit.int .i64 n).wf = true) : i64 n := by
  simpa [i64, Lit.wf, IntKind.min, IntKind.max, IntKind.signed, IntKind.bits] using h
theorem opcellsL_at {l : List Opp} {k : Nat} {o : Opp} (h : l[k]? = some o) : ∀ j, j < 5 → (opcellsL l)[k * 5 + j]? = (opcells o)[j]? := by
  induction l generalizing k with
  | nil => simp at h
  | cons g r ih =>
    intro j hj
    cases k with
    | zero =>
      rw [List.getElem?_cons_zero] at h
      obtain rfl := Option.some.inj h
      rw [opcellsL, Nat.zero_mul, Nat.zero_add, List.getElem?_append_left (by simp [opcells]; omega)]
    | succ k =>
      rw [List.getElem?_cons_succ] at h
      rw [← ih h j hj, opcellsL, List.getElem?_append_right (by simp [opcells]; omega)]
      congr 1
      simp [opcells]
      omega
theorem opcellsL_length (l : List Opp) : (opcellsL l).length = l.length * 5 := by
  induction l with
  | nil => rfl
  | cons f r ih => rw [opcellsL, List.length_append, ih]; simp [opcells]; omega
/-- the cells of step k -/
theorem rd_op {w : World} {A : Option Addr} {n k : Nat} {l : List Opp} {o : Opp} (h : Rd w 5 A n (opcellsL l)) (hk : l[k]? = some o) :
    ∃ b s, A = some ⟨b, s, none⟩ ∧ w.cell? ⟨b, s + k * 5, none⟩ = some (.int .i64 o.kind) ∧ w.cell? ⟨b, s + k * 5 + 1, none⟩ = some (.int .i64 o.n) ∧ w.cell? ⟨b, s + k * 5 + 2, none⟩ = some (.string o.f.n) ∧ w.cell? ⟨b, s + k * 5 + 3, none⟩ = some (.string o.f.v) ∧ w.cell? ⟨b, s + k * 5 + 4, none⟩ = some (.bool o.f.nv) := by
  have hl : l.length = n := by have := h.1; rw [opcellsL_length] at this; omega
  have hkl : k < l.length := (List.getElem?_eq_some_iff.1 hk).1
  obtain ⟨b, s, rfl, hc⟩ := h.2 (by omega)
  have g := opcellsL_at hk
  refine ⟨b, s, rfl, hc _ _ (g 0 (by omega)), ?_, ?_, ?_, ?_⟩
  · rw [Nat.add_assoc]; exact hc _ _ (g 1 (by omega))
  · rw [Nat.add_assoc]; exact hc _ _ (g 2 (by omega))
  · rw [Nat.add_assoc]; exact hc _ _ (g 3 (by omega))
  · rw [Nat.add_assoc]; exact hc _ _ (g 4 (by omega))
section
open Go.ChangeShapes Go.WideShapes Go.ChangeAt
/-- an argument that is a field -/
theorem opened_fld {H : Type} {enc : TypeId × Value → H} {W : World} {base : Nat} {v : Value} {x : DataW H} {ps : List MemPlace} (hv : Value.okWide Tryd.prog W .any base 38 v)
    (h : DataW.Trod enc Tryd.prog W 0 (fun _ => true) true 38 v x ps) (hw : ∀ n ∈ x.weights Tryd.prog 38, n ≤ reachBytes) : ∃ f : Fld, v = .agg #[.string f.n, .string f.v, .bool f.nv] ∧ fok f := by
  obtain ⟨cs, rfl, _⟩ := okWide_struct Tryd.underlying38 hv
  obtain ⟨fuel, hf⟩ := h
  obtain ⟨f, hc, ho⟩ := fld_of (d := 1) (holdsT_of_trod 3 (by simpa [Value.cells] using hf) hw)
  refine ⟨f, ?_, ho⟩
  congr 1
  exact Array.toList_inj.1 hc
/-- a slice of fields that came in -/
structure FldsIn (W : World) (A : Option Addr) (n c : Nat) (l : List Fld) : Prop where
  nc : n ≤ c
  cm : c ≤ 9223372036854775807
  rd : Rd W 3 A n (fcellsL l)
  len : l.length = n
  ok : ∀ f ∈ l, fok f
structure OpsIn (W : World) (A : Option Addr) (n c : Nat) (l : List Opp) : Prop where
  nc : n ≤ c
  cm : c ≤ 9223372036854775807
  rd : Rd W 5 A n (opcellsL l)
  len : l.length = n
  ok : ∀ o ∈ l, ook o
theorem opened_flds {H : Type} {enc : TypeId × Value → H} {W : World} {base : Nat} {v : Value} {x : DataW H} {ps : List MemPlace} (hv : Value.okWide Tryd.prog W .any base 28 v)
    (h : DataW.Trod enc Tryd.prog W 0 (fun _ => true) true 28 v x ps) (hw : ∀ n ∈ x.weights Tryd.prog 28, n ≤ reachBytes) : ∃ A n c l, v = .slice A n c ∧ FldsIn W A n c l := by
  obtain ⟨A, n, c, rfl, hs⟩ := opened_slice 4 Tryd.underlying28 hv h hw
  obtain ⟨h1, h2, l, h3, h4, h5⟩ := flds_of (d := 1) hs
  exact ⟨A, n, c, l, rfl, h1, h2, h3, h4, h5⟩
end
end Go.Proofs.YtinieljgcenemaaDoor
namespace Go.Proofs.YtinieljgcenemaaDoor
open Go.RowKit Go.Own Go.Tbl
set_option linter.unusedVariables false
attribute [local go_sem ↓] Go.wp_at_zero Go.wp_at_succ

/-- the program's table: its block, its slice, its Max, its entries -/
structure PTx (w : World) (p : Nat) (A : Option Addr) (n c h : Nat) (l : List Fld) : Prop where
  at_ : Blk w p 86 [.slice A n c, .int .i64 ((szs l : Nat) : Int), .int .i64 (h : Int)]
  own : w.ownsRow 0 38 3 (.slice A n c) n (fcellsL l)
  ok : ∀ f ∈ l, fok f ∧ f.nv = false
  small : szs l ≤ 65536
  top : h ≤ 65536
section
variable {w w' : World} {p : Nat} {A : Option Addr} {n c h : Nat} {l : List Fld}
theorem PTx.len (t : PTx w p A n c h l) : l.length = n := by
  have := t.own.1
  rw [fcellsL_length] at this
  omega
theorem PTx.n_small (t : PTx w p A n c h l) : n ≤ 2048 := by
  have h1 := len_szs l
  have h2 := t.small
  have h3 := t.len
  omega
theorem PTx.ne (t : PTx w p A n c h l) : ∀ a, A = some a → a.block ≠ p := by
  intro a ha e
  refine own_ne_blk t.own t.at_ (by decide) ?_
  rw [ha]
  simp [Value.ownBlock, e]
theorem PTx.lt (t : PTx w p A n c h l) : ∀ a, A = some a → a.block < w.heap.size := fun a ha => (t.own.lt a.block (by rw [ha]; rfl)).2
theorem PTx.fr {S : Nat → Prop} (t : PTx w p A n c h l) (hf : Fr S w w') (h1 : ¬ S p) (h2 : ∀ a, A = some a → ¬ S a.block) : PTx w' p A n c h l :=
  ⟨t.at_.fr hf h1, own_fr t.own hf (fun g hg => by
    cases A with
    | none => simp [Value.ownBlock] at hg
    | some a => simp [Value.ownBlock] at hg; subst hg; exact h2 a rfl), t.ok, t.small, t.top⟩
theorem PTx.below (t : PTx w p A n c h l) (hb : Below w.heap.size w w') : PTx w' p A n c h l :=
  t.fr (Fr.of_below (S := fun i => w.heap.size ≤ i) hb (fun _ _ h => h)) (by have := Blk.lt t.at_; omega) (fun a ha => by have := t.lt a ha; omega)
theorem PTx.alloc (t : PTx w p A n c h l) (o : Obj) : PTx (w.alloc o) p A n c h l := t.below ((Below.refl _ _).alloc (Nat.le_refl _) _)
theorem PTx.drewN (t : PTx w p A n c h l) (q : Nat) : PTx (w.drewN q) p A n c h l := t.below (below_drewN (Below.refl _ _) q)
theorem PTx.rd (t : PTx w p A n c h l) : Rd w 3 A n (fcellsL l) := Rd.of_own t.own
theorem PTx.cells (t : PTx w p A n c h l) : w.cell? ⟨p, 0, none⟩ = some (.slice A n c) ∧ w.cell? ⟨p, 1, none⟩ = some (.int .i64 ((szs l : Nat) : Int)) ∧ w.cell? ⟨p, 2, none⟩ = some (.int .i64 (h : Int)) :=
  ⟨t.at_.cell 0, t.at_.cell 1, t.at_.cell 2⟩
end
set_option maxRecDepth 100000 in
theorem xTSize_c {w : World} {p : Nat} {A : Option Addr} {n c h : Nat} {l : List Fld} (t : PTx w p A n c h l) : Calls Tryd.prog 43 #[.pointer (some ⟨p, 0, none⟩)] w fun e w' => e = .returned (.int .i64 ((szs l : Nat) : Int)) ∧ w' = w := by
  obtain ⟨c0, c1, c2⟩ := t.cells
  clear t
  go_enter Tryd.func43, Tryd.ntmps43
  go_wp2
  go_ret
  exact ⟨rfl, rfl⟩
set_option maxRecDepth 100000 in
theorem xMax_c {w : World} {p : Nat} {A : Option Addr} {n c h : Nat} {l : List Fld} (t : PTx w p A n c h l) : Calls Tryd.prog 45 #[.pointer (some ⟨p, 0, none⟩)] w fun e w' => e = .returned (.int .i64 (h : Int)) ∧ w' = w := by
  obtain ⟨c0, c1, c2⟩ := t.cells
  clear t
  go_enter Tryd.func45, Tryd.ntmps45
  go_wp2
  go_ret
  exact ⟨rfl, rfl⟩
theorem pStatic_n (i : Int) (hi : i64 i) (w : World) (R : Option Fld) (hR : atL statL i = R) : Calls Tryd.prog 94 #[.int .i64 i] w fun e w' => e = .returned (atV R) ∧ Below w.heap.size w w' := by
  subst hR
  exact pStatic_c i hi w
/-- a field put into a variable of its own -/
theorem putF {w : World} {r : Nat} {x : List Value} (h : Blk w r 38 x) (hx : x.length = 3) (a b : ByteArray) (nv : Bool) :
    Blk (((w.setCell ⟨r, 0, none⟩ (.string a)).setCell ⟨r, 1, none⟩ (.string b)).setCell ⟨r, 2, none⟩ (.bool nv)) r 38 [.string a, .string b, .bool nv] := by
  match x, hx with
  | [x, y, z], _ => exact ((h.set_ 0 (.string a)).set_ 1 (.string b)).set_ 2 (.bool nv)
theorem putB_ {B : Nat} {w0 w : World} {r : Nat} (h : Below B w0 w) (hr : B ≤ r) (a b c : Value) : Below B w0 (((w.setCell ⟨r, 0, none⟩ a).setCell ⟨r, 1, none⟩ b).setCell ⟨r, 2, none⟩ c) :=
  ((h.setCell (p := ⟨r, 0, none⟩) hr _).setCell (p := ⟨r, 1, none⟩) hr _).setCell (p := ⟨r, 2, none⟩) hr _
set_option maxRecDepth 100000 in
set_option maxHeartbeats 2000000 in
theorem xAt_stat {w : World} (p : Nat) (i : Int) (hi : i64 i) (f : Fld) (hf : atL statL i = some f) : Calls Tryd.prog 77 #[.pointer (some ⟨p, 0, none⟩), .int .i64 i] w fun e w' => e = .returned (atV (some f)) ∧ Below w.heap.size w w' := by
  have HR := Lib.hid hf
  have V0 : Hid (Blk (w.alloc (.cells #[.string ⟨#[]⟩, .string ⟨#[]⟩, .bool false] 38)) w.heap.size 38 [.string ⟨#[]⟩, .string ⟨#[]⟩, .bool false]) := Blk.new w 38 [.string ⟨#[]⟩, .string ⟨#[]⟩, .bool false]
  clear hf
  go_enter Tryd.func77, Tryd.ntmps77
  go_wp2_with (first
    | (go_at_call 94; (with_reducible refine (pStatic_n i hi _ _ HR.out).mono ?_); rintro e w3 ⟨rfl, b3⟩; unfold atV
       have B3 := Lib.hid (((Below.refl w.heap.size w).alloc (Nat.le_refl _) _).trans (b3.mono (by simp)))
       have V3 := Lib.hid (V0.out.below b3 (by simp))
       have q0 := V3.out.cell 0
       have q1 := V3.out.cell 1
       have q2 := V3.out.cell 2
       have z0 := V3.out.frozen 0
       have z1 := V3.out.frozen 1
       have z2 := V3.out.frozen 2
       have hlt : w.heap.size < w3.heap.size := by have := b3.size; simp at this; omega
       simp only [List.getElem?_cons_zero, List.getElem?_cons_succ] at q0 q1 q2
       clear b3))
  have H7 := (putF V3.out rfl f.n f.v f.nv).alloc (.cells #[.string f.n, .string f.v, .bool f.nv] 38)
  have HB7 := (putB_ B3.out (Nat.le_refl _) (.string f.n) (.string f.v) (.bool f.nv)).alloc (by simpa using B3.out.size) (.cells #[.string f.n, .string f.v, .bool f.nv] 38)
  have r0 := H7.cell 0
  have r1 := H7.cell 1
  have r2 := H7.cell 2
  simp only [List.getElem?_cons_zero, List.getElem?_cons_succ] at r0 r1 r2
  generalize ((((w3.setCell ⟨w.heap.size, 0, none⟩ (.string f.n)).setCell ⟨w.heap.size, 1, none⟩ (.string f.v)).setCell ⟨w.heap.size, 2, none⟩ (.bool f.nv)).alloc (.cells #[.string f.n, .string f.v, .bool f.nv] 38)) = w7 at H7 HB7 r0 r1 r2 ⊢
  refine bodyPost_ret (v := atV (some f)) (by simp [results, Tryd.results77, go_sem, r0, r1, r2, atV]) rfl ⟨rfl, HB7⟩
set_option maxRecDepth 100000 in
set_option maxHeartbeats 2000000 in
theorem xAt_none {w : World} {p : Nat} {A : Option Addr} {n c h : Nat} {l : List Fld} (t : PTx w p A n c h l) (i : Int) (hi : i64 i) (hin : i < 1 ∨ (61 + n : Nat) < i) : Calls Tryd.prog 77 #[.pointer (some ⟨p, 0, none⟩), .int .i64 i] w fun e w' => e = .returned (atV none) ∧ Below w.heap.size w w' := by
  have hR : atL statL i = none := by unfold atL; rw [if_pos (by rw [statL_length]; omega)]
  have HR := Lib.hid hR
  have hi2 := hi.2
  have T0 := Lib.hid (t.alloc (.cells #[.string ⟨#[]⟩, .string ⟨#[]⟩, .bool false] 38))
  have V0 : Hid (Blk (w.alloc (.cells #[.string ⟨#[]⟩, .string ⟨#[]⟩, .bool false] 38)) w.heap.size 38 [.string ⟨#[]⟩, .string ⟨#[]⟩, .bool false]) := Blk.new w 38 [.string ⟨#[]⟩, .string ⟨#[]⟩, .bool false]
  have hcase : i < 62 ∧ i < 1 ∨ (62 ≤ i ∧ (n : Int) ≤ i - 62) := by omega
  have hns := t.n_small
  have hpl := Blk.lt t.at_
  clear hR t hin
  rcases hcase with ⟨h1, _⟩ | ⟨h1, h2⟩
  all_goals
    go_enter Tryd.func77, Tryd.ntmps77
    go_wp2_with (first
      | (go_at_call 94; (with_reducible refine (pStatic_n i hi _ _ HR.out).mono ?_); rintro e w3 ⟨rfl, b3⟩; unfold atV
         have B3 := Lib.hid (((Below.refl w.heap.size w).alloc (Nat.le_refl _) _).trans (b3.mono (by simp)))
         have V3 := Lib.hid (V0.out.below b3 (by simp))
         have T3 := Lib.hid (T0.out.below b3)
         have q0 := V3.out.cell 0
         have q1 := V3.out.cell 1
         have q2 := V3.out.cell 2
         have z0 := V3.out.frozen 0
         have z1 := V3.out.frozen 1
         have z2 := V3.out.frozen 2
         have t0 := T3.out.at_.cell 0
         have hlt : w.heap.size < w3.heap.size := by have := b3.size; simp at this; omega
         have hpl3 : p < w3.heap.size := Nat.lt_trans hpl hlt
         simp only [List.getElem?_cons_zero, List.getElem?_cons_succ] at q0 q1 q2 t0
         clear b3))
    have H7 := (putF V3.out rfl ⟨#[]⟩ ⟨#[]⟩ false).alloc (.cells #[.string ⟨#[]⟩, .string ⟨#[]⟩, .bool false] 38)
    have HB7 := (putB_ B3.out (Nat.le_refl _) (.string ⟨#[]⟩) (.string ⟨#[]⟩) (.bool false)).alloc (by simpa using B3.out.size) (.cells #[.string ⟨#[]⟩, .string ⟨#[]⟩, .bool false] 38)
    have r0 := H7.cell 0
    have r1 := H7.cell 1
    have r2 := H7.cell 2
    simp only [List.getElem?_cons_zero, List.getElem?_cons_succ] at r0 r1 r2
    generalize ((((w3.setCell ⟨w.heap.size, 0, none⟩ (.string ⟨#[]⟩)).setCell ⟨w.heap.size, 1, none⟩ (.string ⟨#[]⟩)).setCell ⟨w.heap.size, 2, none⟩ (.bool false)).alloc (.cells #[.string ⟨#[]⟩, .string ⟨#[]⟩, .bool false] 38)) = w7 at H7 HB7 r0 r1 r2 ⊢
    refine bodyPost_ret (v := atV none) (by simp [results, Tryd.results77, go_sem, r0, r1, r2, atV]) rfl ⟨rfl, HB7⟩
set_option maxRecDepth 100000 in
set_option maxHeartbeats 2000000 in
theorem xAt_some {w : World} {p : Nat} {A : Option Addr} {n c h : Nat} {l : List Fld} (t : PTx w p A n c h l) (i : Int) (hi : i64 i) (k : Nat) (hk : i - 62 = (k : Int)) (f : Fld) (hf : l[k]? = some f) : Calls Tryd.prog 77 #[.pointer (some ⟨p, 0, none⟩), .int .i64 i] w fun e w' => e = .returned (atV (some f)) ∧ Below w.heap.size w w' := by
  have hR : atL statL i = none := by unfold atL; rw [if_pos (by rw [statL_length]; omega)]
  have HR := Lib.hid hR
  have hi2 := hi.2
  have T0 := Lib.hid (t.alloc (.cells #[.string ⟨#[]⟩, .string ⟨#[]⟩, .bool false] 38))
  have V0 : Hid (Blk (w.alloc (.cells #[.string ⟨#[]⟩, .string ⟨#[]⟩, .bool false] 38)) w.heap.size 38 [.string ⟨#[]⟩, .string ⟨#[]⟩, .bool false]) := Blk.new w 38 [.string ⟨#[]⟩, .string ⟨#[]⟩, .bool false]
  have hkn : k < n := by have := (List.getElem?_eq_some_iff.1 hf).1; have := t.len; omega
  have h1 : ¬ i < 62 := by omega
  have hns := t.n_small
  have hpl := Blk.lt t.at_
  have Hf := Lib.hid hf
  have hA : ∃ b o, A = some ⟨b, o, none⟩ := by obtain ⟨b, o, e, _⟩ := rd_fld t.rd hf; exact ⟨b, o, e⟩
  obtain ⟨b, o, rfl⟩ := hA
  have hk2 : ¬ (n : Int) ≤ (k : Int) := by omega
  have hk3 : decide (n ≤ k) = false := by simp; omega
  have hk4 : (k : Int) < (n : Int) := by omega
  clear hR t hf
  go_enter Tryd.func77, Tryd.ntmps77
  go_wp2_with (first
    | (go_at_call 94; (with_reducible refine (pStatic_n i hi _ _ HR.out).mono ?_); rintro e w3 ⟨rfl, b3⟩; unfold atV
       have B3 := Lib.hid (((Below.refl w.heap.size w).alloc (Nat.le_refl _) _).trans (b3.mono (by simp)))
       have V3 := Lib.hid (V0.out.below b3 (by simp))
       have T3 := Lib.hid (T0.out.below b3)
       obtain ⟨bb, oo, e3, d0, d1, d2⟩ := rd_fld T3.out.rd Hf.out
       cases e3
       have hb3 : b < w3.heap.size := World.block_lt_of_cell? _ _ d0
       have q0 := V3.out.cell 0
       have q1 := V3.out.cell 1
       have q2 := V3.out.cell 2
       have z0 := V3.out.frozen 0
       have z1 := V3.out.frozen 1
       have z2 := V3.out.frozen 2
       have t0 := T3.out.at_.cell 0
       have hlt : w.heap.size < w3.heap.size := by have := b3.size; simp at this; omega
       have hpl3 : p < w3.heap.size := Nat.lt_trans hpl hlt
       simp only [List.getElem?_cons_zero, List.getElem?_cons_succ] at q0 q1 q2 t0
       clear b3))
  have H7 := (putF V3.out rfl f.n f.v f.nv).alloc (.cells #[.string ⟨#[]⟩, .string ⟨#[]⟩, .bool false] 38)
  have HB7 := (putB_ B3.out (Nat.le_refl _) (.string f.n) (.string f.v) (.bool f.nv)).alloc (by simpa using B3.out.size) (.cells #[.string ⟨#[]⟩, .string ⟨#[]⟩, .bool false] 38)
  have r0 := H7.cell 0
  have r1 := H7.cell 1
  have r2 := H7.cell 2
  simp only [List.getElem?_cons_zero, List.getElem?_cons_succ] at r0 r1 r2
  generalize ((((w3.setCell ⟨w.heap.size, 0, none⟩ (.string f.n)).setCell ⟨w.heap.size, 1, none⟩ (.string f.v)).setCell ⟨w.heap.size, 2, none⟩ (.bool f.nv)).alloc (.cells #[.string ⟨#[]⟩, .string ⟨#[]⟩, .bool false] 38)) = w7 at H7 HB7 r0 r1 r2 ⊢
  refine bodyPost_ret (v := atV (some f)) (by simp [results, Tryd.results77, go_sem, r0, r1, r2, atV]) rfl ⟨rfl, HB7⟩
theorem xAt_c {w : World} {p : Nat} {A : Option Addr} {n c h : Nat} {l : List Fld} (t : PTx w p A n c h l) (i : Int) (hi : i64 i) : Calls Tryd.prog 77 #[.pointer (some ⟨p, 0, none⟩), .int .i64 i] w fun e w' => e = .returned (atV (atL (statL ++ l) i)) ∧ Below w.heap.size w w' := by
  have hlen : (statL ++ l).length = 61 + n := by rw [List.length_append, statL_length, t.len]
  by_cases h1 : i < 1 ∨ (61 + n : Nat) < i
  · have : atL (statL ++ l) i = none := by unfold atL; rw [if_pos (by rw [hlen]; omega)]
    rw [this]
    exact xAt_none t i hi h1
  · have hk : (i - 1).toNat < (statL ++ l).length := by rw [hlen]; omega
    have : atL (statL ++ l) i = some (statL ++ l)[(i - 1).toNat] := by
      unfold atL
      rw [if_neg (by rw [hlen]; omega), List.getElem?_eq_getElem hk]
    rw [this]
    by_cases h2 : i ≤ 61
    · refine xAt_stat p i hi _ ?_
      unfold atL
      rw [if_neg (by rw [statL_length]; omega), ← List.getElem?_eq_getElem hk, List.getElem?_append_left (by rw [statL_length]; omega)]
    · refine xAt_some t i hi (i - 62).toNat (by omega) _ ?_
      rw [← List.getElem?_eq_getElem hk, List.getElem?_append_right (by rw [statL_length]; omega)]
      congr 1
      rw [statL_length]
      omega
end Go.Proofs.YtinieljgcenemaaDoor
