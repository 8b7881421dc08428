/- The document's table: SetMax, New. -/
import Derived.Test.YtemgojgkklkmbaaTblF
namespace Go.Proofs.Ytemgojgkklkmbaa
open Go.RowKit Go.Own Go.Tbl
set_option linter.unusedVariables false
attribute [local go_sem ↓] Go.wp_at_zero Go.wp_at_succ

theorem fitL_zero (h : Nat) (l : List Fld) : fitL h 0 l = pre h l := by unfold fitL; rw [if_pos (Nat.zero_le _), Nat.sub_zero]
theorem RT.fr {w w' : World} {p : Nat} {A : Option Addr} {n c h : Nat} {l : List Fld} {S : Nat → Prop} (t : RT w p A n c h l) (hf : Fr S w w') (hp : ¬ S p) (hA : ∀ a, A = some a → ¬ S a.block) : RT w' p A n c h l :=
  ⟨t.at_.fr hf hp, t.rd.fr hf hA, t.nc, t.cm, t.ok⟩
theorem RT.seth {w : World} {p : Nat} {A : Option Addr} {n c h : Nat} {l : List Fld} (t : RT w p A n c h l) (hA : ∀ a, A = some a → a.block ≠ p) (x : Int) (h' : Nat) (hx : x = (h' : Int)) : RT (w.setCell ⟨p, 1, none⟩ (.int .i64 x)) p A n c h' l := by
  subst hx
  exact ⟨t.at_.set_ 1 (.int .i64 (h' : Int)), t.rd.fr ((Fr.refl (· = p) w).setCell (p := ⟨p, 1, none⟩) (.inl rfl) _) (fun a ha h => hA a ha h), t.nc, t.cm, t.ok⟩
set_option maxRecDepth 100000 in
set_option maxHeartbeats 2000000 in
theorem rSetMax_any {w : World} {p : Nat} {A : Option Addr} {n c h : Nat} {l : List Fld} (t : RT w p A n c h l) (hA : ∀ a, A = some a → a.block ≠ p) (hsz : szs l ≤ 4611686018427387904) (x : Int) (h' : Nat) (hx : clampI x = h') :
    Calls Try.prog 20 #[.pointer (some ⟨p, 0, none⟩), .int .i64 x] w fun e w' => ∃ k, e = .returned (.tuple #[]) ∧ RT w' p A k c h' (pre h' l) ∧ Fr (· = p) w w' := by
  have Ht := Lib.hid t
  have HA := Lib.hid hA
  have Hsz := Lib.hid hsz
  have hle : h' ≤ 65536 := by rw [← hx]; exact clampI_le x
  have hle2 : h' ≤ 4611686018427387904 := by omega
  have Hx := Lib.hid hx
  have c1 := t.at_.cell 1
  have f1 := t.at_.frozen 1
  simp only [List.getElem?_cons_zero, List.getElem?_cons_succ] at c1
  have Hend : Hid (fitL h' 0 l = pre h' l) := fitL_zero h' l
  clear t hA hsz hx
  by_cases hneg : x < 0
  · have hx0 : h' = 0 := by rw [← Hx.out]; unfold clampI; rw [if_pos hneg]
    have hng : ¬ (65536 : Int) < x := by omega
    have Ht2 : Hid (RT ((w.setCell ⟨p, 1, none⟩ (.int .i64 x)).setCell ⟨p, 1, none⟩ (.int .i64 0)) p A n c h' l) := by
      have h1 : Blk (w.setCell ⟨p, 1, none⟩ (.int .i64 x)) p 57 [.slice A n c, .int .i64 x] := Ht.out.at_.set_ 1 (.int .i64 x)
      have h2 := h1.set_ 1 (.int .i64 (h' : Int))
      have hf : Fr (· = p) w ((w.setCell ⟨p, 1, none⟩ (.int .i64 x)).setCell ⟨p, 1, none⟩ (.int .i64 (h' : Int))) := ((Fr.refl (· = p) w).setCell (p := ⟨p, 1, none⟩) (.inl rfl) _).setCell (p := ⟨p, 1, none⟩) (.inl rfl) _
      subst hx0
      exact ⟨h2, Ht.out.rd.fr hf (fun a ha h => HA.out a ha h), Ht.out.nc, Ht.out.cm, Ht.out.ok⟩
    have HF2 : Hid (Fr (· = p) w ((w.setCell ⟨p, 1, none⟩ (.int .i64 x)).setCell ⟨p, 1, none⟩ (.int .i64 0))) := ((Fr.refl (· = p) w).setCell (p := ⟨p, 1, none⟩) (.inl rfl) _).setCell (p := ⟨p, 1, none⟩) (.inl rfl) _
    clear hx0
    go_enter Try.func20, Try.ntmps20
    go_wp2_with (first
      | (go_at_call 35; (with_reducible refine (rfit_any Ht2.out HA.out Hsz.out hle2 0 (by omega) 0 rfl).mono ?_); rintro e w5 ⟨k, rfl, h5, hf5⟩; have H5 := Lib.hid h5; have HF5 := Lib.hid (HF2.out.trans hf5 (fun _ _ h => h)); clear h5 hf5))
    go_end0
    exact ⟨k, rfl, Hend.out ▸ H5.out, HF5.out⟩
  · by_cases hbig : (65536 : Int) < x
    · have hx0 : h' = 65536 := by rw [← Hx.out]; unfold clampI; rw [if_neg hneg, if_pos hbig]
      have Ht2 : Hid (RT ((w.setCell ⟨p, 1, none⟩ (.int .i64 x)).setCell ⟨p, 1, none⟩ (.int .i64 65536)) p A n c h' l) := by
        have h1 : Blk (w.setCell ⟨p, 1, none⟩ (.int .i64 x)) p 57 [.slice A n c, .int .i64 x] := Ht.out.at_.set_ 1 (.int .i64 x)
        have h2 := h1.set_ 1 (.int .i64 (h' : Int))
        have hf : Fr (· = p) w ((w.setCell ⟨p, 1, none⟩ (.int .i64 x)).setCell ⟨p, 1, none⟩ (.int .i64 (h' : Int))) := ((Fr.refl (· = p) w).setCell (p := ⟨p, 1, none⟩) (.inl rfl) _).setCell (p := ⟨p, 1, none⟩) (.inl rfl) _
        subst hx0
        exact ⟨h2, Ht.out.rd.fr hf (fun a ha h => HA.out a ha h), Ht.out.nc, Ht.out.cm, Ht.out.ok⟩
      have HF2 : Hid (Fr (· = p) w ((w.setCell ⟨p, 1, none⟩ (.int .i64 x)).setCell ⟨p, 1, none⟩ (.int .i64 65536))) := ((Fr.refl (· = p) w).setCell (p := ⟨p, 1, none⟩) (.inl rfl) _).setCell (p := ⟨p, 1, none⟩) (.inl rfl) _
      clear hx0
      go_enter Try.func20, Try.ntmps20
      go_wp2_with (first
        | (go_at_call 35; (with_reducible refine (rfit_any Ht2.out HA.out Hsz.out hle2 0 (by omega) 0 rfl).mono ?_); rintro e w5 ⟨k, rfl, h5, hf5⟩; have H5 := Lib.hid h5; have HF5 := Lib.hid (HF2.out.trans hf5 (fun _ _ h => h)); clear h5 hf5))
      go_end0
      exact ⟨k, rfl, Hend.out ▸ H5.out, HF5.out⟩
    · have hx0 : x = (h' : Int) := by rw [← Hx.out]; unfold clampI; rw [if_neg hneg, if_neg hbig]; omega
      have Ht2 : Hid (RT (w.setCell ⟨p, 1, none⟩ (.int .i64 x)) p A n c h' l) := Ht.out.seth HA.out x h' hx0
      have HF2 : Hid (Fr (· = p) w (w.setCell ⟨p, 1, none⟩ (.int .i64 x))) := (Fr.refl (· = p) w).setCell (p := ⟨p, 1, none⟩) (.inl rfl) _
      clear hx0
      go_enter Try.func20, Try.ntmps20
      go_wp2_with (first
        | (go_at_call 35; (with_reducible refine (rfit_any Ht2.out HA.out Hsz.out hle2 0 (by omega) 0 rfl).mono ?_); rintro e w5 ⟨k, rfl, h5, hf5⟩; have H5 := Lib.hid h5; have HF5 := Lib.hid (HF2.out.trans hf5 (fun _ _ h => h)); clear h5 hf5))
      go_end0
      exact ⟨k, rfl, Hend.out ▸ H5.out, HF5.out⟩
theorem pre_nil (h : Nat) : pre h [] = [] := rfl
set_option maxRecDepth 100000 in
theorem rNew_any (w : World) (x : Int) (h' : Nat) (hx : clampI x = h') :
    Calls Try.prog 15 #[.int .i64 x] w fun e w' => e = .returned (.pointer (some ⟨w.heap.size, 0, none⟩)) ∧ RT w' w.heap.size none 0 0 h' [] ∧ Below w.heap.size w w' := by
  have Hx := Lib.hid hx
  clear hx
  have Ht : Hid (RT (w.alloc (.cells #[.slice none 0 0, .int .i64 0] 57)) w.heap.size none 0 0 0 []) :=
    ⟨Blk.new w 57 [.slice none 0 0, .int .i64 ((0 : Nat) : Int)], Rd.nil _ _ _, Nat.le_refl _, by omega, by simp⟩
  go_enter Try.func15, Try.ntmps15
  go_wp2_with (first
    | (go_at_call 20; (with_reducible refine (rSetMax_any Ht.out (by simp) (by simp [szs]) x h' Hx.out).mono ?_); rintro e w5 ⟨k, rfl, h5, hf5⟩
       have hk : k = 0 := h5.len.symm
       subst hk
       have H5 := Lib.hid h5
       have HF5 := Lib.hid hf5
       clear h5 hf5))
  go_ret
  exact ⟨rfl, H5.out, ((Below.refl _ _).alloc (Nat.le_refl _) _).trans (HF5.out.below (by simp) (fun i _ e => by omega))⟩
end Go.Proofs.Ytemgojgkklkmbaa
