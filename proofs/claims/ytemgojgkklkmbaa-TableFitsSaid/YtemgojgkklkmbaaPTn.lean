/- The program's table: New, SetMax. -/
import Derived.Test.YtemgojgkklkmbaaPTk
namespace Go.Proofs.Ytemgojgkklkmbaa
open Go.RowKit Go.Own Go.Tbl
set_option linter.unusedVariables false
attribute [local go_sem ↓] Go.wp_at_zero Go.wp_at_succ

theorem rightMax_n (x : Int) (hx : i64 x) (H : Nat) (hH : clampI x = H) (w : World) : Calls Try.prog 32 #[.int .i64 x] w fun e w' => e = .returned (.int .i64 (H : Int)) ∧ w' = w := by
  subst hH
  exact rightMax_any x hx w
def NewP (w : World) (h : Nat) (e : Ending) (w' : World) : Prop := ∃ p, e = .returned (.pointer (some ⟨p, 0, none⟩)) ∧ w.heap.size ≤ p ∧ PTx w' p none 0 0 h [] ∧ Below w.heap.size w w'
set_option maxRecDepth 100000 in
theorem xNew_c (x : Int) (hx : i64 x) (w : World) : Calls Try.prog 14 #[.int .i64 x] w (NewP w (clampI x)) := by
  have hle := clampI_le x
  obtain ⟨H, hH⟩ : ∃ H, clampI x = H := ⟨_, rfl⟩
  rw [hH] at hle ⊢
  have HH := Lib.hid hH
  clear hH
  go_enter Try.func14, Try.ntmps14
  go_wp2_with (first
    | (go_at_call 32; (with_reducible refine (rightMax_n x hx H HH.out _).mono ?_); rintro e w2 ⟨rfl, rfl⟩))
  go_ret
  exact ⟨_, rfl, Nat.le_refl _, ⟨Blk.new _ 55 [.slice none 0 0, .int .i64 0, .int .i64 (H : Int)], World.ownsRow_nil _ _ _ _, by simp, by simp [szs], hle⟩, (Below.refl _ _).alloc (Nat.le_refl _) _⟩
def SetP (w : World) (p : Nat) (A : Option Addr) (c h : Nat) (L : List Fld) (e : Ending) (w' : World) : Prop := ∃ k, e = .returned (.tuple #[]) ∧ PTx w' p A k c h L ∧ Fr (tblS p A) w w'
theorem xshrink_n {w : World} {p : Nat} {A : Option Addr} {n c h : Nat} {l : List Fld} (t : PTx w p A n c h l) (m : Int) (hm : i64 m) (L : List Fld) (hL : shrL m l = L) :
    Calls Try.prog 33 #[.pointer (some ⟨p, 0, none⟩), .int .i64 m] w (ShrP w p A c h L) := by
  subst hL
  exact xshrink_any t m hm
set_option maxRecDepth 100000 in
set_option maxHeartbeats 1000000 in
theorem xSetMax_c {w : World} {p : Nat} {A : Option Addr} {n c h : Nat} {l : List Fld} (t : PTx w p A n c h l) (x : Int) (hx : i64 x) :
    Calls Try.prog 19 #[.pointer (some ⟨p, 0, none⟩), .int .i64 x] w (SetP w p A c (clampI x) (pre (clampI x) l)) := by
  have hle := clampI_le x
  obtain ⟨H, hH⟩ : ∃ H, clampI x = H := ⟨_, rfl⟩
  rw [hH] at hle ⊢
  obtain ⟨L, hL⟩ : ∃ L, pre H l = L := ⟨_, rfl⟩
  rw [hL]
  have hL2 : shrL (H : Int) l = L := by unfold shrL; rw [if_pos (by omega), Int.toNat_natCast, hL]
  have HH := Lib.hid hH
  have HL := Lib.hid hL2
  have hi : i64 (H : Int) := by unfold i64; omega
  obtain ⟨c0, c1, c2⟩ := t.cells
  have z2 := t.at_.frozen 2
  have T2 : Hid (PTx (w.setCell ⟨p, 2, none⟩ (.int .i64 (H : Int))) p A n c H l) :=
    have hf := (Fr.refl (· = p) w).setCell (p := ⟨p, 2, none⟩) (.inl rfl) (.int .i64 (H : Int))
    ⟨t.at_.set_ 2 (.int .i64 (H : Int)), own_fr t.own hf (fun g hg e => own_ne_blk t.own t.at_ (by decide) (by rw [hg, e])), t.ok, t.small, hle⟩
  have F2 : Hid (Fr (tblS p A) w (w.setCell ⟨p, 2, none⟩ (.int .i64 (H : Int)))) := (Fr.refl _ w).setCell (p := ⟨p, 2, none⟩) (.inl (.inl rfl)) _
  obtain ⟨r0, r1, r2⟩ := T2.out.cells
  clear hH hL hL2 t
  go_enter Try.func19, Try.ntmps19
  go_wp2_with (first
    | (go_at_call 32; (with_reducible refine (rightMax_n x hx H HH.out _).mono ?_); rintro e w2 ⟨rfl, rfl⟩)
    | (go_at_call 33; (with_reducible refine (xshrink_n T2.out (H : Int) hi L HL.out).mono ?_); rintro e w3 ⟨k, rfl, h3, hf3⟩; have H3 := Lib.hid h3; have HF3 := Lib.hid (F2.out.trans hf3 (fun _ _ h => h)); clear h3 hf3))
  go_end0
  exact ⟨k, rfl, H3.out, HF3.out⟩
end Go.Proofs.Ytemgojgkklkmbaa
