/- Several texts in one: Fo3. -/
import Derived.Test.YtokbdkbljgdcpaaDoorY4
import Derived.Test.YtokbdkbljgdcpaaDoorY2
/- A frame's head: flagged, unfit; padding. -/
namespace Go.Proofs.YtokbdkbljgdcpaaDoor
open Go.RowKit Go.Own Go.Frm
set_option linter.unusedVariables false
set_option maxRecDepth 100000
/-- the frame as far as the head tells it -/
def flagP (k fl s padN : Nat) : Fm := { kind := k, stream := s, fin := hE k && fl.testBit 0, eh := hH k && fl.testBit 2, ack := withA k fl, prio := withP k fl, pay := [], flags := bif hF k then (fl : Int) else 0, pad := padN, depend := 0, excl := false, weight := 0, code := 0, list := [], last := 0, inc := 0 }
section
variable {w : World}
set_option maxHeartbeats 2000000 in
theorem flagged_any (n k fl s : Nat) : Calls Tryd.prog 62 #[hdV n k fl s] w fun e w' => e = .returned (frV (flagP k fl s 0) (.slice none 0 0) (.slice none 0 0)) ∧ Below w.heap.size w w' := by
  obtain ⟨b0, h0⟩ : ∃ b, (hE k && fl.testBit 0) = b := ⟨_, rfl⟩
  obtain ⟨b1, h1⟩ : ∃ b, (hH k && fl.testBit 2) = b := ⟨_, rfl⟩
  obtain ⟨b2, h2⟩ : ∃ b, withA k fl = b := ⟨_, rfl⟩
  obtain ⟨b3, h3⟩ : ∃ b, withP k fl = b := ⟨_, rfl⟩
  obtain ⟨g, hg⟩ : ∃ g : Int, (bif hF k then (fl : Int) else 0) = g := ⟨_, rfl⟩
  have hv : frV (flagP k fl s 0) (.slice none 0 0) (.slice none 0 0) = .agg #[.int .i64 (k : Int), .int .i64 (s : Int), .bool b0, .bool b1, .bool b2, .bool b3, .slice none 0 0, .int .i64 g, .int .i64 0, .int .i64 0, .bool false, .int .i64 0, .int .u32 0, .slice none 0 0, .int .i64 0, .int .i64 0] := by
    rw [← h0, ← h1, ← h2, ← h3, ← hg]; rfl
  have Hv := Lib.hid hv
  have H0 := Lib.hid h0
  have H1 := Lib.hid h1
  have H2 := Lib.hid h2
  have H3 := Lib.hid h3
  have key : (decide ((k : Int) < 10) = true ∧ g = 0) ∨ (decide ((k : Int) < 10) = false ∧ g = (fl : Int)) := by
    rw [← hg]
    rcases Nat.lt_or_ge k 10 with h | h
    · left; exact ⟨by simp; omega, by rw [show hF k = false by unfold hF; simp; omega]; rfl⟩
    · right; exact ⟨by simp; omega, by rw [show hF k = true by unfold hF; simp; omega]; rfl⟩
  clear h0 h1 h2 h3 hg hv
  go_enter Tryd.func62, Tryd.ntmps62
  go_wp2
  first
  | go_region_held (fun w' => w'.cell? ⟨w.heap.size, 1, none⟩ = some (.int .i64 (k : Int)) ∧ w'.cell? ⟨w.heap.size, 3, none⟩ = some (.int .i64 (s : Int)) ∧ w'.cell? ⟨w.heap.size, 4, none⟩ = some (.int .i64 ((hpN k fl : Nat) : Int))) (go_keep)
      (first
      | (go_at_call 54; (with_reducible refine (has_end k fl _ _ H0.out).mono ?_); rintro e w3 ⟨rfl, rfl⟩)
      | (go_at_call 54; (with_reducible refine (has_eh k fl _ _ H1.out).mono ?_); rintro e w3 ⟨rfl, rfl⟩)
      | (go_at_call 54; (with_reducible refine (has_ack k fl _ _ H2.out).mono ?_); rintro e w3 ⟨rfl, rfl⟩)
      | (go_at_call 54; (with_reducible refine (has_prio k fl _ _ H3.out).mono ?_); rintro e w3 ⟨rfl, rfl⟩))
  | fail
  all_goals
    rcases key with ⟨kd, rfl⟩ | ⟨kd, rfl⟩
    · go_wp2_with (first
        | (go_at_call 68; (with_reducible refine (known_any (k : Int) _ true kd).mono ?_); rintro e w4 ⟨rfl, rfl⟩))
      refine bodyPost_ret (res_frame (p := 2) rfl rfl rfl (blk_drew ((blk_new2 _ _ _ _).alloc _))) rfl ⟨congrArg Ending.returned Hv.out.symm, ?_⟩
      exact below_drewN ((((Below.refl _ w).alloc (Nat.le_refl _) _).alloc (by simp) _).alloc (by simp; omega) _) 1
    · go_wp2_with (first
        | (go_at_call 68; (with_reducible refine (known_any (k : Int) _ false kd).mono ?_); rintro e w4 ⟨rfl, rfl⟩))
      refine bodyPost_ret (res_frame (p := 2) rfl rfl rfl (blk_drew ((blk_new2 _ _ _ _).alloc _))) rfl ⟨congrArg Ending.returned Hv.out.symm, ?_⟩
      exact below_drewN ((((Below.refl _ w).alloc (Nat.le_refl _) _).alloc (by simp) _).alloc (by simp; omega) _) 1
end
end Go.Proofs.YtokbdkbljgdcpaaDoor
