/- The document's fit: the oldest ones go. -/
import Derived.Test.YtemgojgkklkmbaaTblM
namespace Go.Proofs.Ytemgojgkklkmbaa
open Go.RowKit Go.Own Go.Tbl
set_option linter.unusedVariables false
attribute [local go_sem ↓] Go.wp_at_zero Go.wp_at_succ

/-- what is left when so many octets more are to have room -/
def fitL (h more : Nat) (l : List Fld) : List Fld := if more ≤ h then pre (h - more) l else []
theorem fitL_of (h more k : Nat) (l : List Fld) (hk : k ≤ l.length) (h1 : k = 0 ∨ szs (l.take k) + more ≤ h) (h2 : k < l.length → h < szs (l.take (k + 1)) + more) : fitL h more l = l.take k := by
  unfold fitL
  split
  · rename_i hm
    refine pre_of_take _ _ k hk ?_ ?_
    · rcases h1 with rfl | h1
      · simp [szs]
      · omega
    · intro f hf
      have hkl := (List.getElem?_eq_some_iff.1 hf).1
      have := h2 hkl
      rw [szs_take_succ l k f hf] at this
      omega
  · rename_i hm
    rcases h1 with rfl | h1
    · simp
    · omega
theorem RT.cut {w : World} {p : Nat} {A : Option Addr} {n c h k : Nat} {l : List Fld} (t : RT w p A n c h l) (hk : k ≤ n) (hp : ∀ a, A = some a → a.block ≠ p) : RT (w.setCell ⟨p, 0, none⟩ (.slice A k c)) p A k c h (l.take k) := by
  refine ⟨t.at_.set_ 0 (.slice A k c), ?_, Nat.le_trans hk t.nc, t.cm, fun f hf => t.ok f (List.mem_of_mem_take hf)⟩
  have h1 := t.rd.take (k := k) hk
  rw [fcellsL_take] at h1
  exact h1.fr ((Fr.refl (· = p) w).setCell (p := ⟨p, 0, none⟩) (.inl rfl) _) (fun a ha h => hp a ha h)
set_option maxRecDepth 100000 in
set_option maxHeartbeats 4000000 in
theorem rfit_any {w : World} {p : Nat} {A : Option Addr} {n c h : Nat} {l : List Fld} (t : RT w p A n c h l) (hA : ∀ a, A = some a → a.block ≠ p) (hsz : szs l ≤ 4611686018427387904) (hh : h ≤ 4611686018427387904) (more : Nat) (hm : more ≤ 4611686018427387903) (z : Int) (hz : z = (more : Int)) :
    Calls Try.prog 35 #[.pointer (some ⟨p, 0, none⟩), .int .i64 z] w fun e w' => ∃ k, e = .returned (.tuple #[]) ∧ RT w' p A k c h (fitL h more l) ∧ Fr (· = p) w w' := by
  subst hz
  have Ht := Lib.hid t
  have HA := Lib.hid hA
  have hl := t.len
  have Hl := Lib.hid hl
  have Hsz := Lib.hid hsz
  clear t hA hl hsz
  go_enter Try.func35, Try.ntmps35
  go_wp2
  go_loopg [4] n (fun gh x w' => gh ≤ n ∧ RT w' p A gh c h (l.take gh) ∧ Fr (· = p) w w' ∧ (gh < n → h < szs (l.take (gh + 1)) + more))
  case atStart => 
    refine ⟨Nat.le_refl _, ?_, Fr.refl _ _, fun h => absurd h (Nat.lt_irrefl _)⟩
    rw [List.take_of_length_le (by rw [Hl.out]; exact Nat.le_refl _)]
    exact Ht.out
  case round =>
    obtain ⟨hgn, ht, hf, hd⟩ := hrel
    have HT := Lib.hid ht
    have HF := Lib.hid hf
    have HD := Lib.hid hd
    have c0 := ht.at_.cell 0
    have c1 := ht.at_.cell 1
    simp only [List.getElem?_cons_zero, List.getElem?_cons_succ] at c0 c1
    have c0' : wr.drew.cell? ⟨p, 0, none⟩ = some (.slice A gk c) := c0
    have c1' : wr.drew.cell? ⟨p, 1, none⟩ = some (.int .i64 (h : Int)) := c1
    clear ht hf hd
    cases gk with
    | zero =>
      have hend : l.take 0 = fitL h more l := (fitL_of h more 0 l (by omega) (.inl rfl) (fun hk => HD.out (by have := Hl.out; omega))).symm
      have Hend := Lib.hid hend
      clear hend
      go_wp2
      go_quiet (fail)
      go_wp2
      go_end0
      exact ⟨0, rfl, Hend.out ▸ HT.out.drewN _, HF.out.drewN _⟩
    | succ g =>
      obtain ⟨q, hq⟩ : ∃ q, szs (l.take (g + 1)) = q := ⟨_, rfl⟩
      have hql : q ≤ 4611686018427387904 := by
        have h1 := szs_take_mono l (g + 1) l.length (by have := Hl.out; omega)
        rw [List.take_length, hq] at h1
        have := Hsz.out
        omega
      obtain ⟨s, hs⟩ : ∃ s, q + more = s := ⟨_, rfl⟩
      have e1 : (q : Int) + (more : Int) = (s : Int) := by omega
      have e2 : IntKind.i64.wrap (s : Int) = (s : Int) := by rw [IntKind.wrap_i64]; omega
      have HTd : Hid (RT wr.drew p A (g + 1) c h (l.take (g + 1))) := HT.out.drewN 1
      have hg0 : (0 : Int) < ((g + 1 : Nat) : Int) := by omega
      have Hq := Lib.hid hq
      have Hs := Lib.hid hs
      clear hq hs
      by_cases hc : h < s
      · have kb : decide (h < s) = true := decide_eq_true hc
        have hc2 : (h : Int) < (s : Int) := by omega
        go_wp2
        first
        | go_region_held (fun w' => w'.cell? ⟨p, 0, none⟩ = some (.slice A (g + 1) c) ∧ w'.cell? ⟨p, 1, none⟩ = some (.int .i64 (h : Int)))
            (first | exact ⟨c0, c1⟩ | exact ⟨c0', c1'⟩ | exact ⟨d0, d1⟩)
            (first
            | (go_at_call 38; (with_reducible refine (rTSize_any HTd.out q Hq.out hql).mono ?_); rintro e w2 ⟨rfl, hb2⟩
               have HT2 := Lib.hid (HTd.out.below hb2)
               have d0 := HT2.out.at_.cell 0
               have d1 := HT2.out.at_.cell 1
               simp only [List.getElem?_cons_zero, List.getElem?_cons_succ] at d0 d1
               have z0 := HT2.out.at_.frozen 0
               have HF2 := Lib.hid ((HF.out.drewN 1).trans (Fr.of_below (S := fun i => wr.drew.heap.size ≤ i) hb2 (fun i _ h => h)) (fun i hi h => by have := HF.out.size; have e : wr.drew.heap.size = wr.heap.size := rfl; omega))
               clear hb2))
        | fail
        all_goals
          clear c0 c1 c0' c1'
          have hgc : g + 1 ≤ c := HT2.out.nc
          have hcm := HT2.out.cm
          have hc0 : ¬ c = 0 := by omega
          have hgi : (g : Int) ≤ (c : Int) := by omega
          have hgw : IntKind.i64.wrap (g : Int) = (g : Int) := by rw [IntKind.wrap_i64]; omega
          have hgw2 : IntKind.i64.wrap ((g : Int) + 1 - 1) = (g : Int) := by rw [IntKind.wrap_i64]; omega
          go_wp2
          go_still_tail 14, (by kernel_rfl)
          change wpList _ _ _ _ _ w2.drew
          go_wp2
          go_roundg g
          case measure => omega
          case rel =>
            have h3 := (RT.cut HT2.out (k := g) (by omega) HA.out).drewN 1
            rw [List.take_take, Nat.min_eq_left (by omega)] at h3
            refine ⟨by omega, h3, ((HF2.out.setCell (p := ⟨p, 0, none⟩) (.inl rfl) _).drew), fun _ => ?_⟩
            rw [Hq.out, Hs.out]
            exact hc
      · have kb : decide (h < s) = false := decide_eq_false hc
        have hc2 : ¬ (h : Int) < (s : Int) := by omega
        have hend : l.take (g + 1) = fitL h more l := (fitL_of h more (g + 1) l (by have := Hl.out; omega) (.inr (by rw [Hq.out, Hs.out]; omega)) (fun hk => HD.out (by have := Hl.out; omega))).symm
        have Hend := Lib.hid hend
        clear hend
        go_wp2
        first
        | go_region_held (fun w' => w'.cell? ⟨p, 0, none⟩ = some (.slice A (g + 1) c) ∧ w'.cell? ⟨p, 1, none⟩ = some (.int .i64 (h : Int)))
            (first | exact ⟨c0, c1⟩ | exact ⟨c0', c1'⟩ | exact ⟨d0, d1⟩)
            (first
            | (go_at_call 38; (with_reducible refine (rTSize_any HTd.out q Hq.out hql).mono ?_); rintro e w2 ⟨rfl, hb2⟩
               have HT2 := Lib.hid (HTd.out.below hb2)
               have d0 := HT2.out.at_.cell 0
               have d1 := HT2.out.at_.cell 1
               simp only [List.getElem?_cons_zero, List.getElem?_cons_succ] at d0 d1
               have HF2 := Lib.hid ((HF.out.drewN 1).trans (Fr.of_below (S := fun i => wr.drew.heap.size ≤ i) hb2 (fun i _ h => h)) (fun i hi h => by have := HF.out.size; have e : wr.drew.heap.size = wr.heap.size := rfl; omega))
               clear hb2))
        | fail
        all_goals
          clear c0 c1 c0' c1'
          go_wp2
          go_end0
          exact ⟨g + 1, rfl, Hend.out ▸ HT2.out, HF2.out⟩
end Go.Proofs.Ytemgojgkklkmbaa
