/- The law WindowCredits: the walk. -/
import Derived.Test.YtjafoegpbhieoaaWiI
import Derived.Deep.RegionHeld
namespace Go.Proofs.Ytjafoegpbhieoaa
open Go.RowKit Go.Own Go.Win
set_option linter.unusedVariables false
set_option maxRecDepth 100000
section
variable {S : Nat → Prop} {w0 w : World} {L : List Ob} {p q : Nat} {c : Cr}
/-- what the walk sees of the document's credit -/
theorem see_r {A0 : Ob} (s : St S w0 w (A0 :: RCr q c :: L)) : q < w.heap.size ∧ w.cell? ⟨q, 1, none⟩ = some (.int .i64 c.left) ∧ w.cell? ⟨q, 2, none⟩ = some (.int .i64 c.held) := by
  have hb : Blk w q _ _ := St.blk1 s
  exact ⟨hb.lt, hb.cell 1, hb.cell 2⟩
theorem cell_to {w w' : World} (hb : Below w.heap.size w w') {p : Addr} {v : Value} (h : w.cell? p = some v) : w'.cell? p = some v := by
  rw [hb.cell (World.block_lt_of_cell? _ _ h)]
  exact h
theorem cell_drew {w : World} {p : Addr} {v : Value} (h : w.cell? p = some v) : w.drew.cell? p = some v := h
end
set_option maxHeartbeats 8000000 in
theorem lawCredits {w : World} (z : Int) (hz : i64i z) {A : Option Addr} {n c : Nat} (hl : HoldsT Try.prog w 9 29 [.slice A n c]) :
    Calls Try.prog 5 #[.int .i64 z, .slice A n c] w fun e w' => e = .returned (.bool true) ∧ Below w.heap.size w w' := by
  obtain ⟨c0, hc0⟩ : ∃ c, newC z = c := ⟨_, rfl⟩
  have h0 := newC_ok z
  rw [hc0] at h0
  have H0 := Lib.hid h0
  have HC := Lib.hid hc0
  have HL := Lib.hid hl
  obtain ⟨hnc, hcm, _⟩ := HoldsT.slice (d := 8) Try.underlying29 hl
  clear h0 hc0 hl hz
  go_enter Try.func5, Try.ntmps5
  go_wp2_with (first
    | (go_at_call 9; (with_reducible refine (shown_c _).mono ?_); rintro e w1 ⟨rfl, b1⟩; have B1 := Lib.hid b1; clear b1)
    | (go_at_call 18; (with_reducible refine (new_c z c0 HC.out).mono ?_); rintro e w2 ⟨p, rfl, s2⟩
       have S2 := Lib.hid s2
       clear s2)
    | (go_at_call 19; (with_reducible refine (rnew_c S2.out z c0 HC.out).mono ?_); rintro e w3 ⟨q, rfl, s3⟩
       have S3 := Lib.hid s3
       clear s3))
  go_loopg [8] (min n 300) (fun gh i w' => ∃ (k : Nat) (cr : Cr), gh + k = min n 300 ∧ i = .int .i64 (k : Int) ∧ cr.ok ∧ St (fun _ => False) w1 w' [CrO p cr, RCr q cr])
  case atStart => exact ⟨0, c0, by omega, rfl, H0.out, S3.out⟩
  case round =>
    obtain ⟨k, cr, hk, rfl, hok, hs⟩ := hrel
    have HS := Lib.hid hs
    have HO := Lib.hid hok
    have b2 := B1.out.trans (hs.below.mono B1.out.size)
    have B2 := Lib.hid b2
    clear hs hok
    cases gk with
    | zero =>
      have hk2 : (k = n ∧ ¬ k < n) ∨ (k < n ∧ k = 300) := by omega
      clear hk b2
      rcases hk2 with ⟨rfl, h1⟩ | ⟨h1, rfl⟩
      all_goals
        go_wp2
        go_ret
        exact ⟨rfl, B2.out⟩
    | succ g1 =>
      have k1 : k < n := by omega
      have k2 : k < 300 := by omega
      obtain ⟨b, o, kd, x, rfl, d0, d1, hkd, hx⟩ := op_at HL.out (i := k) k1
      have e0 := cell_to b2 d0
      have e1 := cell_to b2 d1
      have e2 := cell_drew e1
      have HX := Lib.hid hx
      have HD := Lib.hid d1
      have HSd := Lib.hid (St.drew HS.out)
      clear hx d0 d1 hkd
      have hkd : kd = 1 ∨ (¬ kd = 1 ∧ kd = 2) ∨ (¬ kd = 1 ∧ ¬ kd = 2) := by omega
      rcases hkd with rfl | ⟨h1, rfl⟩ | ⟨h1, h2⟩
      · obtain ⟨E, hE⟩ : ∃ E, gotE cr x = E := ⟨_, rfl⟩
        obtain ⟨c1, hc1⟩ : ∃ c, gotS cr x = c := ⟨_, rfl⟩
        have HE := Lib.hid hE
        have HC1 := Lib.hid hc1
        have O1 : Hid c1.ok := by rw [← hc1]; exact (gotS_ok HO.out x).1
        clear hE hc1
        go_wp2
        go_region_held (fun w' => w'.cell? ⟨b, o + k * 2 + 1, none⟩ = some (.int .i64 x)) (first | exact e2 | exact e4 | exact e5) (first
          | (go_at_call 20; (with_reducible refine (got_s HSd.out HO.out x HX.out E c1 HE.out HC1.out).mono ?_); rintro e w4 ⟨rfl, s4⟩
             have S4 := Lib.hid s4
             have e4 := cell_to (B1.out.trans (s4.below.mono B1.out.size)) HD.out
             clear s4)
          | (go_at_call 21; (with_reducible refine (rgot_s S4.out HO.out x HX.out E c1 HE.out HC1.out).mono ?_); rintro e w5 ⟨rfl, s5⟩
             have S5 := Lib.hid s5
             have e5 := cell_to (B1.out.trans (s5.below.mono B1.out.size)) HD.out
             clear s5))
        clear e0 e1 e2 e4 e5
        obtain ⟨D, hD⟩ : ∃ D, dueV c1 = D := ⟨_, rfl⟩
        have HD1 := Lib.hid hD
        have S6 := Lib.hid (St.drew S5.out)
        have f5 := (see_r S6.out).2
        have hq5 := (see_r S6.out).1
        clear hD
        go_wp2
        go_region_held (fun w' => w'.cell? ⟨q, 1, none⟩ = some (.int .i64 c1.left) ∧ w'.cell? ⟨q, 2, none⟩ = some (.int .i64 c1.held)) (first | exact f5 | exact f7 | exact f8) (first
          | (go_at_call 28; (with_reducible refine (le_s S6.out c1.left rfl).mono ?_); rintro e w6 ⟨rfl, rfl⟩)
          | (go_at_call 29; (with_reducible refine (he_s S6.out c1.held rfl).mono ?_); rintro e w6 ⟨rfl, rfl⟩)
          | (go_at_call 24; (with_reducible refine (due_s S6.out O1.out D HD1.out).mono ?_); rintro e w7 ⟨rfl, k7, h7⟩
             have S7 := Lib.hid (St.drewN S6.out k7)
             rw [← h7] at S7
             have f7 := (see_r S7.out).2
             clear h7)
          | (go_at_call 25; (with_reducible refine (rdue_s S7.out O1.out D HD1.out).mono ?_); rintro e w8 ⟨rfl, k8, h8⟩
             have S8 := Lib.hid (St.drewN S7.out k8)
             rw [← h8] at S8
             have f8 := (see_r S8.out).2
             clear h8))
        clear f5 f7 f8
        go_wp2
        go_roundg g1
        case measure => omega
        case rel => exact ⟨k + 1, c1, by omega, by go_num, O1.out, S8.out⟩
      · obtain ⟨E, hE⟩ : ∃ E, freeE cr x = E := ⟨_, rfl⟩
        obtain ⟨c1, hc1⟩ : ∃ c, freeS cr x = c := ⟨_, rfl⟩
        have HE := Lib.hid hE
        have HC1 := Lib.hid hc1
        have O1 : Hid c1.ok := by rw [← hc1]; exact (freeS_ok HO.out x).1
        clear hE hc1
        go_wp2
        go_region_held (fun w' => w'.cell? ⟨b, o + k * 2 + 1, none⟩ = some (.int .i64 x)) (first | exact e2 | exact e4 | exact e5) (first
          | (go_at_call 22; (with_reducible refine (free_s HSd.out HO.out x HX.out E c1 HE.out HC1.out).mono ?_); rintro e w4 ⟨rfl, s4⟩
             have S4 := Lib.hid s4
             have e4 := cell_to (B1.out.trans (s4.below.mono B1.out.size)) HD.out
             clear s4)
          | (go_at_call 23; (with_reducible refine (rfree_s S4.out HO.out x HX.out E c1 HE.out HC1.out).mono ?_); rintro e w5 ⟨rfl, s5⟩
             have S5 := Lib.hid s5
             have e5 := cell_to (B1.out.trans (s5.below.mono B1.out.size)) HD.out
             clear s5))
        clear e0 e1 e2 e4 e5
        obtain ⟨D, hD⟩ : ∃ D, dueV c1 = D := ⟨_, rfl⟩
        have HD1 := Lib.hid hD
        have S6 := Lib.hid (St.drew S5.out)
        have f5 := (see_r S6.out).2
        have hq5 := (see_r S6.out).1
        clear hD
        go_wp2
        go_region_held (fun w' => w'.cell? ⟨q, 1, none⟩ = some (.int .i64 c1.left) ∧ w'.cell? ⟨q, 2, none⟩ = some (.int .i64 c1.held)) (first | exact f5 | exact f7 | exact f8) (first
          | (go_at_call 28; (with_reducible refine (le_s S6.out c1.left rfl).mono ?_); rintro e w6 ⟨rfl, rfl⟩)
          | (go_at_call 29; (with_reducible refine (he_s S6.out c1.held rfl).mono ?_); rintro e w6 ⟨rfl, rfl⟩)
          | (go_at_call 24; (with_reducible refine (due_s S6.out O1.out D HD1.out).mono ?_); rintro e w7 ⟨rfl, k7, h7⟩
             have S7 := Lib.hid (St.drewN S6.out k7)
             rw [← h7] at S7
             have f7 := (see_r S7.out).2
             clear h7)
          | (go_at_call 25; (with_reducible refine (rdue_s S7.out O1.out D HD1.out).mono ?_); rintro e w8 ⟨rfl, k8, h8⟩
             have S8 := Lib.hid (St.drewN S7.out k8)
             rw [← h8] at S8
             have f8 := (see_r S8.out).2
             clear h8))
        clear f5 f7 f8
        go_wp2
        go_roundg g1
        case measure => omega
        case rel => exact ⟨k + 1, c1, by omega, by go_num, O1.out, S8.out⟩
      · obtain ⟨E, hE⟩ : ∃ E, dueV cr = E := ⟨_, rfl⟩
        obtain ⟨c1, hc1⟩ : ∃ c, giveS cr = c := ⟨_, rfl⟩
        have HE := Lib.hid hE
        have HC1 := Lib.hid hc1
        have O1 : Hid c1.ok := by rw [← hc1]; exact (giveS_ok HO.out).1
        clear hE hc1
        go_wp2_with (first
          | (go_at_call 24; (with_reducible refine (due_s HS.out HO.out E HE.out).mono ?_); rintro e w8 ⟨rfl, k8, h8⟩
             have S8 := Lib.hid (St.drewN HS.out k8)
             rw [← h8] at S8
             clear h8)
          | (go_at_call 25; (with_reducible refine (rdue_s S8.out HO.out E HE.out).mono ?_); rintro e w9 ⟨rfl, k9, h9⟩
             have S9 := Lib.hid (St.drewN S8.out k9)
             rw [← h9] at S9
             clear h9)
          | (go_at_call 26; (with_reducible refine (give_s S9.out HO.out E c1 HE.out HC1.out).mono ?_); rintro e w4 ⟨rfl, s4⟩
             have S4 := Lib.hid s4
             clear s4)
          | (go_at_call 27; (with_reducible refine (rgive_s S4.out HO.out E c1 HE.out HC1.out).mono ?_); rintro e w5 ⟨rfl, s5⟩
             have S5 := Lib.hid s5
             clear s5))
        obtain ⟨D, hD⟩ : ∃ D, dueV c1 = D := ⟨_, rfl⟩
        have HD1 := Lib.hid hD
        have S6 := Lib.hid (St.drew S5.out)
        have f5 := (see_r S6.out).2
        have hq5 := (see_r S6.out).1
        clear hD
        go_wp2
        go_region_held (fun w' => w'.cell? ⟨q, 1, none⟩ = some (.int .i64 c1.left) ∧ w'.cell? ⟨q, 2, none⟩ = some (.int .i64 c1.held)) (first | exact f5 | exact f7 | exact f8) (first
          | (go_at_call 28; (with_reducible refine (le_s S6.out c1.left rfl).mono ?_); rintro e w6 ⟨rfl, rfl⟩)
          | (go_at_call 29; (with_reducible refine (he_s S6.out c1.held rfl).mono ?_); rintro e w6 ⟨rfl, rfl⟩)
          | (go_at_call 24; (with_reducible refine (due_s S6.out O1.out D HD1.out).mono ?_); rintro e w7 ⟨rfl, k7, h7⟩
             have S7 := Lib.hid (St.drewN S6.out k7)
             rw [← h7] at S7
             have f7 := (see_r S7.out).2
             clear h7)
          | (go_at_call 25; (with_reducible refine (rdue_s S7.out O1.out D HD1.out).mono ?_); rintro e w8 ⟨rfl, k8, h8⟩
             have S8 := Lib.hid (St.drewN S7.out k8)
             rw [← h8] at S8
             have f8 := (see_r S8.out).2
             clear h8))
        clear f5 f7 f8
        go_wp2
        go_roundg g1
        case measure => omega
        case rel => exact ⟨k + 1, c1, by omega, by go_num, O1.out, S8.out⟩
end Go.Proofs.Ytjafoegpbhieoaa
