/- Several texts in one: Wn. -/
import Derived.Test.YtokbdkbljgdcpaaDoorY12
import Derived.Test.YtokbdkbljgdcpaaDoorY25
import Derived.Test.YtokbdkbljgdcpaaDoorY1
import Derived.Deep.LoopGhost
/- The contract of flagsOf. -/
namespace Go.Proofs.YtokbdkbljgdcpaaDoor
open Go.RowKit Go.Own Go.Frm
set_option linter.unusedVariables false
set_option maxRecDepth 100000
/-- the flags behind j rows of the table -/
def fgN (f : Fm) : Nat → Nat
  | 0 => f.flags.toNat
  | j + 1 => fgN f j ||| (bif (fillL f).getD (bitI j) false then bitB j else 0)
theorem fgN_lt (f : Fm) (h : f.flags.toNat < 256) : ∀ j, j ≤ 5 → fgN f j < 256
  | 0, _ => h
  | j + 1, hj => by
    have h1 := fgN_lt f h j (by omega)
    have h2 : (bif (fillL f).getD (bitI j) false then bitB j else 0) < 256 := by
      cases (fillL f).getD (bitI j) false
      · show 0 < 256; decide
      · have key : j = 0 ∨ j = 1 ∨ j = 2 ∨ j = 3 ∨ j = 4 := by omega
        rcases key with rfl | rfl | rfl | rfl | rfl <;> decide
    exact Nat.or_lt_two_pow (n := 8) h1 h2
theorem fgN_5 (f : Fm) (P : Parts f) : fgN f 5 = flagsN f := by
  have e : fgN f 5 = ((((f.flags.toNat ||| (bif f.fin then 1 else 0)) ||| (bif f.ack then 1 else 0)) ||| (bif f.eh then 4 else 0)) ||| (bif (f.pad != 0) then 8 else 0)) ||| (bif f.prio then 32 else 0) := rfl
  have hp : (f.pad != 0) = decide (0 < f.pad) := by
    have := P.p0
    rw [Bool.eq_iff_iff]; simp; omega
  rw [e, hp]
  by_cases hk : 10 ≤ f.k
  · obtain ⟨h1, h2, h3, h4, h5, h6, h7, h8, h9, h10, h11, h12, h13, h14, h15, h16, _⟩ := hi_letters f.k hk
    have e1 := Parts.no P.e h1
    have e2 := Parts.no P.h h3
    have e3 := Parts.no P.a h7
    have e4 := Parts.no P.r h4
    have e5 : f.pad = 0 := P.p.resolve_right (by simp [h2])
    simp [flagsN, e1, e2, e3, e4, e5]
  · have hF0 : hF f.k = false := by simp [hF]; omega
    have e0 : f.flags = 0 := P.f'.resolve_right (by simp [hF0])
    unfold flagsN
    rw [e0]
    generalize f.fin = a
    generalize f.ack = b
    generalize f.eh = c
    generalize decide (0 < f.pad) = d
    generalize f.prio = e
    cases a <;> cases b <;> cases c <;> cases d <;> cases e <;> rfl
theorem has_fill (f : Fm) (j : Nat) (hj : j < 5) : (bits .and .i64 ((fillN f : Nat) : Int) ((bitP j : Nat) : Int) != 0) = (fillL f).getD (bitI j) false := by
  have key : j = 0 ∨ j = 1 ∨ j = 2 ∨ j = 3 ∨ j = 4 := by omega
  rcases key with rfl | rfl | rfl | rfl | rfl
  · exact has_bit (fillL f) rfl 0 (by omega) 1 rfl
  · exact has_bit (fillL f) rfl 2 (by omega) 4 rfl
  · exact has_bit (fillL f) rfl 1 (by omega) 2 rfl
  · exact has_bit (fillL f) rfl 3 (by omega) 8 rfl
  · exact has_bit (fillL f) rfl 4 (by omega) 16 rfl
set_option maxHeartbeats 4000000 in
theorem flagsOf_c (f : Fm) (P : Parts f) (A B : Option Addr) (n c m d : Nat) {w : World} (hG : Gl w) (hn : f.pay.length = n) (hl : f.list.length = m) :
    Calls Tryd.prog 34 #[frV f (.slice A n c) (.slice B m d)] w fun e w' => e = .returned (.int .i64 ((flagsN f : Nat) : Int)) ∧ Below w.heap.size w w' := by
  have h5 := fgN_5 f P
  have hlt := fgN_lt f (by have := P.f0; have := P.f1; omega)
  obtain ⟨r, hr⟩ : ∃ r, flagsN f = r := ⟨_, rfl⟩
  obtain ⟨fl, hfl⟩ : ∃ fl : Nat, f.flags = (fl : Int) := ⟨f.flags.toNat, by have := P.f0; omega⟩
  have h0 : fgN f 0 = fl := by show f.flags.toNat = fl; omega
  rw [hr] at h5 ⊢
  obtain ⟨fn, hfn⟩ : ∃ x, fillN f = x := ⟨_, rfl⟩
  have hF := fun j (hj : j < 5) => has_fill f j hj
  rw [hfn] at hF
  obtain ⟨g, hg⟩ : ∃ g, fgN f = g := ⟨_, rfl⟩
  have hs : ∀ j, g (j + 1) = g j ||| (bif (fillL f).getD (bitI j) false then bitB j else 0) := fun j => by rw [← hg]; rfl
  obtain ⟨bl, hbl⟩ : ∃ bl, (fun j => (fillL f).getD (bitI j) false) = bl := ⟨_, rfl⟩
  have hF' : ∀ j, j < 5 → (bits .and .i64 ((fn : Nat) : Int) ((bitP j : Nat) : Int) != 0) = bl j := fun j hj => by rw [← hbl]; exact hF j hj
  have hs' : ∀ j, g (j + 1) = g j ||| (bif bl j then bitB j else 0) := fun j => by rw [← hbl]; exact hs j
  rw [hg] at h5 h0 hlt
  have hcf := fun W => filled_any f A B n c m d hn hl W
  rw [hfn] at hcf
  have HCF := Lib.hid hcf
  have HF' := Lib.hid hF'
  have HS' := Lib.hid hs'
  have HLT := Lib.hid hlt
  have H5 := Lib.hid h5
  have H0 := Lib.hid h0
  have HG := Lib.hid hG
  clear P hr hF hs hF' hs' hfn hg hbl hcf hlt h5 h0 hG hn hl
  obtain ⟨kind, stream, fin, eh, ack, prio, pay, flags, pad, depend, excl, weight, code, list, last, inc⟩ := f
  simp only at hfl
  subst hfl
  go_enter Tryd.func34, Tryd.ntmps34
  go_wp2_with (first
    | (go_at_call 53; (with_reducible refine (HCF.out _).mono ?_); rintro e w4 ⟨rfl, hb⟩
       have B4 := Lib.hid (below_box hb)
       have g4 := (HG.out.below B4.out).bits
       have y0 := g4 0 1 rfl
       have y1 := g4 1 1 rfl
       have y2 := g4 2 4 rfl
       have y3 := g4 3 1 rfl
       have y4 := g4 4 2 rfl
       have y5 := g4 5 4 rfl
       have y6 := g4 6 8 rfl
       have y7 := g4 7 8 rfl
       have y8 := g4 8 16 rfl
       have y9 := g4 9 32 rfl
       have p4 : 0 < w4.heap.size := World.block_lt_of_cell? _ _ y0
       clear hb g4))
  clear y0 y1 y2 y3 y4 y5 y6 y7 y8 y9
  go_loopg [3, 12] 5 (fun gh v i w' => ∃ j : Nat, gh + j = 5 ∧ i = .int .i64 (j : Int) ∧ v = .int .i64 ((g j : Nat) : Int) ∧ Below w.heap.size w w')
  case atStart => exact ⟨0, by omega, rfl, by rw [H0.out], B4.out⟩
  case round =>
    obtain ⟨j, hj, rfl, rfl, hB⟩ := hrel
    cases gk with
    | succ g1 =>
      have hj5 : j < 5 := by omega
      have ix := idxB j hj5
      have hh := HF'.out j hj5
      have hst := HS'.out j
      have hl1 := HLT.out j (by omega)
      have hl2 := HLT.out (j + 1) (by omega)
      obtain ⟨bp, hbp⟩ : ∃ b, bitP j = b := ⟨_, rfl⟩
      obtain ⟨bb, hbb⟩ : ∃ b, bitB j = b := ⟨_, rfl⟩
      have hbb2 : bb < 256 := by
        rw [← hbb]
        have key : j = 0 ∨ j = 1 ∨ j = 2 ∨ j = 3 ∨ j = 4 := by omega
        rcases key with rfl | rfl | rfl | rfl | rfl <;> decide
      rw [hbp, hbb] at ix
      rw [hbp] at hh
      rw [hbb] at hst
      obtain ⟨x, hx⟩ : ∃ x, g j = x := ⟨_, rfl⟩
      obtain ⟨x', hx'⟩ : ∃ x', g (j + 1) = x' := ⟨_, rfl⟩
      rw [hx, hx'] at hst
      rw [hx] at hl1 ⊢
      have HX' := Lib.hid hx'
      have HB := Lib.hid hB
      have Hh := Lib.hid hh
      have k5 : (j : Int) < 5 := by omega
      cases hft : bl j
      · rw [hft] at hst
        have hst' : x' = x := by rw [hst]; exact Nat.or_zero x
        have HE := Lib.hid hst'
        have Hft := Lib.hid hft
        clear hft hx hx' hbp hbb hB hh hst hst'
        go_wp2_with (first
          | (go_at_call 54; (with_reducible refine (has_any _ _ _ false (Hh.out.trans Hft.out)).mono ?_); rintro e w6 ⟨rfl, rfl⟩))
        go_roundg g1
        case measure => omega
        case rel => exact ⟨j + 1, by omega, by go_num, by rw [HX'.out, HE.out], HB.out.alloc HB.out.size _⟩
      · rw [hft] at hst
        have hst' : bits .or .i64 ((x : Nat) : Int) ((bb : Nat) : Int) = ((x' : Nat) : Int) := by rw [i64_or _ _ (by omega) (by omega), hst]; rfl
        have HE := Lib.hid hst'
        have Hft := Lib.hid hft
        clear hft hx hx' hbp hbb hB hh hst hst'
        go_wp2_with (first
          | (go_at_call 54; (with_reducible refine (has_any _ _ _ true (Hh.out.trans Hft.out)).mono ?_); rintro e w6 ⟨rfl, rfl⟩))
        go_roundg g1
        case measure => omega
        case rel => exact ⟨j + 1, by omega, by go_num, by rw [HX'.out, HE.out], HB.out.alloc HB.out.size _⟩
    | zero =>
      obtain rfl : j = 5 := by omega
      have HB := Lib.hid hB
      clear hB
      have h5 := H5.out
      rw [h5]
      clear h5
      go_wp2
      go_ret
      exact ⟨rfl, HB.out⟩
end Go.Proofs.YtokbdkbljgdcpaaDoor
