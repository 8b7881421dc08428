/- The queue's contracts once more, with what a law's walk carries along: the queue lies above block B, and below B the world is as it was at the start. -/
import Derived.Test.YtfklllikihjjhaaBack
namespace Go.Proofs.Ytfklllikihjjhaa
open Go.ChangeShapes Go.WideShapes Go.ChangeAt Go.RowKit Go.Own
set_option linter.unusedVariables false

structure QB (B : Nat) (W0 W : World) (p : Nat) (sv : Value) (most : Nat) (xs : List UInt8) : Prop where
  at_ : QAt W p sv most xs
  pge : B ≤ p
  sge : ∀ g, sv.ownBlock = some g → B ≤ g
  below : Below B W0 W

theorem QAt.keep {w w' : World} {p most : Nat} {sv : Value} {xs : List UInt8} (h : QAt w p sv most xs) (hb : Below w.heap.size w w') : QAt w' p sv most xs :=
  h.fr (Fr.of_below (S := fun i => w.heap.size ≤ i) hb (fun _ _ h => h)) (by have := h.lt.1; omega) (fun g hg x => by have := h.lt.2 g hg; omega)
theorem QB.le {B : Nat} {W0 W : World} {p most : Nat} {sv : Value} {xs : List UInt8} (h : QB B W0 W p sv most xs) : B ≤ W.heap.size := by have := h.pge; have := h.at_.lt.1; omega
theorem QB.keep {B : Nat} {W0 W w' : World} {p most : Nat} {sv : Value} {xs : List UInt8} (h : QB B W0 W p sv most xs) (hb : Below W.heap.size W w') : QB B W0 w' p sv most xs :=
  ⟨h.at_.keep hb, h.pge, h.sge, h.below.trans (hb.mono h.le)⟩
theorem QB.drewN {B : Nat} {W0 W : World} {p most : Nat} {sv : Value} {xs : List UInt8} (h : QB B W0 W p sv most xs) (n : Nat) : QB B W0 (W.drewN n) p sv most xs :=
  ⟨h.at_, h.pge, h.sge, below_drewN h.below n⟩
theorem QB.fr_below {B : Nat} {W0 W w' : World} {p most : Nat} {sv : Value} {xs : List UInt8} (h : QB B W0 W p sv most xs) (hf : Fr (fun i => i = p ∨ some i = sv.ownBlock) W w') : Below B W0 w' :=
  h.below.trans (hf.below h.le (fun i _ x => x.elim (fun e => e ▸ h.pge) (fun e => h.sge i e.symm)))

theorem New_q (B : Nat) (W0 W : World) (n : Int) (m : Nat) (hb : Below B W0 W) (hB : B ≤ W.heap.size) (hm : (max 0 (min n 1000000)).toNat = m) :
    Calls Try.prog 12 #[.int .i64 n] W fun e w' => ∃ p, e = .returned (.pointer (some ⟨p, 0, none⟩)) ∧ QB B W0 w' p (.slice none 0 0) m [] ∧ W.heap.size ≤ p ∧ Below W.heap.size W w' := by
  refine (New_any n W).mono ?_
  rintro e w' ⟨p, rfl, hq, hp, hl⟩
  rw [hm] at hq
  exact ⟨p, rfl, ⟨hq, by omega, fun g hg => by simp [Value.ownBlock] at hg, hb.trans (hl.mono hB)⟩, hp, hl⟩
theorem Push_q {B : Nat} {W0 W : World} {p most : Nat} {sv : Value} {xs : List UInt8} (h : QB B W0 W p sv most xs) (A : Option Addr) (n cap m : Nat) (ys : List UInt8) (hr : Rd W 1 A n (ys.map BV)) (hc : n ≤ cap) (hcap : cap ≤ 9223372036854775807) (hm : min n (most - xs.length) = m) :
    Calls Try.prog 14 #[.pointer (some ⟨p, 0, none⟩), .slice A n cap] W fun e w' => ∃ sv', e = .returned (.int .i64 m) ∧ QB B W0 w' p sv' most (xs ++ ys.take m) ∧ Fr (fun i => i = p ∨ some i = sv.ownBlock) W w' := by
  refine (Push_any p sv most xs A n cap ys W h.at_ hr hc hcap).mono ?_
  rintro e w' ⟨sv', m', rfl, hm', hq, hf, ho⟩
  obtain rfl : m' = m := by omega
  refine ⟨sv', rfl, ⟨hq, h.pge, fun g hg => ?_, h.fr_below hf⟩, hf⟩
  rcases ho with ho | ⟨g', ho, hl⟩
  · exact h.sge g (by rw [← ho]; exact hg)
  · rw [hg] at ho
    injection ho with ho
    subst ho
    have := h.le
    omega
theorem Peek_q {B : Nat} {W0 W : World} {p most : Nat} {sv : Value} {xs : List UInt8} (h : QB B W0 W p sv most xs) (n : Int) (K : Nat) (hK : (max 0 (min n xs.length)).toNat = K) :
    Calls Try.prog 18 #[.pointer (some ⟨p, 0, none⟩), .int .i64 n] W fun e w' => ∃ g, e = .returned (.slice (some ⟨g, 0, none⟩) K K) ∧ Blk w' g 5 ((xs.take K).map BV) ∧ W.heap.size ≤ g ∧
      QB B W0 w' p sv most xs ∧ Below W.heap.size W w' := by
  refine (Peek_any p sv most xs n W h.at_).mono ?_
  rintro e w' ⟨g, m, rfl, hm, hb, hg, hl⟩
  obtain rfl : m = K := by omega
  exact ⟨g, rfl, hb, hg, h.keep hl, hl⟩
theorem Pop_q {B : Nat} {W0 W : World} {p most : Nat} {sv : Value} {xs : List UInt8} (h : QB B W0 W p sv most xs) (n : Int) (K : Nat) (hK : (max 0 (min n xs.length)).toNat = K) :
    Calls Try.prog 16 #[.pointer (some ⟨p, 0, none⟩), .int .i64 n] W fun e w' => ∃ sv' g, e = .returned (.slice (some ⟨g, 0, none⟩) K K) ∧ Blk w' g 5 ((xs.take K).map BV) ∧ W.heap.size ≤ g ∧
      QB B W0 w' p sv' most (xs.drop K) ∧ Fr (fun i => i = p ∨ some i = sv.ownBlock) W w' ∧ sv'.ownBlock = sv.ownBlock := by
  refine (Pop_any p sv most xs n W h.at_).mono ?_
  rintro e w' ⟨sv', g, m, rfl, hm, hb, hg, hq', hf, ho⟩
  obtain rfl : m = K := by omega
  exact ⟨sv', g, rfl, hb, hg, ⟨hq', h.pge, fun g hg => h.sge g (by rw [← ho]; exact hg), h.fr_below hf⟩, hf, ho⟩
theorem Len_q {B : Nat} {W0 W : World} {p most : Nat} {sv : Value} {xs : List UInt8} (h : QB B W0 W p sv most xs) (n : Nat) (hn : xs.length = n) :
    Calls Try.prog 20 #[.pointer (some ⟨p, 0, none⟩)] W fun e w' => e = .returned (.int .i64 n) ∧ W = w' := by
  subst hn
  exact Len_any p sv most xs W h.at_
theorem Room_q {B : Nat} {W0 W : World} {p most : Nat} {sv : Value} {xs : List UInt8} (h : QB B W0 W p sv most xs) (r : Nat) (hn : most - xs.length = r) :
    Calls Try.prog 21 #[.pointer (some ⟨p, 0, none⟩)] W fun e w' => e = .returned (.int .i64 r) ∧ ∃ k, w' = W.drewN k := by
  have hh := Room_any p sv most xs W h.at_
  rw [show (most : Int) - xs.length = (r : Int) by have := h.at_.2.2.1; omega] at hh
  exact hh
/-- what lay below B at the start reads as it did -/
theorem QB.rd {B : Nat} {W0 W : World} {p most : Nat} {sv : Value} {xs : List UInt8} (h : QB B W0 W p sv most xs) (hB : B = W0.heap.size) {A : Option Addr} {n size : Nat} {vs : List Value} (hr : Rd W0 size A n vs) : Rd W size A n vs := by
  subst hB
  exact hr.below h.below
end Go.Proofs.Ytfklllikihjjhaa
