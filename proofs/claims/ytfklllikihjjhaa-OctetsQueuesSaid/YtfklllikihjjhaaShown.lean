/- The contract of the laws' common case 'shown', over the seat's translation. -/
import Derived.Test.YtfklllikihjjhaaQueue
namespace Go.Proofs.Ytfklllikihjjhaa
open Go.ChangeShapes Go.WideShapes Go.ChangeAt Go.RowKit Go.Own
set_option linter.unusedVariables false

theorem QAt.fr {w w' : World} {p most : Nat} {sv : Value} {xs : List UInt8} {S : Nat → Prop} (h : QAt w p sv most xs) (hf : Fr S w w') (hp : ¬ S p) (hs : ∀ g, sv.ownBlock = some g → ¬ S g) : QAt w' p sv most xs :=
  ⟨h.1.fr hf hp, own_fr h.2.1 hf hs, h.2.2⟩
theorem QAt.alloc {w : World} {p most : Nat} {sv : Value} {xs : List UInt8} (h : QAt w p sv most xs) (o : Obj) : QAt (w.alloc o) p sv most xs :=
  h.fr (S := fun _ => False) ((Fr.refl _ _).alloc o) (fun h => h) (fun _ _ h => h)
theorem QAt.lt {w : World} {p most : Nat} {sv : Value} {xs : List UInt8} (h : QAt w p sv most xs) : p < w.heap.size ∧ ∀ g, sv.ownBlock = some g → g < w.heap.size := ⟨h.1.lt, fun g hg => own_lt h.2.1 hg⟩

theorem lit3 (W : World) : Rd (W.alloc (.cells #[.int .u8 1, .int .u8 2, .int .u8 3] 5)) 1 (some ⟨W.heap.size, 0, none⟩) 3 (([1, 2, 3] : List UInt8).map BV) :=
  Rd.of_blk (n := 3) (size := 1) (Blk.new W 5 [.int .u8 1, .int .u8 2, .int .u8 3]) (by simp)
theorem lit4 (W : World) : Rd (W.alloc (.cells #[.int .u8 1, .int .u8 2, .int .u8 3, .int .u8 4] 5)) 1 (some ⟨W.heap.size, 0, none⟩) 4 (([1, 2, 3, 4] : List UInt8).map BV) :=
  Rd.of_blk (n := 4) (size := 1) (Blk.new W 5 [.int .u8 1, .int .u8 2, .int .u8 3, .int .u8 4]) (by simp)
theorem lit1 (W : World) : Rd (W.alloc (.cells #[.int .u8 5] 5)) 1 (some ⟨W.heap.size, 0, none⟩) 1 (([5] : List UInt8).map BV) :=
  Rd.of_blk (n := 1) (size := 1) (Blk.new W 5 [.int .u8 5]) (by simp)
theorem uint3 (W : World) : Calls Try.prog 11 #[.slice (some ⟨W.heap.size, 0, none⟩) 3 3, .int .i64 2] (W.alloc (.cells #[.int .u8 1, .int .u8 2, .int .u8 3] 5)) fun e w' =>
    e = .returned (.tuple #[.int .u64 258, .bool true]) ∧ (W.alloc (.cells #[.int .u8 1, .int .u8 2, .int .u8 3] 5)) = w' :=
  Uint_yes _ 3 3 [1, 2, 3] 2 _ (lit3 W) (by omega) (by omega) (by omega) (by omega) (by omega)
theorem uint4 (A : Option Addr) (W : World) : Calls Try.prog 11 #[.slice A 3 3, .int .i64 4] W fun e w' => e = .returned (.tuple #[.int .u64 0, .bool false]) ∧ W = w' :=
  Uint_no _ 3 3 4 _ (by omega)
theorem new3 (W : World) : Calls Try.prog 12 #[.int .i64 3] W fun e w' => ∃ p, e = .returned (.pointer (some ⟨p, 0, none⟩)) ∧ QAt w' p (.slice none 0 0) 3 [] ∧ W.heap.size ≤ p ∧ Below W.heap.size W w' := New_any 3 W
theorem push4 (p : Nat) (W : World) (h : QAt W p (.slice none 0 0) 3 []) : Calls Try.prog 14 #[.pointer (some ⟨p, 0, none⟩), .slice (some ⟨W.heap.size, 0, none⟩) 4 4] (W.alloc (.cells #[.int .u8 1, .int .u8 2, .int .u8 3, .int .u8 4] 5)) fun e w' =>
    ∃ sv, e = .returned (.int .i64 3) ∧ QAt w' p sv 3 [1, 2, 3] ∧ (∀ g, sv.ownBlock = some g → W.heap.size ≤ g) ∧ ∀ B, B ≤ p → B ≤ W.heap.size → Below B W w' := by
  refine (Push_any p (.slice none 0 0) 3 [] _ 4 4 [1, 2, 3, 4] _ (h.alloc _) (lit4 W) (by omega) (by omega)).mono ?_
  rintro e w' ⟨sv, m, rfl, hm, hq, hf, ho⟩
  obtain rfl : m = 3 := by simpa using hm
  refine ⟨sv, rfl, hq, fun g hg => ?_, fun B h1 h2 => ((Below.refl _ _).alloc h2 _).trans (hf.below (by simp; omega) (fun i _ h => ?_))⟩
  · rcases ho with ho | ⟨g', ho, hl⟩
    · rw [hg] at ho; simp [Value.ownBlock] at ho
    · rw [hg] at ho
      injection ho with ho
      subst ho
      simp at hl; omega
  · rcases h with rfl | h
    · exact h1
    · simp [Value.ownBlock] at h
theorem pop2 (p : Nat) (sv : Value) (W : World) (h : QAt W p sv 3 [1, 2, 3]) : Calls Try.prog 16 #[.pointer (some ⟨p, 0, none⟩), .int .i64 2] W fun e w' =>
    ∃ sv' g, e = .returned (.slice (some ⟨g, 0, none⟩) 2 2) ∧ Blk w' g 5 (([1, 2] : List UInt8).map BV) ∧ W.heap.size ≤ g ∧ QAt w' p sv' 3 [3] ∧ sv'.ownBlock = sv.ownBlock ∧ ∀ B, B ≤ p → B ≤ W.heap.size → (∀ g, sv.ownBlock = some g → B ≤ g) → Below B W w' := by
  refine (Pop_any p sv 3 [1, 2, 3] 2 W h).mono ?_
  rintro e w' ⟨sv', g, m, rfl, hm, hb, hg, hq, hf, ho⟩
  obtain rfl : m = 2 := hm
  exact ⟨sv', g, rfl, hb, hg, hq, ho, fun B h1 h2 h3 => hf.below h2 (fun i _ h => h.elim (fun e => e ▸ h1) (fun e => h3 i e.symm))⟩
theorem put3 (W : World) : Calls Try.prog 10 #[.slice (some ⟨W.heap.size, 0, none⟩) 1 1, .int .u64 258, .int .i64 3] (W.alloc (.cells #[.int .u8 5] 5)) fun e w' => ∃ g, e = .returned (.slice (some ⟨g, 0, none⟩) 4 4) ∧
      Blk w' g 5 (([5, 0, 1, 2] : List UInt8).map BV) ∧ W.heap.size < g ∧ ∀ B, B ≤ W.heap.size → Below B W w' := by
  refine (Put_yes _ 1 1 [5] 258 3 _ (lit1 W) (by omega) (by omega) (by omega) (by omega) (by omega)).mono ?_
  rintro e w' ⟨g, rfl, hb, hg, hl⟩
  refine ⟨g, rfl, hb, by simp at hg; omega, fun B h => ((Below.refl _ _).alloc h _).trans (hl.mono (by simp; omega))⟩

theorem conv_blk {W : World} {g n c : Nat} {xs : List UInt8} (h : Blk W g 5 (xs.map BV)) (hn : xs.length = n) : (convert 22 9 (.slice (some ⟨g, 0, none⟩) n c)).run Try.prog W = .ok (.string ⟨xs.toArray⟩) W :=
  run_conv_bytes (P := Try.prog) Try.underlying22 Try.underlying5 Try.underlying9 (by
    have := Rd.of_blk (n := n) (size := 1) h (by simp; omega)
    rw [Nat.mul_one, List.take_of_length_le (by simp; omega)] at this
    exact this)

set_option maxHeartbeats 400000 in
theorem shown_any (w : World) : Calls Try.prog 9 #[] w fun e w' => e = .returned (.bool true) ∧ Below w.heap.size w w' := by
  go_enter Try.func9, Try.ntmps9
  go_wp2_with (first
    | (go_at_call 11; (with_reducible refine (uint3 _).mono ?_); rintro e w' ⟨rfl, rfl⟩)
    | (go_at_call 11; (with_reducible refine (uint4 _ _).mono ?_); rintro e w' ⟨rfl, rfl⟩)
    | (go_at_call 12; (with_reducible refine (new3 _).mono ?_); rintro e w3 ⟨p, rfl, hq, hp, hb3⟩; have Hq := Lib.hid hq; have Hb3 := Lib.hid hb3; clear hq hb3)
    | (go_at_call 14; (with_reducible refine (push4 _ _ Hq.out).mono ?_); rintro e w4 ⟨sv, rfl, hq4, ho4, hb4⟩; have Hq4 := Lib.hid hq4; have Hb4 := Lib.hid hb4; have Ho4 := Lib.hid ho4; clear hq4 hb4 ho4)
    | (go_at_call 16; (with_reducible refine (pop2 _ _ _ Hq4.out).mono ?_); rintro e w5 ⟨sv', g, rfl, hB, hg, hq5, ho5, hb5⟩; have HB := Lib.hid hB; have Hq5 := Lib.hid hq5; have Ho5 := Lib.hid ho5; have Hb5 := Lib.hid hb5; clear hB hq5 ho5 hb5)
    | (go_at_call 10; (with_reducible refine (put3 _).mono ?_); rintro e w6 ⟨g6, rfl, hB6, hg6, hb6⟩; have hc6 := conv_blk (n := 4) (c := 4) hB6 rfl; have hc5 := conv_blk (n := 2) (c := 2) (HB.out.below (hb6 w5.heap.size (Nat.le_refl _)) HB.out.lt) rfl; have Hb6 := Lib.hid hb6; clear hb6 hB6)
    | (go_at_call 21; (with_reducible refine (Room_any p sv' 3 [3] w6 (Hq5.out.fr (Fr.of_below (S := fun i => w5.heap.size ≤ i) (Hb6.out _ (Nat.le_refl _)) (fun i _ h => h)) (by have := Hq5.out.lt.1; omega) (fun g hg h => by have := Hq5.out.lt.2 g hg; omega))).mono ?_); rintro e w7 ⟨rfl, k7, rfl⟩))
  go_ret
  refine ⟨rfl, ?_⟩
  have s3 : w.heap.size ≤ w3.heap.size := by have := Hb3.out.size; simp at this; omega
  have sp : w.heap.size ≤ p := by simp at hp; omega
  have b3 : Below w.heap.size w w3 := (((Below.refl _ _).alloc (Nat.le_refl _) _).alloc (by simp) _).trans (Hb3.out.mono (by simp; omega))
  have b4 := b3.trans (Hb4.out w.heap.size sp s3)
  have b5 := b4.trans (Hb5.out w.heap.size sp b4.size (fun g hg => by have := Ho4.out g hg; omega))
  exact below_drewN (b5.trans (Hb6.out w.heap.size b5.size)) _
end Go.Proofs.Ytfklllikihjjhaa
