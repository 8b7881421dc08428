/- Stage 11: turns: one round of the law, all that is wanted of it. -/
import Derived.Test.YtbjjphpkpmikjaaKiT
namespace Go.Proofs.Ytbjjphpkpmikjaa
open Go.RowKit Go.Own Go.Sch
set_option linter.unusedVariables false
set_option linter.unusedSimpArgs false
structure F2 (N : Nat) (q : List Fl) (left turn : List Nat) (W : Int) (F gh : Nat) : Prop where
  fair : Sch.Fair q left turn W
  sum : left.sum ≤ gh
  ok : SdOk q W F
  off : ∀ j : Nat, N ≤ j → j < 30 → left[j]? = some 0
  tb : ∀ (j y : Nat), turn[j]? = some y → y + gh ≤ 30720
theorem F2.next {N : Nat} {f : Fl} {r : List Fl} {left turn : List Nat} {W : Int} {F gh : Nat} (h : F2 N (f :: r) left turn W F gh) :
    ∃ k m t wt lm q', k < N ∧ k < 30 ∧ left[k]? = some wt ∧ wt - m = lm ∧ m ≤ wt ∧ 1 ≤ m ∧ wt ≤ 30720 ∧ turn[k]? = some t ∧ t ≤ 30720 ∧ 1 ≤ gh ∧ nextQ W F (100000 : Int).toNat (f :: r) = some (2 * k + 1, m, decide (lm = 0), q') ∧
      F2 N q' (left.set k lm) (turn.set k (t + 1)) (W - (m : Int)) F (gh - 1) ∧ ∀ (i x y : Nat), (left.set k lm)[i]? = some x → 0 < x → (turn.set k (t + 1))[i]? = some y → t + 1 ≤ y + 1 := by
  obtain ⟨k, m, t, q', hid, hk, hl, ht, h1, h2, hn, hf, hc⟩ := h.fair.next (F := F) (cap := (100000 : Int).toNat) (by have := h.ok.f1; omega) (by decide)
  have hs := sum_mem hl
  have hs2 := h.sum
  have hg := h.tb k t ht
  have hW := h.fair.sum
  have hset := sum_set (y := f.wait - m) hl
  have hkN : k < N := by
    rcases Nat.lt_or_ge k N with h3 | h3
    · exact h3
    · have := h.off k h3 hk
      rw [hl] at this
      injection this with this
      omega
  refine ⟨k, m, t, f.wait, f.wait - m, q', hkN, hk, hl, rfl, h2, h1, by omega, ht, by omega, by omega, hn, ⟨hf, by omega, h.ok.next hn (by omega), fun j h3 h4 => ?_, fun j y hy => ?_⟩, hc⟩
  · rw [List.getElem?_set_ne (by omega)]; exact h.off j h3 h4
  · by_cases e : k = j
    · subst e
      rw [List.getElem?_set_self (by rw [h.fair.lt]; exact hk)] at hy
      injection hy with hy
      omega
    · rw [List.getElem?_set_ne e] at hy
      have := h.tb j y hy
      omega
theorem F2.start {k N : Nat} {q : List Fl} {left : List Nat} {W : Int} {F : Nat} (h : Sch.Fair q left (List.replicate 30 0) W) (hk : k = N) (h30 : k ≤ 30) (hs : left.sum ≤ 1024 * k) (hid : ∀ f ∈ q, f.id < 2 * k + 1) (hoff : ∀ j : Nat, k ≤ j → j < 30 → left[j]? = some 0) (hw : ∀ f ∈ q, f.wait ≤ 1024 ∧ f.win = 1048576) (hl : q.length = k)
    (hW : W ≤ 2147483647) (h1 : -2147483647 ≤ W) (hF : 1 ≤ F) (hF2 : F ≤ 16777215) : F2 N q left (List.replicate 30 0) W F 30720 := by
  subst hk
  refine ⟨h, by omega, ⟨fun f hf => ?_, by omega, h1, hW, hF, hF2⟩, hoff, fun j y hy => ?_⟩
  · obtain ⟨i, hi, _⟩ := h.at_ f hf
    have := hid f hf
    have := hw f hf
    omega
  · rw [List.getElem?_replicate] at hy
    split at hy
    · injection hy with hy; omega
    · cases hy
end Go.Proofs.Ytbjjphpkpmikjaa
