/- Stage 11: turns: how it begins: plain mathematics; arrays of numbers in memory. -/
import Derived.Test.YtbjjphpkpmikjaaKiS
namespace Go.Sch
set_option linter.unusedVariables false
set_option linter.unusedSimpArgs false
theorem sum_rep0 : ∀ n : Nat, (List.replicate n 0).sum = 0
  | 0 => rfl
  | n + 1 => by rw [List.replicate_succ, List.sum_cons, sum_rep0 n]
theorem Fair.start (W : Int) (hW : 1 ≤ W) : Fair [] (List.replicate 30 0) (List.replicate 30 0) W :=
  ⟨by simp, by simp, fun f hf => (by cases hf), fun k x hx h0 => (by
    rw [List.getElem?_replicate] at hx
    split at hx
    · injection hx with hx; exact absurd hx.symm h0
    · cases hx), by simp, ⟨0, [], [], rfl, fun f hf => (by cases hf), fun f hf => (by cases hf)⟩, by rw [sum_rep0]; omega⟩
/-- one more is put in, at the beginning -/
theorem Fair.put {q : List Fl} {left : List Nat} {W : Int} (h : Fair q left (List.replicate 30 0) W) {k x : Nat} (hk : k < 30) (hl : left[k]? = some 0) (hx1 : 1 ≤ x) (hx2 : x ≤ 1024) (hid : ∀ f ∈ q, f.id < 2 * k + 1) (hs : 1 + (left.sum : Int) + (x : Int) ≤ W) :
    Fair (q ++ [⟨2 * k + 1, 1048576, x, true⟩]) (left.set k x) (List.replicate 30 0) W ∧ (left.set k x).sum = left.sum + x := by
  have hsum := sum_set (y := x) hl
  have hkl : k < left.length := by rw [h.ll]; exact hk
  have hne : ∀ f ∈ q, ∀ j, f.id = 2 * j + 1 → k ≠ j := fun f hf j hj e => by have := hid f hf; omega
  refine ⟨⟨by rw [List.length_set]; exact h.ll, by simp, ?_, ?_, ?_, ?_, by omega⟩, by omega⟩
  · intro f hf
    rcases List.mem_append.1 hf with hf | hf
    · obtain ⟨j, hj, h2, h3⟩ := h.at_ f hf
      exact ⟨j, hj, by rw [List.getElem?_set_ne (hne f hf j hj)]; exact h2, h3⟩
    · rw [List.mem_singleton.1 hf]
      exact ⟨k, rfl, by rw [List.getElem?_set_self hkl], by show 0 < x; omega, rfl, by show (1047552 : Int) + (x : Int) ≤ 1048576; omega⟩
  · intro j y hy h0
    by_cases e : k = j
    · subst e
      exact ⟨_, List.mem_append_right _ (List.mem_singleton.2 rfl), rfl⟩
    · rw [List.getElem?_set_ne e] at hy
      obtain ⟨f, hf, h2⟩ := h.gone j y hy h0
      exact ⟨f, List.mem_append_left _ hf, h2⟩
  · rw [List.map_append, List.nodup_append]
    refine ⟨h.nd, by simp, ?_⟩
    intro a ha b hb e
    obtain ⟨f, hf, rfl⟩ := List.mem_map.1 ha
    rw [List.map_singleton, List.mem_singleton] at hb
    have := hid f hf
    have hb' : b = 2 * k + 1 := hb
    omega
  · refine ⟨0, q ++ [⟨2 * k + 1, 1048576, x, true⟩], [], by simp, fun f hf j hj => ?_, fun f hf => (by cases hf)⟩
    have hj30 : j < 30 := by
      rcases List.mem_append.1 hf with hf | hf
      · obtain ⟨i, hi, h2, _⟩ := h.at_ f hf
        have : i = j := by omega
        subst this
        have := (List.getElem?_eq_some_iff.1 h2).1
        rw [h.ll] at this
        exact this
      · rw [List.mem_singleton.1 hf] at hj
        have hj' : 2 * k + 1 = 2 * j + 1 := hj
        omega
    rw [List.getElem?_replicate, if_pos hj30]
end Go.Sch
namespace Go.Proofs.Ytbjjphpkpmikjaa
open Go.RowKit Go.Own Go.Sch
set_option linter.unusedVariables false
set_option linter.unusedSimpArgs false
set_option maxRecDepth 100000
abbrev zz30 : Array Value := #[.int .i64 0, .int .i64 0, .int .i64 0, .int .i64 0, .int .i64 0, .int .i64 0, .int .i64 0, .int .i64 0, .int .i64 0, .int .i64 0, .int .i64 0, .int .i64 0, .int .i64 0, .int .i64 0, .int .i64 0, .int .i64 0, .int .i64 0, .int .i64 0, .int .i64 0, .int .i64 0, .int .i64 0, .int .i64 0, .int .i64 0, .int .i64 0, .int .i64 0, .int .i64 0, .int .i64 0, .int .i64 0, .int .i64 0, .int .i64 0]
def nv (x : Nat) : Value := .int .i64 (x : Int)
theorem nv_at {l : List Nat} {k x : Nat} (h : l[k]? = some x) : (l.map nv)[k]? = some (.int .i64 (x : Int)) := by rw [List.getElem?_map, h]; rfl
theorem zz30_eq : zz30 = ((List.replicate 30 0).map nv).toArray := rfl
theorem nv_set (l : List Nat) (k x : Nat) : (l.map nv).set k (.int .i64 (x : Int)) = (l.set k x).map nv := by rw [List.map_set]; rfl
def a10 (z : Int) : Nat := (bits .and .i64 z 1023).toNat
theorem a10_eq (z : Int) : bits .and .i64 z 1023 = (a10 z : Int) ∧ a10 z ≤ 1023 := by
  have := and_k z 1023 (by decide) 1023 rfl
  unfold a10
  omega
def a14 (z : Int) : Nat := (bits .and .i64 z 16383).toNat
theorem a14_eq (z : Int) : bits .and .i64 z 16383 = (a14 z : Int) ∧ a14 z ≤ 16383 := by
  have := and_k z 16383 (by decide) 16383 rfl
  unfold a14
  omega
section
variable {S : Nat → Prop} {w0 w : World} {L : List Ob} {p : Nat} {fs : List (List UInt8)} {q : List Fl} {W : Int} {F : Nat}
theorem grant0I (s : St S w0 w (SO p fs q W F :: L)) (n W' : Int) (hW : W + n = W') (h1 : -2147483647 ≤ W) (h2 : W ≤ 2147483647) (h3 : -2147483647 - W ≤ n) (h4 : n ≤ 2147483647 - W) :
    Calls Try.prog 10 #[.pointer (some ⟨p, 0, none⟩), .int .i64 0, .int .i64 n] w fun e w' => e = .returned (.int .i64 0) ∧ St S w0 w' (SO p fs q W' F :: L) := by
  subst hW
  exact grant0_ok s n h1 h2 h3 h4
end
end Go.Proofs.Ytbjjphpkpmikjaa
