/- Stage 9, pure: what holds of the streams of a connection, always. -/
import Derived.Test.YtdpheliekdgnhaaNiS
namespace Go.Proofs.Ytdpheliekdgnhaa
open Go.RowKit Go.Own Go.Sm
set_option linter.unusedVariables false
set_option linter.unusedSimpArgs false
structure IdOk (x : Idv) (k : Nat) : Prop where
  l0 : 0 ≤ x.last ∧ x.last ≤ 2147483647
  lp : 0 < x.last → thB x.srv x.last = true
  nx : 1 ≤ x.next ∧ x.next ≤ 2147483649 ∧ thB x.srv x.next = false
  tt : ∀ y, y ∈ x.th → 1 ≤ y ∧ y ≤ x.last ∧ thB x.srv y = true
  oo : ∀ y, y ∈ x.ou → 1 ≤ y ∧ y < x.next ∧ y ≤ 2147483647 ∧ thB x.srv y = false
  sz : x.th.length + x.ou.length ≤ k
theorem thB_two {srv : Bool} {n : Int} (h : 0 ≤ n) : thB srv (n + 2) = thB srv n := by
  unfold thB
  have : (n + 2).tmod 2 = n.tmod 2 := by
    rw [Int.tmod_eq_emod_of_nonneg (by omega), Int.tmod_eq_emod_of_nonneg h]
    omega
  rw [this]
theorem thB_pos {srv : Bool} {n : Int} (h : 0 ≤ n) : ((n.tmod 2 == 1) == srv) = thB srv n := by
  unfold thB
  rw [Int.tmod_eq_emod_of_nonneg h]
  have : n % 2 = 0 ∨ n % 2 = 1 := by omega
  rcases this with e | e <;> rw [e] <;> rfl
theorem class_one {x : Idv} {id : Int} (h : classV x id = 1) : 1 ≤ id ∧ id ≤ 2147483647 ∧ thB x.srv id = true ∧ x.last < id := by
  unfold classV at h
  split at h
  · cases h
  · rename_i hr
    cases hb : thB x.srv id with
    | true =>
      rw [hb] at h
      simp only [cond_true] at h
      split at h
      · exact ⟨by omega, by omega, rfl, by assumption⟩
      · cases h
    | false =>
      rw [hb] at h
      simp only [cond_false] at h
      split at h <;> cases h
theorem class_mk {x : Idv} {id : Int} (h1 : 1 ≤ id) (h2 : id ≤ 2147483647) (h3 : thB x.srv id = true) (h4 : x.last < id) : classV x id = 1 := by
  unfold classV
  rw [if_neg (by omega), h3]
  simp [h4]
variable {x : Idv} {k : Nat}
theorem newI_ok (srv : Bool) (m : Int) : IdOk (newI srv m) 0 := by
  refine ⟨?_, ?_, ?_, ?_, ?_, ?_⟩
  · exact ⟨by show (0 : Int) ≤ 0; decide, by show (0 : Int) ≤ _; decide⟩
  · intro h; exact absurd h (by show ¬ (0 : Int) < 0; decide)
  · cases srv <;> refine ⟨?_, ?_, ?_⟩ <;> simp only [newI] <;> decide
  · intro y h; cases h
  · intro y h; cases h
  · exact Nat.le_refl _
theorem IdOk.mono (h : IdOk x k) {k' : Nat} (hk : k ≤ k') : IdOk x k' := ⟨h.l0, h.lp, h.nx, h.tt, h.oo, Nat.le_trans h.sz hk⟩
theorem IdOk.openNew (h : IdOk x k) {id : Int} (hc : classV x id = 1) : ¬ id ∈ x.th := fun hm => by
  have := (class_one hc).2.2.2
  have := (h.tt id hm).2.1
  omega
theorem IdOk.nextNew (h : IdOk x k) : ¬ x.next ∈ x.ou := fun hm => by
  have := (h.oo _ hm).2.1
  omega
theorem IdOk.open_ (h : IdOk x k) (id : Int) : IdOk (openS x id) (k + 1) ∧ (openS x id).srv = x.srv := by
  unfold openS
  split
  · rename_i hc
    obtain ⟨h1, h2, h3, h4⟩ := class_one hc
    have tt' : ∀ y, y ∈ x.th → 1 ≤ y ∧ y ≤ id ∧ thB x.srv y = true := fun y hy => by
      obtain ⟨a, b, c⟩ := h.tt y hy
      exact ⟨a, by omega, c⟩
    split
    · exact ⟨⟨⟨by show 0 ≤ id; omega, h2⟩, fun _ => h3, h.nx, tt', h.oo, Nat.le_succ_of_le h.sz⟩, rfl⟩
    · refine ⟨⟨⟨by show 0 ≤ id; omega, h2⟩, fun _ => h3, h.nx, fun y hy => ?_, h.oo, ?_⟩, rfl⟩
      · rcases List.mem_append.1 hy with hy | hy
        · exact tt' y hy
        · obtain rfl : y = id := by simpa using hy
          exact ⟨h1, Int.le_refl _, h3⟩
      · have := h.sz
        simp only [List.length_append, List.length_cons, List.length_nil]
        omega
  · exact ⟨h.mono (by omega), rfl⟩
theorem IdOk.next_ (h : IdOk x k) : IdOk (nextS x) (k + 1) ∧ (nextS x).srv = x.srv := by
  unfold nextS
  split
  · exact ⟨h.mono (by omega), rfl⟩
  · split
    · exact ⟨h.mono (by omega), rfl⟩
    · rename_i _ hn
      obtain ⟨n1, n2, n3⟩ := h.nx
      refine ⟨⟨h.l0, h.lp, ⟨by show 1 ≤ x.next + 2; omega, by show x.next + 2 ≤ _; omega, ?_⟩, h.tt, fun y hy => ?_, ?_⟩, rfl⟩
      · show thB x.srv (x.next + 2) = false
        rw [thB_two (by omega)]
        exact n3
      · rcases List.mem_append.1 hy with hy | hy
        · obtain ⟨a, b, c, d⟩ := h.oo y hy
          exact ⟨a, by show y < x.next + 2; omega, c, d⟩
        · obtain rfl : y = x.next := by simpa using hy
          exact ⟨n1, by show x.next < x.next + 2; omega, by omega, n3⟩
      · have := h.sz
        simp only [List.length_append, List.length_cons, List.length_nil]
        omega
theorem len_out9_le {z : Int} {l : List Int} : (out9 z l).length ≤ l.length := List.length_filter_le _ _
theorem IdOk.close_ (h : IdOk x k) (id : Int) : IdOk (closeS x id) k ∧ (closeS x id).srv = x.srv ∧ (closeS x id).last = x.last ∧ (closeS x id).next = x.next ∧ (closeS x id).most = x.most ∧ (closeS x id).lim = x.lim := by
  unfold closeS
  have hs := h.sz
  cases thB x.srv id
  · have hl := len_out9_le (z := id) (l := x.ou)
    refine ⟨⟨h.l0, h.lp, h.nx, h.tt, fun y hy => h.oo y (mem_out9.1 hy).1, ?_⟩, rfl, rfl, rfl, rfl, rfl⟩
    show x.th.length + (out9 id x.ou).length ≤ k
    omega
  · have hl := len_out9_le (z := id) (l := x.th)
    refine ⟨⟨h.l0, h.lp, h.nx, fun y hy => h.tt y (mem_out9.1 hy).1, h.oo, ?_⟩, rfl, rfl, rfl, rfl, rfl⟩
    show (out9 id x.th).length + x.ou.length ≤ k
    omega
theorem IdOk.most_ (h : IdOk x k) (z : Int) : IdOk { x with most := z } k := ⟨h.l0, h.lp, h.nx, h.tt, h.oo, h.sz⟩
theorem IdOk.lim_ (h : IdOk x k) (z : Int) : IdOk { x with lim := z } k := ⟨h.l0, h.lp, h.nx, h.tt, h.oo, h.sz⟩
end Go.Proofs.Ytdpheliekdgnhaa
