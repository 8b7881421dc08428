/- Stage 8: what is told and applied is what it was: the pure side. -/
import Derived.Test.YthdikinpociiaaaSeA
namespace Go.Set8
def mf (x lo hi d : Int) : Int := if x < lo ∨ hi < x then d else x
def mayV (v : Va) : Va := ⟨mf v.tab 0 4294967295 4096, v.push, mf v.str 0 4294967295 100, mf v.win 0 2147483647 65535, mf v.frm 16384 16777215 16384, mf v.lst 0 4294967295 100⟩
def okM (b : Va) : Prop := (0 ≤ b.tab ∧ b.tab ≤ 4294967295) ∧ (0 ≤ b.str ∧ b.str ≤ 4294967295) ∧ (0 ≤ b.win ∧ b.win ≤ 2147483647) ∧ (16384 ≤ b.frm ∧ b.frm ≤ 16777215) ∧ (0 ≤ b.lst ∧ b.lst ≤ 4294967295)
theorem mf_ok (x lo hi d : Int) (h : lo ≤ d ∧ d ≤ hi) : lo ≤ mf x lo hi d ∧ mf x lo hi d ≤ hi := by
  unfold mf
  split <;> omega
theorem may_ok (v : Va) : okM (mayV v) := ⟨mf_ok _ _ _ _ (by omega), mf_ok _ _ _ _ (by omega), mf_ok _ _ _ _ (by omega), mf_ok _ _ _ _ (by omega), mf_ok _ _ _ _ (by omega)⟩
theorem mf_ways (x lo hi d y : Int) (h : mf x lo hi d = y) : (x < lo ∧ y = d) ∨ (¬ x < lo ∧ hi < x ∧ y = d) ∨ (¬ x < lo ∧ ¬ hi < x ∧ y = x) := by
  unfold mf at h
  split at h <;> omega
def mixV (c b : Va) (k : Nat) : Va := ⟨if 1 < k then b.tab else c.tab, if 2 < k then b.push else c.push, if 3 < k then b.str else c.str, if 4 < k then b.win else c.win, if 5 < k then b.frm else c.frm, if 6 < k then b.lst else c.lst⟩
theorem allW_app (v : Va) (srv : Bool) (r : List (Int × Nat)) : ∀ (l : List (Int × Nat)) (n m : Va), allW v srv n l = (m, ⟨false, 0⟩) → allW v srv n (l ++ r) = allW v srv m r
  | [], n, m, h => by
    simp only [allW, Prod.mk.injEq] at h
    rw [List.nil_append, h.1]
  | s :: l, n, m, h => by
    rw [allW] at h
    rw [List.cons_append, allW]
    obtain ⟨x, g, hx⟩ : ∃ x g, applyV n s srv = (x, g) := ⟨_, _, rfl⟩
    rw [hx] at h ⊢
    cases hg : g.is with
    | true =>
      simp only [hg, if_pos, Prod.mk.injEq] at h
      rw [h.2] at hg
      cases hg
    | false =>
      simp only [hg] at h ⊢
      exact allW_app v srv r l x m h
theorem can_of {n : Int} (h : 0 ≤ n ∧ n ≤ 4294967295) : can n = true := by unfold can; exact decide_eq_true h
theorem tell1_no (k : Nat) (n : Int) : tell1 k n n = [] := by unfold tell1; rw [if_neg (by simp)]
theorem tell1_yes {k : Nat} {n o : Int} (h : 0 ≤ n ∧ n ≤ 4294967295) (hne : n ≠ o) : tell1 k n o = [((k : Int), n.toNat)] := by unfold tell1; rw [if_pos ⟨hne, can_of h⟩]
theorem mix_step (v a b c : Va) (hb : okM b) (hc : c = a ∨ c = b) (k : Nat) (hk : k < 7) : allW v false (mixV c b k) (tell1 k (num b k) (num a k)) = (mixV c b (k + 1), ⟨false, 0⟩) := by
  obtain ⟨⟨b1, b2⟩, ⟨b3, b4⟩, ⟨b5, b6⟩, ⟨b7, b8⟩, b9, b10⟩ := hb
  match k, hk with
  | 0, _ =>
    show allW v false (mixV c b 0) (tell1 0 0 0) = _
    rw [tell1_no]; rfl
  | 1, _ =>
    show allW v false (mixV c b 1) (tell1 1 b.tab a.tab) = _
    by_cases h : b.tab = a.tab
    · have e : c.tab = b.tab := by rcases hc with rfl | rfl; exact h.symm; rfl
      rw [← h, tell1_no]
      simp [allW, mixV, e]
    · rw [tell1_yes ⟨b1, b2⟩ h]
      simp [allW, applyV, wrong, withV, mixV, Int.toNat_of_nonneg b1]
  | 2, _ =>
    show allW v false (mixV c b 2) (tell1 2 (pushN b.push) (pushN a.push)) = _
    by_cases h : b.push = a.push
    · have e : c.push = b.push := by rcases hc with rfl | rfl; exact h.symm; rfl
      rw [← h, tell1_no]
      simp [allW, mixV, e]
    · have hne : pushN b.push ≠ pushN a.push := by cases hb : b.push <;> cases ha : a.push <;> simp_all [pushN]
      rw [tell1_yes (by cases b.push <;> simp [pushN]) hne]
      cases hb : b.push <;> simp [allW, applyV, wrong, withV, mixV, pushN, hb]
  | 3, _ =>
    show allW v false (mixV c b 3) (tell1 3 b.str a.str) = _
    by_cases h : b.str = a.str
    · have e : c.str = b.str := by rcases hc with rfl | rfl; exact h.symm; rfl
      rw [← h, tell1_no]
      simp [allW, mixV, e]
    · rw [tell1_yes ⟨b3, b4⟩ h]
      simp [allW, applyV, wrong, withV, mixV, Int.toNat_of_nonneg b3]
  | 4, _ =>
    show allW v false (mixV c b 4) (tell1 4 b.win a.win) = _
    by_cases h : b.win = a.win
    · have e : c.win = b.win := by rcases hc with rfl | rfl; exact h.symm; rfl
      rw [← h, tell1_no]
      simp [allW, mixV, e]
    · rw [tell1_yes ⟨b5, by omega⟩ h]
      have h2 : ¬ 2147483647 < b.win.toNat := by omega
      simp [allW, applyV, wrong, withV, mixV, Int.toNat_of_nonneg b5, h2]
  | 5, _ =>
    show allW v false (mixV c b 5) (tell1 5 b.frm a.frm) = _
    by_cases h : b.frm = a.frm
    · have e : c.frm = b.frm := by rcases hc with rfl | rfl; exact h.symm; rfl
      rw [← h, tell1_no]
      simp [allW, mixV, e]
    · rw [tell1_yes ⟨by omega, by omega⟩ h]
      have h3 : (0 : Int) ≤ b.frm := by omega
      simp [allW, applyV, wrong, withV, mixV, Int.toNat_of_nonneg h3, b7, b8]
  | 6, _ =>
    show allW v false (mixV c b 6) (tell1 6 b.lst a.lst) = _
    by_cases h : b.lst = a.lst
    · have e : c.lst = b.lst := by rcases hc with rfl | rfl; exact h.symm; rfl
      rw [← h, tell1_no]
      simp [allW, mixV, e]
    · rw [tell1_yes ⟨b9, b10⟩ h]
      simp [allW, applyV, wrong, withV, mixV, Int.toNat_of_nonneg b9]
theorem mix_all (v a b c : Va) (hb : okM b) (hc : c = a ∨ c = b) : ∀ k, k ≤ 7 → allW v false c (tellK a b k) = (mixV c b k, ⟨false, 0⟩)
  | 0, _ => rfl
  | k + 1, hk => by
    rw [tellK, allW_app v false _ _ _ _ (mix_all v a b c hb hc k (by omega))]
    exact mix_step v a b c hb hc k (by omega)
theorem back_pure (a b : Va) (hb : okM b) : allV a (tellV a b) false = (b, ⟨false, 0⟩) ∧ allV b (tellV a b) false = (b, ⟨false, 0⟩) :=
  ⟨mix_all a a b a hb (.inl rfl) 7 (by omega), mix_all b a b b hb (.inr rfl) 7 (by omega)⟩
theorem tell_none (b : Va) : tellV b b = [] := by
  show tellK b b 7 = []
  simp [tellK, tell1_no]
theorem tell_len6 (a b : Va) : ∀ k, (tellK a b (k + 1)).length ≤ k
  | 0 => by rw [tellK_one]; simp
  | k + 1 => by
    have := tell_len6 a b k
    rw [tellK, List.length_append]
    have : (tell1 (k + 1) (num b (k + 1)) (num a (k + 1))).length ≤ 1 := by unfold tell1; split <;> simp
    omega
theorem tellK_ids (a b : Va) : ∀ k, ∀ s ∈ tellK a b k, s.2 < 4294967296
  | 0, s, h => by cases h
  | k + 1, s, h => by
    rw [tellK, List.mem_append] at h
    rcases h with h | h
    · exact tellK_ids a b k s h
    · unfold tell1 at h
      split at h
      · rename_i hc
        have h2 : 0 ≤ num b k ∧ num b k ≤ 4294967295 := by have := hc.2; unfold can at this; exact of_decide_eq_true this
        simp at h
        subst h
        show (num b k).toNat < 4294967296
        omega
      · cases h
end Go.Set8
