/- Stage 11: what the law SchedWindows remembers of the streams, in memory and in mathematics. -/
import Derived.Test.YtbjjphpkpmikjaaKlI
namespace Go.Sch
set_option linter.unusedVariables false
set_option linter.unusedSimpArgs false
theorem grantQ_at {a b : List Fl} {f : Fl} {k : Nat} {n : Int} (hid : f.id = 2 * k + 1) (h : ∀ g ∈ a ++ b, g.id ≠ f.id) : grantQ (2 * k + 1) n (a ++ f :: b) = a ++ ⟨f.id, f.win + n, f.wait, f.en⟩ :: b := by
  have key : ∀ l : List Fl, (∀ g ∈ l, g.id ≠ f.id) → grantQ (2 * k + 1) n l = l := by
    intro l hl
    unfold grantQ
    conv => rhs; rw [← List.map_id l]
    refine List.map_congr_left fun g hg => ?_
    rw [if_neg (by rw [← hid]; exact hl g hg)]
    rfl
  have : grantQ (2 * k + 1) n (a ++ f :: b) = grantQ (2 * k + 1) n a ++ (if f.id = 2 * k + 1 then (⟨f.id, f.win + n, f.wait, f.en⟩ : Fl) else f) :: grantQ (2 * k + 1) n b := by
    unfold grantQ
    rw [List.map_append, List.map_cons]
  rw [this, if_pos hid, key a (fun g hg => h g (List.mem_append_left _ hg)), key b (fun g hg => h g (List.mem_append_right _ hg))]
theorem Ties.grant2 {a b : List Fl} {f : Fl} {l : List Fw} {k : Nat} {x : Fw} (h : Ties (a ++ f :: b) l) (hid : f.id = 2 * k + 1) (hx : l[k]? = some x) (n : Int) : Ties (a ++ ⟨f.id, f.win + n, f.wait, f.en⟩ :: b) (l.set k ⟨x.win + n, x.oct, x.en⟩) := by
  have := h.grant hx n
  rwa [grantQ_at hid (h.one rfl).1] at this
/-- how far a window and what waits may be, behind k grants -/
def FB (k : Nat) (l : List Fw) : Prop := ∀ x ∈ l, -1000 ≤ x.win ∧ x.win ≤ 1047575 + 65535 * (k : Int) ∧ x.oct ≤ 1048575
theorem FB.at_ {k : Nat} {l : List Fw} (h : FB k l) {i : Nat} {x : Fw} (hx : l[i]? = some x) : -1000 ≤ x.win ∧ x.win ≤ 1047575 + 65535 * (k : Int) ∧ x.oct ≤ 1048575 := h x (List.mem_of_getElem? hx)
theorem FB.up {k : Nat} {l : List Fw} (h : FB k l) : FB (k + 1) l := fun x hx => by have := h x hx; omega
theorem FB.set {k : Nat} {l : List Fw} (h : FB k l) (i : Nat) {x : Fw} (hx : -1000 ≤ x.win ∧ x.win ≤ 1047575 + 65535 * (k : Int) ∧ x.oct ≤ 1048575) : FB k (l.set i x) := fun y hy => by
  rcases List.mem_or_eq_of_mem_set hy with hy | rfl
  · exact h y hy
  · exact hx
end Go.Sch
namespace Go.Proofs.Ytbjjphpkpmikjaa
open Go.RowKit Go.Own Go.Sch
set_option linter.unusedVariables false
set_option linter.unusedSimpArgs false
set_option maxRecDepth 100000
theorem FB.start (l : List Rw) : FB 0 (flowsOf l) := fun x hx => by have := flowsOf_mem hx; omega
def a16 (z : Int) : Nat := (bits .and .i64 z 65535).toNat
theorem a16_eq (z : Int) : bits .and .i64 z 65535 = (a16 z : Int) ∧ a16 z ≤ 65535 := by
  have := and_k z 65535 (by decide) 65535 rfl
  unfold a16
  omega
def a5 (z : Int) : Nat := (bits .and .i64 z 31).toNat
theorem a5_eq (z : Int) : bits .and .i64 z 31 = (a5 z : Int) ∧ a5 z ≤ 31 := by
  have := and_k z 31 (by decide) 31 rfl
  unfold a5
  omega
theorem bit_odd (y : Nat) (hy : y < 1000) : bits .and .i64 ((2 * y + 1 : Nat) : Int) 1 = 1 := by
  have e : bits .and .i64 ((2 * y + 1 : Nat) : Int) 1 = IntKind.i64.wrap ((BitVec.ofInt 64 ((2 * y + 1 : Nat) : Int) &&& BitVec.ofInt 64 ((1 : Nat) : Int)).toNat : Int) := rfl
  rw [e, BitVec.toNat_and, ofInt64k (2 * y + 1) (by omega), ofInt64k 1 (by omega), Nat.and_one_is_mod, show (2 * y + 1) % 2 = 1 by omega]
  rfl
theorem run_max2 {P : Program} {w : World} (ts : Array TypeId) (t : TypeId) (x y : Int) : (Builtin.max_ ts t #[.int .i64 x, .int .i64 y]).run P w = .ok (.int .i64 (max x y)) w := by
  have h : ∀ a b : Int, (Builtin.max2 (.int .i64 a) (.int .i64 b)) = pure (.int .i64 (max a b)) := fun a b => by
    simp only [Builtin.max2]
    rw [Int.max_def]
    split <;> split <;> first | rfl | (congr 2; omega)
  simp [Builtin.max_, h]
theorem frV_max (n : Int) : (frV n : Int) ≤ max n 1 := by
  rcases frV_ways n _ rfl with ⟨h1, h2⟩ | ⟨h1, h2, h3⟩ | ⟨h1, h2, h3⟩ <;> omega
theorem wcells_set : ∀ (l : List Fw) (k : Nat) (r r' : Fw) (j : Nat) (u : Value), l[k]? = some r → j < 3 → (wcell r).set j u = wcell r' → (wcells l).set (k * 3 + j) u = wcells (l.set k r')
  | [], k, r, r', j, u, h, _, _ => by simp at h
  | x :: l, 0, r, r', j, u, h, hj, hu => by
    simp at h
    subst h
    have h1 : wcells (x :: l) = wcell x ++ wcells l := rfl
    have h2 : wcells ((x :: l).set 0 r') = wcell r' ++ wcells l := rfl
    rw [h1, h2, Nat.zero_mul, Nat.zero_add, List.set_append_left _ _ (by simpa [wcell] using hj), hu]
  | x :: l, k + 1, r, r', j, u, h, hj, hu => by
    rw [List.getElem?_cons_succ] at h
    have h1 : wcells (x :: l) = wcell x ++ wcells l := rfl
    have h2 : wcells ((x :: l).set (k + 1) r') = wcell x ++ wcells (l.set k r') := rfl
    have hl : (wcell x).length = 3 := rfl
    rw [h1, h2, List.set_append_right _ _ (by omega), hl, show (k + 1) * 3 + j - 3 = k * 3 + j by omega, wcells_set l k r r' j u h hj hu]
section
variable {S : Nat → Prop} {w0 w : World} {fl : List Fw} {L : List Ob} {O : Ob} {N d : Nat}
theorem flow_set {b o k : Nat} {x : Fw} (s : St S w0 w (O :: QO 32 3 (.slice (some ⟨b, o, none⟩) N d) N (wcells fl) :: L)) (hx : fl[k]? = some x) (j : Nat) (hj : j < 3) (u : Value) (hu : u.oneCell' = true) (x' : Fw) (hxx : (wcell x).set j u = wcell x') :
    St S w0 (w.setCell ⟨b, o + (k * 3 + j), none⟩ u) (O :: QO 32 3 (.slice (some ⟨b, o, none⟩) N d) N (wcells (fl.set k x')) :: L) ∧ w.frozen? ⟨b, o + (k * 3 + j), none⟩ = false := by
  obtain ⟨X, h, _, _, go⟩ := St.focus1 s
  have hk := (List.getElem?_eq_some_iff.1 hx).1
  obtain ⟨h1, h2⟩ := Qu.set h (k * 3 + j) (by rw [wcells_length]; omega) u hu
  rw [wcells_set fl k x x' j u hx hj hxx] at h1
  have := go _ (QO 32 3 (.slice (some ⟨b, o, none⟩) N d) N (wcells (fl.set k x'))) [] (St.changed (framed_QO ..) h1 (fun i hi => .inl hi) h2)
  rw [List.append_nil] at this
  exact ⟨this, h.frozen _⟩
theorem flow_zero {b o k : Nat} {x : Fw} (s : St S w0 w (O :: QO 32 3 (.slice (some ⟨b, o, none⟩) N d) N (wcells fl) :: L)) (hx : fl[k]? = some x) :
    w.frozen? ⟨b, o + k * 3, none⟩ = false ∧ w.frozen? ⟨b, o + k * 3 + 1, none⟩ = false ∧ w.frozen? ⟨b, o + k * 3 + 2, none⟩ = false ∧
    St S w0 (((w.setCell ⟨b, o + k * 3, none⟩ (.int .i64 0)).setCell ⟨b, o + k * 3 + 1, none⟩ (.int .i64 0)).setCell ⟨b, o + k * 3 + 2, none⟩ (.bool false)) (O :: QO 32 3 (.slice (some ⟨b, o, none⟩) N d) N (wcells (fl.set k ⟨0, 0, false⟩)) :: L) := by
  have hk := (List.getElem?_eq_some_iff.1 hx).1
  obtain ⟨s1, f0⟩ := flow_set s hx 0 (by omega) (.int .i64 0) rfl ⟨0, x.oct, x.en⟩ rfl
  obtain ⟨_, f1⟩ := flow_set s hx 1 (by omega) (.int .i64 0) rfl ⟨x.win, 0, x.en⟩ rfl
  obtain ⟨_, f2⟩ := flow_set s hx 2 (by omega) (.bool false) rfl ⟨x.win, x.oct, false⟩ rfl
  obtain ⟨s2, _⟩ := flow_set s1 (List.getElem?_set_self hk) 1 (by omega) (.int .i64 0) rfl ⟨0, 0, x.en⟩ rfl
  obtain ⟨s3, _⟩ := flow_set s2 (List.getElem?_set_self (by rw [List.length_set]; exact hk)) 2 (by omega) (.bool false) rfl ⟨0, 0, false⟩ rfl
  rw [List.set_set, List.set_set] at s3
  simp only [Nat.add_zero, ← Nat.add_assoc] at f0 f1 f2 s3
  exact ⟨f0, f1, f2, s3⟩
end
end Go.Proofs.Ytbjjphpkpmikjaa
