/- Tables of fields: plain mathematics; nothing of the program. -/
import Derived.Test.YtilabahcngjflaaDoorBase
namespace Go.Tbl

/-- a field: its name, its value, is it never to stand in a table -/
structure Fld where
  n : ByteArray
  v : ByteArray
  nv : Bool
def Fld.plain (f : Fld) : Fld := ⟨f.n, f.v, false⟩
def sz (f : Fld) : Nat := f.n.size + f.v.size + 32
def szs : List Fld → Nat
  | [] => 0
  | f :: r => sz f + szs r
/-- the first ones that have room -/
def pre : Nat → List Fld → List Fld
  | _, [] => []
  | room, f :: r => if sz f ≤ room then f :: pre (room - sz f) r else []
/-- a field is put in, the newest first -/
def addF (h : Nat) (f : Fld) (l : List Fld) : List Fld := if sz f ≤ h then f.plain :: pre (h - sz f) l else []
def clampI (n : Int) : Nat := if n < 0 then 0 else if 65536 < n then 65536 else n.toNat

theorem sz_pos (f : Fld) : 32 ≤ sz f := by unfold sz; omega
theorem sz_plain (f : Fld) : sz f.plain = sz f := rfl
theorem szs_append (a b : List Fld) : szs (a ++ b) = szs a + szs b := by
  induction a with
  | nil => simp [szs]
  | cons f a ih => simp only [List.cons_append, szs, ih]; omega
theorem pre_le (room : Nat) (l : List Fld) : szs (pre room l) ≤ room := by
  induction l generalizing room with
  | nil => simp [pre, szs]
  | cons f r ih =>
    rw [pre]
    split
    · rw [szs]; have := ih (room - sz f); omega
    · simp [szs]
theorem pre_take (room : Nat) (l : List Fld) : pre room l = l.take (pre room l).length := by
  induction l generalizing room with
  | nil => simp [pre]
  | cons f r ih =>
    rw [pre]
    split
    · rw [List.length_cons, List.take_succ_cons, ← ih]
    · simp
theorem pre_len (room : Nat) (l : List Fld) : (pre room l).length ≤ l.length := by
  have := congrArg List.length (pre_take room l)
  rw [List.length_take] at this
  omega
/-- one more has no room -/
theorem pre_more (room : Nat) (l : List Fld) (f : Fld) (h : l[(pre room l).length]? = some f) : room < szs (pre room l) + sz f := by
  induction l generalizing room with
  | nil => simp at h
  | cons g r ih =>
    rw [pre] at h ⊢
    split
    · rename_i hc
      rw [if_pos hc, List.length_cons, List.getElem?_cons_succ] at h
      have := ih _ h
      rw [szs]
      omega
    · rename_i hc
      rw [if_neg hc] at h
      simp at h
      subst h
      simp [szs]
      omega
theorem pre_all (room : Nat) (l : List Fld) (h : szs l ≤ room) : pre room l = l := by
  induction l generalizing room with
  | nil => rfl
  | cons f r ih =>
    rw [szs] at h
    rw [pre, if_pos (by omega), ih _ (by omega)]
theorem pre_zero (l : List Fld) (room : Nat) (h : room < 32) : pre room l = [] := by
  cases l with
  | nil => rfl
  | cons f r => rw [pre, if_neg (by have := sz_pos f; omega)]
/-- what has less room still is the first ones of what had more -/
theorem pre_pre (a b : Nat) (l : List Fld) : pre a (pre b l) = pre (min a b) l := by
  induction l generalizing a b with
  | nil => simp [pre]
  | cons f r ih =>
    by_cases hb : sz f ≤ b
    · by_cases ha : sz f ≤ a
      · rw [pre, if_pos hb, pre, if_pos ha, pre, if_pos (by omega), ih]
        congr 2
        omega
      · rw [pre, if_pos hb, pre, if_neg ha, pre, if_neg (by omega)]
    · rw [pre, if_neg hb, pre, pre, if_neg (by omega)]
/-- the longest beginning that has room, by its length -/
theorem pre_of_take (room : Nat) (l : List Fld) (n : Nat) (hn : n ≤ l.length) (h1 : szs (l.take n) ≤ room) (h2 : ∀ f, l[n]? = some f → room < szs (l.take n) + sz f) : pre room l = l.take n := by
  induction l generalizing room n with
  | nil => simp [pre]
  | cons f r ih =>
    cases n with
    | zero =>
      have := h2 f rfl
      simp [szs] at this
      rw [pre, if_neg (by omega)]
      rfl
    | succ n =>
      rw [List.take_succ_cons, szs] at h1
      rw [pre, if_pos (by omega), List.take_succ_cons, ih (room - sz f) n (by simpa using hn) (by omega)]
      intro g hg
      have := h2 g (by rw [List.getElem?_cons_succ]; exact hg)
      rw [List.take_succ_cons, szs] at this
      omega
theorem szs_take_mono (l : List Fld) : ∀ a b, a ≤ b → szs (l.take a) ≤ szs (l.take b) := by
  induction l with
  | nil => intro a b _; simp
  | cons f r ih =>
    intro a b hab
    cases a with
    | zero => simp [szs]
    | succ a =>
      cases b with
      | zero => omega
      | succ b =>
        rw [List.take_succ_cons, List.take_succ_cons, szs, szs]
        have := ih a b (by omega)
        omega
theorem szs_take_succ (l : List Fld) (k : Nat) (f : Fld) (h : l[k]? = some f) : szs (l.take (k + 1)) = szs (l.take k) + sz f := by
  obtain ⟨hk, rfl⟩ := List.getElem?_eq_some_iff.1 h
  rw [List.take_succ_eq_append_getElem hk, szs_append, szs, szs]
  rfl
theorem addF_le (h : Nat) (f : Fld) (l : List Fld) : szs (addF h f l) ≤ h := by
  unfold addF
  split
  · rw [szs, sz_plain]; have := pre_le (h - sz f) l; omega
  · simp [szs]
theorem pre_never {l : List Fld} (hl : ∀ f ∈ l, f.nv = false) (room : Nat) : ∀ f ∈ pre room l, f.nv = false := by
  intro f hf
  rw [pre_take] at hf
  exact hl f (List.mem_of_mem_take hf)
theorem addF_never {h : Nat} {f : Fld} {l : List Fld} (hl : ∀ g ∈ l, g.nv = false) : ∀ g ∈ addF h f l, g.nv = false := by
  unfold addF
  split
  · intro g hg
    rcases List.mem_cons.1 hg with rfl | hg
    · rfl
    · exact pre_never hl _ g hg
  · simp
/-- what is put in behind the last one that had no room: the newest first, as many as have room -/
theorem addF_pre (h : Nat) (f : Fld) (l : List Fld) (hf : sz f ≤ h) : addF h f (pre h l) = pre h (f.plain :: l) := by
  rw [addF, if_pos hf, pre_pre, pre, sz_plain, if_pos hf]
  congr 2
  omega
theorem clampI_le (n : Int) : clampI n ≤ 65536 := by
  unfold clampI
  split
  · omega
  · split <;> omega

/-- the first place where p holds -/
def place (p : Fld → Bool) : List Fld → Option Nat
  | [] => none
  | f :: r => if p f then some 0 else (place p r).map (· + 1)
theorem place_some {p : Fld → Bool} : ∀ {l : List Fld} {k : Nat}, place p l = some k → ∃ f, l[k]? = some f ∧ p f = true ∧ ∀ j g, j < k → l[j]? = some g → p g = false
  | [], k, h => by simp [place] at h
  | f :: r, k, h => by
    rw [place] at h
    split at h
    · rename_i hp
      injection h with h
      subst h
      exact ⟨f, rfl, hp, fun j g hj => by omega⟩
    · rename_i hp
      cases hr : place p r with
      | none => rw [hr] at h; cases h
      | some k' =>
        rw [hr] at h
        injection h with h
        subst h
        obtain ⟨g, h1, h2, h3⟩ := place_some hr
        refine ⟨g, by rw [List.getElem?_cons_succ]; exact h1, h2, fun j x hj hx => ?_⟩
        cases j with
        | zero =>
          rw [List.getElem?_cons_zero] at hx
          injection hx with hx
          subst hx
          simpa using hp
        | succ j =>
          rw [List.getElem?_cons_succ] at hx
          exact h3 j x (by simp at hj; omega) hx
theorem place_none {p : Fld → Bool} : ∀ {l : List Fld}, place p l = none → ∀ g ∈ l, p g = false
  | [], _ => by simp
  | f :: r, h => by
    rw [place] at h
    split at h
    · cases h
    · rename_i hp
      intro g hg
      rcases List.mem_cons.1 hg with rfl | hg
      · simpa using hp
      · cases hr : place p r with
        | none => exact place_none hr g hg
        | some k => rw [hr] at h; cases h
def sameB (f g : Fld) : Bool := g.n.toList == f.n.toList && g.v.toList == f.v.toList
def nameB (f g : Fld) : Bool := g.n.toList == f.n.toList
/-- what Find answers -/
def findF (all : List Fld) (f : Fld) : Nat × Bool :=
  match place (sameB f) all with
  | some k => (k + 1, true)
  | none =>
    match place (nameB f) all with
    | some k => (k + 1, false)
    | none => (0, false)
end Go.Tbl
