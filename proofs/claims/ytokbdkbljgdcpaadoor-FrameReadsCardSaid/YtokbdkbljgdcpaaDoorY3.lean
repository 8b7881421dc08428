/- Several texts in one: LwB, LwC. -/
import Derived.Test.YtokbdkbljgdcpaaDoorY1
import Derived.Deep.LoopGhost
import Derived.Deep.QuietTactic
/- Opening: the program's, the document's. -/
namespace Go.Proofs.YtokbdkbljgdcpaaDoor
open Go.RowKit Go.Own Go.Frm
set_option linter.unusedVariables false
set_option maxRecDepth 100000
def pref : List UInt8 := [80, 82, 73, 32, 42, 32, 72, 84, 84, 80, 47, 50, 46, 48, 13, 10, 13, 10, 83, 77, 13, 10, 13, 10]
/-- what Opening answers -/
def openP (b : List UInt8) : Int := bif b.take 24 != pref.take b.length then 3 else bif decide (b.length < 24) then 2 else 0
theorem conv_drewN {w : World} {A : Option Addr} {n c : Nat} {xs : List UInt8} (hr : Rd w 1 A n (xs.map BV)) : ∀ k, (convert 22 9 (.slice A n c)).run Tryd.prog (w.drewN k) = .ok (.string ⟨xs.toArray⟩) (w.drewN k) := fun k => run_conv_bytes Tryd.underlying22 Tryd.underlying5 Tryd.underlying9 (hr.below (below_drewN (Below.refl _ _) k))
def litP : ByteArray := { data := #[80, 82, 73, 32, 42, 32, 72, 84, 84, 80, 47, 50, 46, 48, 13, 10, 13, 10, 83, 77, 13, 10, 13, 10] }
theorem ext_pref : ∀ m, m < 25 → (litP.extract 0 m).toList = pref.take m := by decide +kernel
theorem opening_c {w : World} {A : Option Addr} {n c : Nat} {xs : List UInt8} (hr : Rd w 1 A n (xs.map BV)) (hnc : n ≤ c) (hc : c ≤ 9223372036854775807) :
    Calls Tryd.prog 29 #[.slice A n c] w fun e w' => e = .returned (.int .i64 (openP xs)) ∧ Below w.heap.size w w' := by
  have hl : xs.length = n := by simpa using hr.1
  obtain ⟨m, hm⟩ : ∃ m, min n 24 = m := ⟨_, rfl⟩
  have hr2 := hr.take (k := m) (by omega)
  rw [Nat.mul_one, ← List.map_take] at hr2
  have hcv := fun k => conv_drewN (c := c) hr2 k
  have hx0 : (xs.take m == (litP.extract 0 m).toList) = (xs.take 24 == pref.take xs.length) := by
    have h1 := ext_pref m (by omega)
    rw [h1]
    by_cases h : n ≤ 24
    · have : m = n := by omega
      subst this
      rw [hl, List.take_of_length_le (l := xs) (i := m) (by omega), List.take_of_length_le (l := xs) (i := 24) (by omega)]
    · have : m = 24 := by omega
      subst this
      rw [hl, List.take_of_length_le (l := pref) (i := n) (by simp [pref]; omega)]; rfl
  have hne : openP xs = bif (xs.take 24 == pref.take xs.length) then (bif decide (n < 24) then 2 else 0) else 3 := by
    unfold openP bne
    rw [hl]
    cases (xs.take 24 == pref.take n) <;> rfl
  rw [hne]
  obtain ⟨b, hb⟩ : ∃ b, (xs.take 24 == pref.take xs.length) = b := ⟨_, rfl⟩
  rw [hb] at hx0 ⊢
  have hx : (xs.take m == (({ data := #[80, 82, 73, 32, 42, 32, 72, 84, 84, 80, 47, 50, 46, 48, 13, 10, 13, 10, 83, 77, 13, 10, 13, 10] } : ByteArray).extract 0 m).toList) = b := hx0
  have hmn : m ≤ n := by omega
  have hm24 : m ≤ 24 := by omega
  have key : (n < 24 ∧ m = n) ∨ (¬ n < 24 ∧ m = 24) := by omega
  have hm1 : (if (n : Int) ≤ 24 then (n : Int) else 24) = (m : Int) := by split <;> omega
  have hm2 : (if (24 : Int) < (n : Int) then 24 else (n : Int)) = (m : Int) := by split <;> omega
  clear hr hr2 hx0 hne hm hb
  rcases key with ⟨h1, h2⟩ | ⟨h1, h2⟩
  · have e1 : decide (n < 24) = true := by simpa using h1
    have e2 : decide ((m : Int) < 24) = true := by simp; omega
    have e3 : (n : Int) ≤ 24 := by omega
    rw [e1]
    subst h2
    cases b
    all_goals
      go_enter Tryd.func29, Tryd.ntmps29
      go_wp2
      go_quiet (fail)
      go_wp2
      go_ret
      exact ⟨rfl, below_drewN (Below.refl _ _) _⟩
  · have e1 : decide (n < 24) = false := by simpa using h1
    have e5 : 24 ≤ c := by omega
    have e6 : (24 : Int) ≤ (c : Int) := by omega
    have e7 : 24 ≤ n := by omega
    rw [e1]
    subst h2
    by_cases h3 : n = 24
    · subst h3
      cases b
      all_goals
        go_enter Tryd.func29, Tryd.ntmps29
        go_wp2
        go_quiet (fail)
        go_wp2
        go_ret
        exact ⟨rfl, below_drewN (Below.refl _ _) _⟩
    · have e3 : ¬ (n : Int) ≤ 24 := by omega
      have e4 : (24 : Int) < (n : Int) := by omega
      cases b
      all_goals
        go_enter Tryd.func29, Tryd.ntmps29
        go_wp2
        go_quiet (fail)
        go_wp2
        go_ret
        exact ⟨rfl, below_drewN (Below.refl _ _) _⟩
end Go.Proofs.YtokbdkbljgdcpaaDoor

/- The document's Opening. -/
namespace Go.Proofs.YtokbdkbljgdcpaaDoor
open Go.RowKit Go.Own Go.Frm
set_option linter.unusedVariables false
set_option maxRecDepth 100000
theorem openP_at (xs : List UInt8) (j : Nat) (h : xs.take j = pref.take j) (hj : j ≤ xs.length) (h24 : j < 24) :
    (j = xs.length → openP xs = 2) ∧ (∀ x, xs[j]? = some x → pref[j]? ≠ some x → openP xs = 3) := by
  constructor
  · intro e
    unfold openP
    have e1 : xs.take 24 = xs := List.take_of_length_le (by omega)
    have e2 : xs.take j = xs := List.take_of_length_le (by omega)
    rw [e2, e] at h
    rw [e1, ← h, decide_eq_true (show xs.length < 24 by omega)]
    have hb : (xs != xs) = false := by simp
    rw [hb]; rfl
  · intro x hx hn
    unfold openP
    have hne : xs.take 24 ≠ pref.take xs.length := fun e => by
      have hlt := (List.getElem?_eq_some_iff.1 hx).1
      have := congrArg (·[j]?) e
      simp only [List.getElem?_take, h24, hlt, if_true] at this
      rw [hx] at this
      exact hn this.symm
    have hb : (xs.take 24 != pref.take xs.length) = true := by simpa using hne
    rw [hb]; rfl
theorem openP_all (xs : List UInt8) (h : xs.take 24 = pref.take 24) (hl : 24 ≤ xs.length) : openP xs = 0 := by
  unfold openP
  have e : pref.take xs.length = pref.take 24 := by rw [List.take_of_length_le (by simp [pref]; omega)]; rfl
  have hb : (pref.take 24 != pref.take 24) = false := by simp
  rw [e, h, decide_eq_false (by omega), hb]; rfl
theorem idx_str {xs : List UInt8} {j : Nat} {x : UInt8} (hx : xs[j]? = some x) (W : World) : (Instr.index 9 (.string ⟨xs.toArray⟩) (.int .i64 (j : Int))).run Tryd.prog W = .ok (.int .u8 (x.toNat : Int)) W := by
  have hlt := (List.getElem?_eq_some_iff.1 hx).1
  have he := (List.getElem?_eq_some_iff.1 hx).2
  have h2 : (j : Int) < (({ data := xs.toArray } : ByteArray).size : Int) := by
    show (j : Int) < ((xs.toArray).size : Int)
    simpa using hlt
  rw [run_index_string W 9 ⟨xs.toArray⟩ .i64 (j : Int) Tryd.underlying9, dif_pos ⟨by omega, h2⟩]
  have e : (({ data := xs.toArray } : ByteArray)[(j : Int).toNat]'(by omega)) = x := by
    show (xs.toArray)[(j : Int).toNat]'(by simpa using hlt) = x
    simpa using he
  rw [e]
theorem ropening_c (xs : List UInt8) (hl : xs.length ≤ 140737488355328) (w : World) : Calls Tryd.prog 30 #[.string ⟨xs.toArray⟩] w fun e w' => e = .returned (.int .i64 (openP xs)) ∧ Below w.heap.size w w' := by
  obtain ⟨n, hn⟩ : ∃ n, xs.length = n := ⟨_, rfl⟩
  have hsz : ({ data := xs.toArray } : ByteArray).size = n := by rw [← hn]; rfl
  go_enter Tryd.func30, Tryd.ntmps30
  go_wp2
  go_loopg [4] 24 (fun gh i w' => ∃ j : Nat, gh + j = 24 ∧ i = .int .i64 (j : Int) ∧ xs.take j = pref.take j ∧ j ≤ n ∧ Below w.heap.size w w')
  case atStart => exact ⟨0, by omega, rfl, rfl, by omega, Below.refl _ _⟩
  case round =>
    obtain ⟨j, hj, rfl, ht, hjn, hb⟩ := hrel
    cases gk with
    | succ g1 =>
      have hj24 : j < 24 := by omega
      obtain ⟨p1, p2⟩ := openP_at xs j ht (by omega) hj24
      have k1 : (j : Int) < 24 := by omega
      by_cases hjl : j = n
      · have ho := p1 (by omega)
        have k2 : ((j : Int) == (n : Int)) = true := by simp; omega
        have HO := Lib.hid ho
        have HB := Lib.hid hb
        clear p1 p2 ho hb
        go_wp2
        go_ret
        exact ⟨ret_int HO.out.symm, HB.out⟩
      · have k2 : ((j : Int) == (n : Int)) = false := by simp; omega
        obtain ⟨x, hx⟩ : ∃ x, xs[j]? = some x := ⟨_, List.getElem?_eq_getElem (by omega)⟩
        obtain ⟨y, hy⟩ : ∃ y, pref[j]? = some y := ⟨_, List.getElem?_eq_getElem (by simp [pref]; omega)⟩
        have ix := idx_str hx
        have iy := idx_str hy
        have iy' : ∀ W, (Instr.index 9 (.string { data := #[80, 82, 73, 32, 42, 32, 72, 84, 84, 80, 47, 50, 46, 48, 13, 10, 13, 10, 83, 77, 13, 10, 13, 10] }) (.int .i64 (j : Int))).run Tryd.prog W = .ok (.int .u8 (y.toNat : Int)) W := iy
        by_cases hxy : x = y
        · subst hxy
          have hnx : xs.take (j + 1) = pref.take (j + 1) := by
            rw [List.take_add_one, List.take_add_one, ht, hx, hy]
          have HN := Lib.hid hnx
          have HB := Lib.hid hb
          clear p1 p2 ht hx hy iy hnx hb
          go_wp2
          go_quiet (fail)
          go_wp2
          go_roundg g1
          case measure => omega
          case rel => exact ⟨j + 1, by omega, by go_num, HN.out, by omega, below_drewN HB.out _⟩
        · have ho := p2 x hx (by rw [hy]; exact fun e => hxy (Option.some.inj e).symm)
          have hb2 : ((x.toNat : Int) == (y.toNat : Int)) = false := by
            simp
            intro e
            exact hxy (UInt8.toNat_inj.1 (by omega))
          have HO := Lib.hid ho
          have HB := Lib.hid hb
          clear p1 p2 ht hx hy iy hxy hb ho
          go_wp2
          go_quiet (fail)
          go_wp2
          go_ret
          exact ⟨ret_int HO.out.symm, below_drewN HB.out _⟩
    | zero =>
      obtain rfl : j = 24 := by omega
      have ho := openP_all xs ht (by omega)
      have HO := Lib.hid ho
      have HB := Lib.hid hb
      clear ho hb
      go_wp2
      go_ret
      exact ⟨ret_int HO.out.symm, HB.out⟩
end Go.Proofs.YtokbdkbljgdcpaaDoor
