/- Numbers and texts of header blocks in octets: plain mathematics; nothing of the program. -/
import Derived.Test.YtdmheinepkeglaaDoorHuf
namespace Go.Hin
open Go.Huf

theorem ofn (n : Nat) (h : n < 256) : (UInt8.ofNat n).toNat = n := by
  rw [UInt8.toNat_ofNat']; omega

/-- what is more than the prefix: seven bits an octet, the lowest first -/
def grp (v : Nat) : List UInt8 :=
  if v < 128 then [UInt8.ofNat v] else UInt8.ofNat (v % 128 + 128) :: grp (v / 128)
termination_by v
decreasing_by omega
theorem grp_small {v : Nat} (h : v < 128) : grp v = [UInt8.ofNat v] := by rw [grp, if_pos h]
theorem grp_big {v : Nat} (h : ¬ v < 128) : grp v = UInt8.ofNat (v % 128 + 128) :: grp (v / 128) := by rw [grp, if_neg h]
/-- the octets of a number: m the greatest prefix, top the other bits -/
def putB (m top v : Nat) : List UInt8 := if v < m then [UInt8.ofNat (top + v)] else UInt8.ofNat (top + m) :: grp (v - m)
/-- what octets begin with -/
inductive G where
  | ok (v n : Nat)
  | arg
  | more
  | form
def gbeh : Nat → Nat → List UInt8 → G
  | _, _, [] => .more
  | i, acc, x :: r =>
    if i = 5 then .form
    else if 2147483647 < acc + x.toNat % 128 * 128 ^ i then .form
    else if x.toNat < 128 then .ok (acc + x.toNat % 128 * 128 ^ i) (i + 2)
    else gbeh (i + 1) (acc + x.toNat % 128 * 128 ^ i) r
def getN (p : Nat) : List UInt8 → G
  | [] => .more
  | x :: r => if x.toNat % 2 ^ p < 2 ^ p - 1 then .ok (x.toNat % 2 ^ p) 1 else gbeh 0 (2 ^ p - 1) r
def getI (xs : List UInt8) (p : Int) : G := if 1 ≤ p ∧ p ≤ 8 then getN p.toNat xs else .arg

theorem pow128 (i : Nat) : 128 ^ (i + 1) = 128 * 128 ^ i := by rw [Nat.pow_succ, Nat.mul_comm]
theorem pow_pos128 (i : Nat) : 0 < 128 ^ i := Nat.pow_pos (by omega)
theorem split128 (d i : Nat) : d % 128 * 128 ^ i + d / 128 * 128 ^ (i + 1) = d * 128 ^ i := by
  rw [pow128, ← Nat.mul_assoc, ← Nat.add_mul]
  congr 1
  omega
theorem grp_ne (d : Nat) : grp d ≠ [] := by
  by_cases h : d < 128
  · rw [grp_small h]; simp
  · rw [grp_big h]; simp
theorem grp_pos (d : Nat) : 1 ≤ (grp d).length := List.length_pos_iff.2 (grp_ne d)
theorem grp_le : ∀ (k d : Nat), d < 128 ^ (k + 1) → (grp d).length ≤ k + 1
  | 0, d, h => by rw [grp_small (by simpa using h)]; simp
  | k + 1, d, h => by
    by_cases hs : d < 128
    · rw [grp_small hs]; simp
    · rw [grp_big hs, List.length_cons]
      have := grp_le k (d / 128) (by rw [Nat.div_lt_iff_lt_mul (by omega)]; rw [pow128] at h; omega)
      omega
theorem grp_mono (d' : Nat) : ∀ d, d ≤ d' → (grp d).length ≤ (grp d').length := by
  induction d' using Nat.strongRecOn with
  | _ d' ih =>
    intro d hd
    by_cases hs : d < 128
    · rw [grp_small hs]; exact grp_pos d'
    · rw [grp_big hs, grp_big (by omega : ¬ d' < 128), List.length_cons, List.length_cons]
      have := ih (d' / 128) (by omega) (d / 128) (by omega)
      omega
theorem two_pow_le (p : Nat) (hp : p ≤ 8) : 2 ^ p ≤ 256 := Nat.pow_le_pow_right (n := 2) (by omega) hp
theorem putB_pos (m top v : Nat) : 1 ≤ (putB m top v).length := by
  unfold putB
  split <;> simp
theorem putB_le (m top v : Nat) (hv : v ≤ 2147483647) : (putB m top v).length ≤ 6 := by
  unfold putB
  split
  · simp
  · rw [List.length_cons]
    have := grp_le 4 (v - m) (by omega)
    omega
theorem putB_mono (m top top' v v' : Nat) (h : v ≤ v') : (putB m top v).length ≤ (putB m top' v').length := by
  unfold putB
  split
  · split <;> simp
  · rw [if_neg (by omega), List.length_cons, List.length_cons]
    have := grp_mono (v' - m) (v - m) (by omega)
    omega

/-- the octets behind are read as what they were written for -/
theorem gbeh_grp (r : List UInt8) : ∀ (k i acc d : Nat), i + k = 4 → d < 128 ^ (k + 1) → acc + d * 128 ^ i ≤ 2147483647 → gbeh i acc (grp d ++ r) = .ok (acc + d * 128 ^ i) (i + 1 + (grp d).length)
  | k, i, acc, d, hik, hd, hm => by
    have hx := split128 d i
    by_cases hs : d < 128
    · rw [grp_small hs, List.singleton_append, gbeh, if_neg (by omega), ofn d (by omega), Nat.mod_eq_of_lt hs, if_neg (by omega), if_pos hs]
      rfl
    · match k with
      | 0 => exact absurd (by simpa using hd) hs
      | k + 1 =>
        have h1 : d / 128 < 128 ^ (k + 1) := by rw [Nat.div_lt_iff_lt_mul (by omega)]; rw [pow128] at hd; omega
        rw [grp_big hs, List.cons_append, gbeh, if_neg (by omega), ofn _ (by omega), show (d % 128 + 128) % 128 = d % 128 by omega, if_neg (by omega), if_neg (by omega),
          gbeh_grp r k (i + 1) _ _ (by omega) h1 (by omega), List.length_cons]
        congr 1 <;> omega
theorem gbeh_cut : ∀ (k i acc d j : Nat), i + k = 4 → d < 128 ^ (k + 1) → acc + d * 128 ^ i ≤ 2147483647 → j < (grp d).length → gbeh i acc ((grp d).take j) = .more
  | k, i, acc, d, j, hik, hd, hm, hj => by
    have hx := split128 d i
    match j with
    | 0 => rfl
    | j + 1 =>
      by_cases hs : d < 128
      · rw [grp_small hs] at hj; simp at hj
      · match k with
        | 0 => exact absurd (by simpa using hd) hs
        | k + 1 =>
          have h1 : d / 128 < 128 ^ (k + 1) := by rw [Nat.div_lt_iff_lt_mul (by omega)]; rw [pow128] at hd; omega
          rw [grp_big hs, List.length_cons] at hj
          rw [grp_big hs, List.take_succ_cons, gbeh, if_neg (by omega), ofn _ (by omega), show (d % 128 + 128) % 128 = d % 128 by omega, if_neg (by omega), if_neg (by omega),
            gbeh_cut k (i + 1) _ _ j (by omega) h1 (by omega) (by omega)]
/-- what is read behind is a number of so many octets, and nobody writes it in more -/
theorem gbeh_ok : ∀ (xs : List UInt8) (i acc v n : Nat), gbeh i acc xs = .ok v n → i ≤ 5 → ∃ j d, n = i + 1 + j ∧ 1 ≤ j ∧ j ≤ xs.length ∧ i + j ≤ 5 ∧ v = acc + d * 128 ^ i ∧ v ≤ 2147483647 ∧ (grp d).length ≤ j ∧ ((grp d).length = j → grp d = xs.take j)
  | [], i, acc, v, n, h, _ => by simp [gbeh] at h
  | x :: r, i, acc, v, n, h, hi => by
    have hxl := x.toNat_lt
    rw [gbeh] at h
    split at h
    · cases h
    · split at h
      · cases h
      · split at h
        · rename_i h5 hm hx
          injection h with hv hn
          refine ⟨1, x.toNat, by omega, by omega, by simp, by omega, by rw [← hv, Nat.mod_eq_of_lt hx], by omega, by rw [grp_small hx]; simp, fun _ => ?_⟩
          rw [grp_small hx, List.take_succ_cons, List.take_zero]
          simp
        · rename_i h5 hm hx
          obtain ⟨j, d, hn, hj1, hj2, hj3, hv, hmv, hl, he⟩ := gbeh_ok r (i + 1) _ v n h (by omega)
          have hxd : x.toNat % 128 + 128 = x.toNat := by omega
          have hs := split128 (x.toNat % 128 + 128 * d) i
          rw [show (x.toNat % 128 + 128 * d) % 128 = x.toNat % 128 by omega, show (x.toNat % 128 + 128 * d) / 128 = d by omega] at hs
          refine ⟨j + 1, x.toNat % 128 + 128 * d, by omega, by omega, by simpa using hj2, by omega, by omega, hmv, ?_, ?_⟩
          · by_cases h0 : d = 0
            · rw [grp_small (by omega)]; simp
            · rw [grp_big (by omega), List.length_cons, show (x.toNat % 128 + 128 * d) / 128 = d by omega]
              omega
          · intro hl2
            by_cases h0 : d = 0
            · rw [grp_small (by omega)] at hl2
              simp at hl2
              omega
            · rw [grp_big (by omega), List.length_cons, show (x.toNat % 128 + 128 * d) / 128 = d by omega] at hl2
              rw [grp_big (by omega), show (x.toNat % 128 + 128 * d) / 128 = d by omega, show (x.toNat % 128 + 128 * d) % 128 = x.toNat % 128 by omega, he (by omega), List.take_succ_cons, hxd]
              simp

/-- the other bits of a first octet -/
def topOf (x p : Nat) : Nat := x / 2 ^ p * 2 ^ p
theorem topOf_add (x p : Nat) : topOf x p + x % 2 ^ p = x := by unfold topOf; have := Nat.div_add_mod x (2 ^ p); rw [Nat.mul_comm] at this; omega
theorem topOf_lt (x p : Nat) (hx : x < 256) (hp : p ≤ 8) : topOf x p + (2 ^ p - 1) < 256 := by
  unfold topOf
  have h256 : 2 ^ p * 2 ^ (8 - p) = 256 := by rw [← Nat.pow_add, show p + (8 - p) = 8 by omega]
  have hpos := Nat.two_pow_pos p
  have h1 : x / 2 ^ p < 2 ^ (8 - p) := by rw [Nat.div_lt_iff_lt_mul hpos, Nat.mul_comm, h256]; exact hx
  have h2 : (x / 2 ^ p + 1) * 2 ^ p ≤ 2 ^ (8 - p) * 2 ^ p := Nat.mul_le_mul_right _ h1
  rw [Nat.add_mul, Nat.mul_comm (2 ^ (8 - p)), h256] at h2
  omega
theorem topOf_mod (x p v : Nat) (hv : v < 2 ^ p) : (topOf x p + v) % 2 ^ p = v := by
  unfold topOf
  rw [Nat.add_comm, Nat.add_mul_mod_self_right, Nat.mod_eq_of_lt hv]
theorem topOf_div (x p v : Nat) (hv : v < 2 ^ p) : (topOf x p + v) / 2 ^ p = x / 2 ^ p := by
  unfold topOf
  rw [Nat.add_comm, Nat.add_mul_div_right _ _ (Nat.two_pow_pos p), Nat.div_eq_of_lt hv]
  omega
/-- a number that is written is read as it was -/
theorem getN_put (x p v : Nat) (hx : x < 256) (hp : p ≤ 8) (hv : v ≤ 2147483647) (r : List UInt8) : getN p (putB (2 ^ p - 1) (topOf x p) v ++ r) = .ok v (putB (2 ^ p - 1) (topOf x p) v).length := by
  have ht := topOf_lt x p hx hp
  have hpos := Nat.two_pow_pos p
  unfold putB
  split
  · rename_i h
    rw [List.singleton_append, getN, ofn _ (by omega), topOf_mod x p v (by omega), if_pos h]
    rfl
  · rename_i h
    rw [List.cons_append, getN, ofn _ (by omega), topOf_mod x p (2 ^ p - 1) (by omega), if_neg (by omega), gbeh_grp r 4 0 _ _ rfl (by omega) (by omega), List.length_cons]
    congr 1 <;> omega
theorem getN_cut (x p v i : Nat) (hx : x < 256) (hp : p ≤ 8) (hv : v ≤ 2147483647) (hi : i < (putB (2 ^ p - 1) (topOf x p) v).length) : getN p ((putB (2 ^ p - 1) (topOf x p) v).take i) = .more := by
  have ht := topOf_lt x p hx hp
  have hpos := Nat.two_pow_pos p
  match i with
  | 0 => rfl
  | i + 1 =>
    unfold putB at hi ⊢
    split at hi
    · simp at hi
    · rename_i h
      rw [if_neg h, List.take_succ_cons, getN, ofn _ (by omega), topOf_mod x p (2 ^ p - 1) (by omega), if_neg (by omega)]
      rw [List.length_cons] at hi
      exact gbeh_cut 4 0 _ _ i rfl (by omega) (by omega) (by omega)
/-- the first octet -/
def headB (m top v : Nat) : Nat := if v < m then top + v else top + m
theorem putB_head (m top v : Nat) : ∃ r, putB m top v = UInt8.ofNat (headB m top v) :: r := by
  unfold putB headB
  split
  · exact ⟨_, rfl⟩
  · exact ⟨_, rfl⟩
theorem headB_lt (x p v : Nat) (hx : x < 256) (hp : p ≤ 8) : headB (2 ^ p - 1) (topOf x p) v < 256 := by
  have ht := topOf_lt x p hx hp
  unfold headB
  split <;> omega
theorem headB_div (x p v : Nat) : headB (2 ^ p - 1) (topOf x p) v / 2 ^ p = x / 2 ^ p := by
  have hpos := Nat.two_pow_pos p
  unfold headB
  split <;> exact topOf_div x p _ (by omega)
/-- nobody writes a number shorter -/
theorem getN_least {p : Nat} {xs : List UInt8} {v n : Nat} (h : getN p xs = .ok v n) : ∃ x r, xs = x :: r ∧ 1 ≤ n ∧ n ≤ xs.length ∧ n ≤ 6 ∧ v ≤ 2147483647 := by
  match xs, h with
  | [], h => simp [getN] at h
  | x :: r, h =>
    have hx := x.toNat_lt
    rw [getN] at h
    split at h
    · injection h with hv hn
      have h2 := Nat.two_pow_pos p
      have := Nat.mod_le x.toNat (2 ^ p)
      exact ⟨x, r, rfl, by omega, by simp; omega, by omega, by omega⟩
    · obtain ⟨j, d, hn, hj1, hj2, hj3, hv, hmv, _⟩ := gbeh_ok r 0 _ v n h (by omega)
      exact ⟨x, r, rfl, by omega, by simp; omega, by omega, hmv⟩
theorem put_least {p : Nat} {x : UInt8} {r : List UInt8} {v n : Nat} (h : getN p (x :: r) = .ok v n) :
    (putB (2 ^ p - 1) (topOf x.toNat p) v).length ≤ n ∧ headB (2 ^ p - 1) (topOf x.toNat p) v = x.toNat ∧ ((putB (2 ^ p - 1) (topOf x.toNat p) v).length = n ↔ putB (2 ^ p - 1) (topOf x.toNat p) v = (x :: r).take n) := by
  have hx := x.toNat_lt
  have hpos := Nat.two_pow_pos p
  have hta := topOf_add x.toNat p
  have hlt := Nat.mod_lt x.toNat hpos
  rw [getN] at h
  split at h
  · rename_i hs
    injection h with hv hn
    subst hv hn
    have e : putB (2 ^ p - 1) (topOf x.toNat p) (x.toNat % 2 ^ p) = [x] := by rw [putB, if_pos hs, hta]; simp
    rw [e]
    refine ⟨by simp, by rw [headB, if_pos hs, hta], by simp⟩
  · rename_i hs
    obtain ⟨j, d, hn, hj1, hj2, hj3, hv, hmv, hl, he⟩ := gbeh_ok r 0 _ v n h (by omega)
    rw [Nat.pow_zero, Nat.mul_one] at hv
    have hxe : topOf x.toNat p + (2 ^ p - 1) = x.toNat := by omega
    have e : putB (2 ^ p - 1) (topOf x.toNat p) v = x :: grp d := by
      rw [putB, if_neg (by omega), hxe, show v - (2 ^ p - 1) = d by omega]; simp
    rw [e]
    refine ⟨by rw [List.length_cons]; omega, by rw [headB, if_neg (by omega), hxe], ?_⟩
    subst hn
    rw [show 0 + 1 + j = j + 1 by omega, List.take_succ_cons, List.length_cons]
    constructor
    · intro e2
      rw [he (by omega)]
    · intro e2
      injection e2 with _ e2
      rw [e2, List.length_take]
      omega
end Go.Hin
