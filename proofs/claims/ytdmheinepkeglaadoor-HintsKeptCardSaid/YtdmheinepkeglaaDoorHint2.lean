/- Texts of header blocks in octets: plain mathematics. -/
import Derived.Test.YtdmheinepkeglaaDoorHint
import Derived.Test.YtdmheinepkeglaaDoorGen
namespace Go.Proofs.YtdmheinepkeglaaDoor
open Go.Huf Go.Hin
set_option linter.unusedVariables false

def putT (t ys : List UInt8) : List UInt8 := if ys.length < t.length then putB (2 ^ 7 - 1) (topOf 128 7) ys.length ++ ys else putB (2 ^ 7 - 1) (topOf 0 7) t.length ++ t
inductive T where
  | ok (t : List UInt8) (n : Nat)
  | err (e : Nat)
def decT (n : Nat) : R → T
  | .ok t => .ok t n
  | .form => .err 3
  | .long => .err 4
def getT (most : Int) (xs : List UInt8) : T :=
  match getN 7 xs with
  | .ok size n =>
    if xs.length < n + size then .err 2
    else if (xs.headD 0).toNat < 128 then .ok ((xs.drop n).take size) (n + size)
    else decT (n + size) (dec (bits8 ((xs.drop n).take size)) most)
  | .more => .err 2
  | .form => .err 3
  | .arg => .err 1
theorem getT_more {most : Int} {xs : List UInt8} (h : getN 7 xs = .more) : getT most xs = .err 2 := by rw [getT, h]
theorem getT_form {most : Int} {xs : List UInt8} (h : getN 7 xs = .form) : getT most xs = .err 3 := by rw [getT, h]
theorem getT_ok {most : Int} {xs : List UInt8} {size n : Nat} (h : getN 7 xs = .ok size n) : getT most xs =
    if xs.length < n + size then .err 2
    else if (xs.headD 0).toNat < 128 then .ok ((xs.drop n).take size) (n + size)
    else decT (n + size) (dec (bits8 ((xs.drop n).take size)) most) := by rw [getT, h]
theorem top_128 : topOf 128 7 = 128 := by decide
theorem top_0 : topOf 0 7 = 0 := by decide
theorem take_mid (a b r : List UInt8) : ((a ++ b ++ r).drop a.length).take b.length = b := by
  rw [List.append_assoc, List.drop_left, List.take_left]
theorem head_hi (v : Nat) (r : List UInt8) : ¬ (((putB (2 ^ 7 - 1) (topOf 128 7) v ++ r).headD 0).toNat < 128) := by
  obtain ⟨q, hq⟩ := putB_head (2 ^ 7 - 1) (topOf 128 7) v
  have := headB_lt 128 7 v (by omega) (by omega)
  rw [hq, List.cons_append, List.headD_cons, ofn _ this, headB, top_128]
  split <;> omega
theorem head_lo (v : Nat) (r : List UInt8) : ((putB (2 ^ 7 - 1) (topOf 0 7) v ++ r).headD 0).toNat < 128 := by
  obtain ⟨q, hq⟩ := putB_head (2 ^ 7 - 1) (topOf 0 7) v
  have := headB_lt 0 7 v (by omega) (by omega)
  rw [hq, List.cons_append, List.headD_cons, ofn _ this, headB, top_0]
  split <;> omega
/-- a text that is written is read as it was -/
theorem getT_put {t ys : List UInt8} (hp : Pk (enc t) ys) (ht : t.length ≤ 2147483647) (most : Int) (hm : (t.length : Int) ≤ most) (r : List UInt8) : getT most (putT t ys ++ r) = .ok t (putT t ys).length := by
  unfold putT
  split
  · rename_i h
    rw [List.append_assoc, getT_ok (getN_put 128 7 ys.length (by omega) (by omega) (by omega) (ys ++ r)), if_neg (by simp), if_neg (head_hi _ _), ← List.append_assoc, take_mid, dec_back hp most hm, decT, List.length_append]
  · rename_i h
    rw [List.append_assoc, getT_ok (getN_put 0 7 t.length (by omega) (by omega) (by omega) (t ++ r)), if_neg (by simp), if_pos (head_lo _ _), ← List.append_assoc, take_mid, List.length_append]
theorem getN_part (x v : Nat) (hx : x < 256) (hv : v ≤ 2147483647) (b : List UInt8) (hb : b.length = v) (i : Nat) (hi : i < (putB (2 ^ 7 - 1) (topOf x 7) v ++ b).length) :
    getN 7 ((putB (2 ^ 7 - 1) (topOf x 7) v ++ b).take i) = .more ∨ (getN 7 ((putB (2 ^ 7 - 1) (topOf x 7) v ++ b).take i) = .ok v (putB (2 ^ 7 - 1) (topOf x 7) v).length ∧ ((putB (2 ^ 7 - 1) (topOf x 7) v ++ b).take i).length < (putB (2 ^ 7 - 1) (topOf x 7) v).length + v) := by
  rw [List.length_append, hb] at hi
  by_cases hc : i < (putB (2 ^ 7 - 1) (topOf x 7) v).length
  · left
    rw [List.take_append_of_le_length (by omega)]
    exact getN_cut x 7 v i hx (by omega) hv hc
  · right
    constructor
    · rw [List.take_append, List.take_of_length_le (by omega)]
      exact getN_put x 7 v hx (by omega) hv _
    · rw [List.length_take, List.length_append, hb]; omega
/-- no beginning of it is a text -/
theorem getT_cut {t ys : List UInt8} (ht : t.length ≤ 2147483647) (most : Int) (i : Nat) (hi : i < (putT t ys).length) : getT most ((putT t ys).take i) = .err 2 := by
  unfold putT at hi ⊢
  split at hi
  · rename_i h
    rw [if_pos h]
    rcases getN_part 128 ys.length (by omega) (by omega) ys rfl i hi with h | ⟨h, hl⟩
    · exact getT_more h
    · rw [getT_ok h, if_pos hl]
  · rename_i h
    rw [if_neg h]
    rcases getN_part 0 t.length (by omega) (by omega) t rfl i hi with h | ⟨h, hl⟩
    · exact getT_more h
    · rw [getT_ok h, if_pos hl]
/-- what is read is not long -/
theorem getN_putT {t ys r : List UInt8} (ht : t.length ≤ 2147483647) {size n : Nat} (h : getN 7 (putT t ys ++ r) = .ok size n) : size ≤ t.length := by
  unfold putT at h
  split at h
  · rename_i hc
    rw [List.append_assoc, getN_put 128 7 ys.length (by omega) (by omega) (by omega) (ys ++ r)] at h
    injection h with h1 h2
    omega
  · rw [List.append_assoc, getN_put 0 7 t.length (by omega) (by omega) (by omega) (t ++ r)] at h
    injection h with h1 h2
    omega
theorem putT_len_le {t ys : List UInt8} : (putT t ys).length ≤ (putB (2 ^ 7 - 1) (topOf 0 7) t.length).length + t.length := by
  unfold putT
  split
  · rename_i h
    rw [List.length_append]
    have := putB_mono (2 ^ 7 - 1) (topOf 128 7) (topOf 0 7) ys.length t.length (by omega)
    omega
  · rw [List.length_append]; omega
theorem putT_pos {t ys : List UInt8} : 1 ≤ (putT t ys).length := by
  unfold putT
  split
  · rw [List.length_append]; have := putB_pos (2 ^ 7 - 1) (topOf 128 7) ys.length; omega
  · rw [List.length_append]; have := putB_pos (2 ^ 7 - 1) (topOf 0 7) t.length; omega
theorem putT_len {t ys : List UInt8} (ht : t.length ≤ 2147483647) : (putT t ys).length ≤ 6 + t.length := by
  have := putT_len_le (t := t) (ys := ys)
  have := putB_le (2 ^ 7 - 1) (topOf 0 7) t.length ht
  omega
/-- the first octet tells whether it is packed; a packed one is more than that octet -/
theorem putT_head {t ys : List UInt8} (hp : Pk (enc t) ys) : ∃ (x : UInt8) (q : List UInt8), putT t ys = x :: q ∧ (128 ≤ x.toNat ↔ ys.length < t.length) ∧ (ys.length < t.length → 1 ≤ q.length) := by
  unfold putT
  split
  · rename_i h
    have hh := head_hi ys.length ys
    obtain ⟨q, hq⟩ := putB_head (2 ^ 7 - 1) (topOf 128 7) ys.length
    rw [hq, List.cons_append] at hh ⊢
    rw [List.headD_cons] at hh
    refine ⟨_, _, rfl, by constructor <;> intro _ <;> omega, fun _ => ?_⟩
    have hy : 1 ≤ ys.length := by
      have h1 := hp.len
      match t, h with
      | b :: t, h =>
        rw [enc_cons, List.length_append, cbits_length] at h1
        have := (code_sym b.toNat (by have := b.toNat_lt; omega)).2.2.2.1
        omega
    rw [List.length_append]
    omega
  · rename_i h
    have hh := head_lo t.length t
    obtain ⟨q, hq⟩ := putB_head (2 ^ 7 - 1) (topOf 0 7) t.length
    rw [hq, List.cons_append] at hh ⊢
    rw [List.headD_cons] at hh
    exact ⟨_, _, rfl, by constructor <;> intro _ <;> omega, fun hc => absurd hc h⟩
/-- where there is room for a symbol a bit, the most is all one -/
theorem decP_most (m1 m2 : Int) : ∀ (bs : List Bool) (n v : Nat) (acc : List UInt8), ((acc.length + bs.length : Nat) : Int) ≤ m1 → ((acc.length + bs.length : Nat) : Int) ≤ m2 → decP m1 bs n v acc = decP m2 bs n v acc
  | [], n, v, acc, _, _ => rfl
  | b :: r, n, v, acc, h1, h2 => by
    rw [List.length_cons] at h1 h2
    rw [decP, decP]
    split
    · split
      · rfl
      · rw [if_neg (by omega), if_neg (by omega)]
        exact decP_most m1 m2 r 0 0 _ (by simp; omega) (by simp; omega)
    · exact decP_most m1 m2 r _ _ acc (by omega) (by omega)
theorem getT_most (m1 m2 : Int) (xs : List UInt8) (h1 : ((8 * xs.length : Nat) : Int) ≤ m1) (h2 : ((8 * xs.length : Nat) : Int) ≤ m2) : getT m1 xs = getT m2 xs := by
  unfold getT
  split
  · rename_i size n hg
    rw [show dec (bits8 ((xs.drop n).take size)) m1 = dec (bits8 ((xs.drop n).take size)) m2 from ?_]
    have hl : ((xs.drop n).take size).length ≤ xs.length := by rw [List.length_take, List.length_drop]; omega
    exact decP_most m1 m2 _ 0 0 [] (by rw [bits8_length]; simp; omega) (by rw [bits8_length]; simp; omega)
  · rfl
  · rfl
  · rfl
end Go.Proofs.YtdmheinepkeglaaDoor
