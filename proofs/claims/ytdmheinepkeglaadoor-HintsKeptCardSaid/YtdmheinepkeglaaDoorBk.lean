/- Decode of what Encode tells; sizes. -/
import Derived.Test.YtdmheinepkeglaaDoorEncN
namespace Go.Proofs.YtdmheinepkeglaaDoor
open Go.RowKit Go.Own Go.Huf
set_option linter.unusedVariables false

theorem str_self (s : ByteArray) : (⟨s.data.toList.toArray⟩ : ByteArray) = s := by cases s; simp
theorem dec_back {t xs : List UInt8} (h : Pk (enc t) xs) (most : Int) (hm : (t.length : Int) ≤ most) : dec (bits8 xs) most = .ok t := by
  obtain ⟨k, hk, e⟩ := h
  rw [dec, e, decP_enc most t _ [] (by simpa using hm), decP_ones most k (by omega), if_pos hk]
  simp
theorem dec_long {t xs : List UInt8} (h : Pk (enc t) xs) (most : Int) (hm : most < (t.length : Int)) (ht : t ≠ []) : dec (bits8 xs) most = .long := by
  obtain ⟨k, hk, e⟩ := h
  rw [dec, e, decP_long most t _ [] (by simpa using hm) ht]
theorem Decode_back {w : World} {A : Option Addr} {n c : Nat} {xs : List UInt8} (s : ByteArray) (hr : Rd w 1 A n (xs.map BV)) (hC : Cnt w) (hlc : n ≤ c) (hcap : c ≤ 9223372036854775807) (hlen : n ≤ 536870912) (hp : Pk (enc s.data.toList) xs) (most : Int) (hm : (s.size : Int) ≤ most) :
    Calls Tryd.prog 37 #[.slice A n c, .int .i64 most] w fun e w' => e = .returned (.tuple #[.string s, .int .i64 0]) ∧ Below w.heap.size w w' := by
  have := Decode_any hr hC hlc hcap hlen most
  rw [dec_back hp most (by simpa using hm), resV, str_self] at this
  exact this
theorem ne_nil_of_pos {s : ByteArray} (h : 0 < s.size) : s.data.toList ≠ [] := by
  intro e
  have h2 : s.data.toList.length = s.size := by simp
  rw [e] at h2
  simp at h2
  omega
theorem Decode_less {w : World} {A : Option Addr} {n c : Nat} {xs : List UInt8} (s : ByteArray) (hr : Rd w 1 A n (xs.map BV)) (hC : Cnt w) (hlc : n ≤ c) (hcap : c ≤ 9223372036854775807) (hlen : n ≤ 536870912) (hp : Pk (enc s.data.toList) xs) (most : Int) (hm : most < (s.size : Int)) (hs : 0 < s.size) :
    Calls Tryd.prog 37 #[.slice A n c, .int .i64 most] w fun e w' => e = .returned (.tuple #[.string ⟨#[]⟩, .int .i64 4]) ∧ Below w.heap.size w w' := by
  have := Decode_any hr hC hlc hcap hlen most
  rw [dec_long hp most (by simpa using hm) (ne_nil_of_pos hs), resV] at this
  exact this
theorem enc_len_le (s : ByteArray) : (enc s.data.toList).length ≤ 30 * s.size := by
  have := enc_le s.data.toList
  simpa using this
theorem empty_bool (s : ByteArray) : s.toList.isEmpty = decide (s.size = 0) := by
  have h : s.toList.length = s.size := by
    rw [ByteArray.toList_eq]; simp
  rw [Bool.eq_iff_iff, List.isEmpty_iff]
  simp only [decide_eq_true_eq]
  constructor
  · intro e; rw [e] at h; simpa using h.symm
  · intro e; exact List.eq_nil_of_length_eq_zero (by omega)
end Go.Proofs.YtdmheinepkeglaaDoor
