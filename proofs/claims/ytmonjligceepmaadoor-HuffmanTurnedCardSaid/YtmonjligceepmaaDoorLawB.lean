/- HuffmanBack's walk: whatever the text (of at most 2^24 bytes), true. -/
import Derived.Test.YtmonjligceepmaaDoorShown2
namespace Go.Proofs.YtmonjligceepmaaDoor
open Go.RowKit Go.Own Go.Huf
set_option linter.unusedVariables false

theorem str_self (s : ByteArray) : (⟨s.data.toList.toArray⟩ : ByteArray) = s := by cases s; simp
theorem dec_back {t xs : List UInt8} (h : Pk (enc t) xs) (most : Int) (hm : (t.length : Int) ≤ most) : dec (bits8 xs) most = .ok t := by
  obtain ⟨k, hk, e⟩ := h
  rw [dec, e, decP_enc most t _ [] (by simpa using hm), decP_ones most k (by omega), if_pos hk]
  simp
theorem dec_long {t xs : List UInt8} (h : Pk (enc t) xs) (most : Int) (hm : most < (t.length : Int)) (ht : t ≠ []) : dec (bits8 xs) most = .long := by
  obtain ⟨k, hk, e⟩ := h
  rw [dec, e, decP_long most t _ [] (by simpa using hm) ht]
theorem Decode_back {w : World} {A : Option Addr} {n c : Nat} {xs : List UInt8} (s : ByteArray) (hr : Rd w 1 A n (xs.map BV)) (hC : Cnt w) (hlc : n ≤ c) (hcap : c ≤ 9223372036854775807) (hlen : n ≤ 536870912) (hp : Pk (enc s.data.toList) xs) (most : Int) (hm : (s.size : Int) ≤ most) :
    Calls Tryd.prog 19 #[.slice A n c, .int .i64 most] w fun e w' => e = .returned (.tuple #[.string s, .int .i64 0]) ∧ Below w.heap.size w w' := by
  have := Decode_any hr hC hlc hcap hlen most
  rw [dec_back hp most (by simpa using hm), resV, str_self] at this
  exact this
theorem ne_nil_of_pos {s : ByteArray} (h : 0 < s.size) : s.data.toList ≠ [] := by
  intro e
  have h2 : s.data.toList.length = s.size := by simp
  rw [e] at h2
  simp at h2
  omega
theorem Decode_less {w : World} {A : Option Addr} {n c : Nat} {xs : List UInt8} (s : ByteArray) (hr : Rd w 1 A n (xs.map BV)) (hC : Cnt w) (hlc : n ≤ c) (hcap : c ≤ 9223372036854775807) (hlen : n ≤ 536870912) (hp : Pk (enc s.data.toList) xs) (most : Int) (hm : most < (s.size : Int)) (hs : 0 < s.size) :
    Calls Tryd.prog 19 #[.slice A n c, .int .i64 most] w fun e w' => e = .returned (.tuple #[.string ⟨#[]⟩, .int .i64 4]) ∧ Below w.heap.size w w' := by
  have := Decode_any hr hC hlc hcap hlen most
  rw [dec_long hp most (by simpa using hm) (ne_nil_of_pos hs), resV] at this
  exact this
theorem enc_len_le (s : ByteArray) : (enc s.data.toList).length ≤ 30 * s.size := by
  have := enc_le s.data.toList
  simpa using this
theorem empty_bool (s : ByteArray) : s.toList.isEmpty = decide (s.size = 0) := by
  have h : s.toList.length = s.size := by
    rw [ByteArray.toList_eq]; simp
  rw [Bool.eq_iff_iff, List.isEmpty_iff]
  simp only [decide_eq_true_eq]
  constructor
  · intro e; rw [e] at h; simpa using h.symm
  · intro e; exact List.eq_nil_of_length_eq_zero (by omega)
set_option maxRecDepth 100000 in
set_option maxHeartbeats 2000000 in
theorem back_walk {s : ByteArray} {w : World} (hs : s.size ≤ 1048576) (hC : Cnt w) : Calls Tryd.prog 6 #[.string s] w fun e w' => e = .returned (.bool true) ∧ Below w.heap.size w w' := by
  have HC := Lib.hid hC
  have hL := enc_len_le s
  obtain ⟨N, hN⟩ : ∃ N, ((enc s.data.toList).length + 7) / 8 = N := ⟨_, rfl⟩
  have HN := Lib.hid hN
  have hNl : N ≤ 536870912 := by omega
  have hem := empty_bool s
  by_cases h0 : s.size = 0
  · have hN0 : N = 0 := by
      have e : s.data.toList = [] := List.eq_nil_of_length_eq_zero (by simpa using h0)
      rw [← hN, e, enc_nil]; rfl
    subst hN0
    have he : s.toList.isEmpty = true := by rw [hem]; simpa using h0
    clear hC hL hN hem h0
    go_enter Tryd.func6, Tryd.ntmps6
    go_wp2_with (first
      | (go_at_call 11; (with_reducible refine (shown_any _ HC.out).mono ?_); rintro e w1 ⟨rfl, hb1⟩; have H1 := Lib.hid hb1; clear hb1)
      | (go_at_call 17; (with_reducible refine (Encode_n s 0 HN.out _ (HC.out.below H1.out) (by omega)).mono ?_); rintro e w2 ⟨A, c, xs, rfl, ho, hc1, hc2, hk, hb2⟩; have H2 := Lib.hid (H1.out.trans (hb2.mono H1.out.size)); have Ho := Lib.hid ho; have Hk := Lib.hid hk; clear hb2 ho hk)
      | (go_at_call 19; (with_reducible refine (Decode_back s (Rd.of_own Ho.out) (HC.out.below H2.out) hc1 hc2 hNl Hk.out s.size (Int.le_refl _)).mono ?_); rintro e w3 ⟨rfl, hb3⟩; have H3 := Lib.hid (H2.out.trans (hb3.mono H2.out.size)); clear hb3)
      | (go_at_call 15; (with_reducible refine (Size_n s 0 HN.out _ (HC.out.below H3.out) (by omega)).mono ?_); rintro e w4 ⟨rfl, hb4⟩; have H4 := Lib.hid (H3.out.trans (hb4.mono H3.out.size)); clear hb4))
    go_ret
    exact ⟨rfl, H4.out⟩
  · have he : s.toList.isEmpty = false := by rw [hem]; simpa using h0
    have hpos : 0 < s.size := by omega
    clear hC hL hN hem h0
    go_enter Tryd.func6, Tryd.ntmps6
    go_wp2_with (first
      | (go_at_call 11; (with_reducible refine (shown_any _ HC.out).mono ?_); rintro e w1 ⟨rfl, hb1⟩; have H1 := Lib.hid hb1; clear hb1)
      | (go_at_call 17; (with_reducible refine (Encode_n s N HN.out _ (HC.out.below H1.out) (by omega)).mono ?_); rintro e w2 ⟨A, c, xs, rfl, ho, hc1, hc2, hk, hb2⟩; have H2 := Lib.hid (H1.out.trans (hb2.mono H1.out.size)); have Hr := Lib.hid (Rd.of_own ho); have Hk := Lib.hid hk; clear hb2 ho hk)
      | (go_at_call 19; (with_reducible refine (Decode_back s Hr.out (HC.out.below H2.out) hc1 hc2 hNl Hk.out s.size (Int.le_refl _)).mono ?_); rintro e w3 ⟨rfl, hb3⟩; have H3 := Lib.hid (H2.out.trans (hb3.mono H2.out.size)); have Hr3 := Lib.hid (Hr.out.below hb3); clear hb3)
      | (go_at_call 15; (with_reducible refine (Size_n s N HN.out _ (HC.out.below H3.out) (by omega)).mono ?_); rintro e w4 ⟨rfl, hb4⟩; have H4 := Lib.hid (H3.out.trans (hb4.mono H3.out.size)); have Hr4 := Lib.hid (Hr3.out.below hb4); clear hb4)
      | (go_at_call 19; (with_reducible refine (Decode_less s Hr4.out (HC.out.below H4.out) hc1 hc2 hNl Hk.out _ (by omega) hpos).mono ?_); rintro e w5 ⟨rfl, hb5⟩; have H5 := Lib.hid (H4.out.trans (hb5.mono H4.out.size)); clear hb5))
    go_ret
    exact ⟨rfl, H5.out⟩
end Go.Proofs.YtmonjligceepmaaDoor
