/- The document's answers for texts: PutText, GetText. -/
import Derived.Test.YtdmheinepkeglaaDoorHLawR
import Derived.Test.YtdmheinepkeglaaDoorHText
import Derived.Test.YtdmheinepkeglaaDoorREnc
namespace Go.Proofs.YtdmheinepkeglaaDoor
open Go.RowKit Go.Own Go.Huf Go.Hin
set_option linter.unusedVariables false

theorem rPutInt_n (x m v : Nat) (hx : x < 256) (h1 : 1 ≤ m) (h8 : m ≤ 8) (hv : v ≤ 2147483647) (L : List UInt8) (hL : putB (2 ^ m - 1) (topOf x m) v = L) (T : ByteArray) (hT : str L = T) (zx : Int) (hzx : zx = (x : Int)) (z : Int) (hz : z = (m : Int)) (zv : Int) (hzv : zv = (v : Int)) (w : World) :
    Calls Tryd.prog 11 #[.int .u8 zx, .int .i64 z, .int .i64 zv] w fun e w' => e = .returned (.tuple #[.string T, .int .i64 0]) ∧ Below w.heap.size w w' := by
  subst hzx hT
  exact rPutInt_ok x m v hx h1 h8 hv L hL z hz zv hzv w
theorem rEncode_s (s : ByteArray) (ys : List UInt8) (hp : Pk (enc s.data.toList) ys) (T : ByteArray) (hT : str ys = T) (w : World) (hs : s.size ≤ 1048576) : Calls Tryd.prog 31 #[.string s] w fun e w' => e = .returned (.string T) ∧ Below w.heap.size w w' := by
  subst hT
  exact rEncode_any s ys hp w hs
set_option maxRecDepth 100000 in
set_option maxHeartbeats 4000000 in
theorem rPutText_any (s : ByteArray) (ys : List UInt8) (hp : Pk (enc s.data.toList) ys) (hs : s.size ≤ 1048576) (L : List UInt8) (hL : putT s.data.toList ys = L) (T : ByteArray) (hT : str L = T) (w : World) :
    Calls Tryd.prog 17 #[.string s] w fun e w' => e = .returned (.string T) ∧ Below w.heap.size w w' := by
  have hsl : s.data.toList.length = s.size := by simp
  obtain ⟨K, hK⟩ : ∃ K, ys.length = K := ⟨_, rfl⟩
  obtain ⟨Y, hY⟩ : ∃ Y, str ys = Y := ⟨_, rfl⟩
  have hYs : Y.size = K := by rw [← hY, str_size, hK]
  have hst : str s.data.toList = s := str_self s
  have hsz : s.size ≤ 9223372036854775807 := by omega
  unfold putT at hL
  rw [hK, hsl] at hL
  have Hp := Lib.hid hp
  have HY := Lib.hid hY
  clear hp
  by_cases hc : K < s.size
  · rw [if_pos hc] at hL
    have kb : decide (K < s.size) = true := decide_eq_true hc
    obtain ⟨P0, hP0⟩ : ∃ P0, putB (2 ^ 7 - 1) (topOf 128 7) K = P0 := ⟨_, rfl⟩
    obtain ⟨P1, hP1⟩ : ∃ P1, str P0 = P1 := ⟨_, rfl⟩
    rw [hP0] at hL
    have hKl : K ≤ 2147483647 := by omega
    have hcat : P1 ++ Y = T := by rw [← hP1, ← hY, str_append, hL, hT]
    have hpl : P0.length ≤ 6 := by rw [← hP0]; exact putB_le _ _ _ hKl
    have hPs : P1.size ≤ 6 := by rw [← hP1, str_size]; exact hpl
    have HP0 := Lib.hid hP0
    have HP1 := Lib.hid hP1
    clear hL hT hP0 hP1 hK hY hsl hst hc
    go_enter Tryd.func17, Tryd.ntmps17
    go_wp2_with (first
      | (go_at_call 31; (with_reducible refine (rEncode_s s ys Hp.out Y HY.out _ hs).mono ?_); rintro e w1 ⟨rfl, hb1⟩; have H1 := Lib.hid hb1; clear hb1)
      | (go_at_call 11; (with_reducible refine (rPutInt_n 128 7 K (by omega) (by omega) (by omega) hKl P0 HP0.out P1 HP1.out 128 rfl 7 rfl _ rfl _).mono ?_); rintro e w2 ⟨rfl, hb2⟩; have H2 := Lib.hid (H1.out.trans (hb2.mono H1.out.size)); clear hb2))
    go_ret
    exact ⟨rfl, H2.out⟩
  · rw [if_neg hc] at hL
    have kb : decide (K < s.size) = false := decide_eq_false hc
    obtain ⟨P0, hP0⟩ : ∃ P0, putB (2 ^ 7 - 1) (topOf 0 7) s.size = P0 := ⟨_, rfl⟩
    obtain ⟨P1, hP1⟩ : ∃ P1, str P0 = P1 := ⟨_, rfl⟩
    rw [hP0] at hL
    have hKl : s.size ≤ 2147483647 := by omega
    have hcat : P1 ++ s = T := by rw [← hP1, ← hT, ← hL, ← str_append, hst]
    have hpl : P0.length ≤ 6 := by rw [← hP0]; exact putB_le _ _ _ hKl
    have hPs : P1.size ≤ 6 := by rw [← hP1, str_size]; exact hpl
    have HP0 := Lib.hid hP0
    have HP1 := Lib.hid hP1
    clear hL hT hP0 hP1 hK hY hsl hst hc
    go_enter Tryd.func17, Tryd.ntmps17
    go_wp2_with (first
      | (go_at_call 31; (with_reducible refine (rEncode_s s ys Hp.out Y HY.out _ hs).mono ?_); rintro e w1 ⟨rfl, hb1⟩; have H1 := Lib.hid hb1; clear hb1)
      | (go_at_call 11; (with_reducible refine (rPutInt_n 0 7 s.size (by omega) (by omega) (by omega) hKl P0 HP0.out P1 HP1.out 0 rfl 7 rfl _ rfl _).mono ?_); rintro e w2 ⟨rfl, hb2⟩; have H2 := Lib.hid (H1.out.trans (hb2.mono H1.out.size)); clear hb2))
    go_ret
    exact ⟨rfl, H2.out⟩
theorem rGetInt_7 (xs : List UInt8) (S : ByteArray) (hS : str xs = S) (n0 : Nat) (hn0 : xs.length = n0) (hn : n0 ≤ 1000) (R0 : G) (hR : getN 7 xs = R0) (v : Value) (hv : getV R0 = v) (w : World) :
    Calls Tryd.prog 13 #[.string S, .int .i64 7] w fun e w' => e = .returned v ∧ w = w' := by
  subst hv hS
  exact rGetInt_any xs n0 hn0 (by omega) 7 R0 hR w
theorem rDecode_s (xs : List UInt8) (S : ByteArray) (hS : str xs = S) (n0 : Nat) (hn0 : xs.length = n0) (hn : n0 ≤ 1000) (most : Int) (R0 : R) (hR0 : dec (bits8 xs) most = R0) (v : Value) (hv : resV R0 = v) (w : World) :
    Calls Tryd.prog 28 #[.string S, .int .i64 most] w fun e w' => e = .returned v ∧ Below w.heap.size w w' := by
  subst hv hS
  exact rDecode_any xs n0 hn0 hn most R0 hR0 w
theorem str_extract (xs : List UInt8) (a b : Nat) : (str xs).extract a b = str ((xs.drop a).take (b - a)) := by
  apply ByteArray.ext
  apply Array.toList_inj.1
  simp [str]
set_option maxRecDepth 100000 in
set_option maxHeartbeats 4000000 in
theorem rGetText_any (xs : List UInt8) (n0 : Nat) (hn0 : xs.length = n0) (hn : n0 ≤ 1000) (R0 : T) (hR : getT 2147483647 xs = R0) (S : ByteArray) (hS : str xs = S) (w : World) :
    Calls Tryd.prog 15 #[.string S] w fun e w' => e = .returned (textV R0) ∧ Below w.heap.size w w' := by
  have hSs : S.size = n0 := by rw [← hS, str_size, hn0]
  have HS := Lib.hid hS
  have Hn0 := Lib.hid hn0
  obtain ⟨R1, hR1⟩ : ∃ R1, getN 7 xs = R1 := ⟨_, rfl⟩
  have HR1 := Lib.hid hR1
  rcases R1 with ⟨size, n⟩ | _ | _ | _
  · rw [getT_ok hR1, hn0] at hR
    obtain ⟨x, r, hxr, n1, n2, n6, q4⟩ := getN_least hR1
    rw [hn0] at n2
    obtain ⟨ns, hns⟩ : ∃ ns, n + size = ns := ⟨_, rfl⟩
    have e1 : (n : Int) + (size : Int) = (ns : Int) := by omega
    have hx0 : xs[0]? = some x := by rw [hxr]; rfl
    have hki : 0 < S.size := by rw [hSs]; omega
    have hsx : S[0]'hki = x := by
      have := str_get xs 0 x hx0 (by rw [HS.out]; exact hki)
      simpa [HS.out] using this
    have hxl := x.toNat_lt
    have hhd : xs.headD 0 = x := by rw [hxr]; rfl
    rw [hhd, hns] at hR
    obtain ⟨ys, hys⟩ : ∃ ys, (xs.drop n).take size = ys := ⟨_, rfl⟩
    obtain ⟨Y, hY⟩ : ∃ Y, str ys = Y := ⟨_, rfl⟩
    rw [hys] at hR
    have hext : S.extract n ns = Y := by rw [← hS, str_extract, ← hY, ← hys, show ns - n = size by omega]
    have hyl : ys.length ≤ 1000 := by rw [← hys, List.length_take, List.length_drop, hn0]; omega
    have HY := Lib.hid hY
    have en : (n0 : Int) - (n : Int) = ((n0 - n : Nat) : Int) := by omega
    have e3 : (n : Int) ≤ (ns : Int) := by omega
    clear hS hn0 hR1 hxr hx0 hhd hys hY
    by_cases hc : n0 < ns
    · rw [if_pos hc] at hR
      subst hR
      have k1 : ((n0 - n : Nat) : Int) < (size : Int) := by omega
      go_enter Tryd.func15, Tryd.ntmps15
      go_wp2_with (first
        | (go_at_call 13; (with_reducible refine (rGetInt_7 xs S HS.out n0 Hn0.out hn _ HR1.out (.tuple #[.int .i64 (size : Int), .int .i64 (n : Int), .int .i64 0]) rfl _).mono ?_); rintro e w1 ⟨rfl, rfl⟩))
      go_ret3
      exact ⟨rfl, Below.refl _ _⟩
    · rw [if_neg hc] at hR
      have k1 : ¬ ((n0 - n : Nat) : Int) < (size : Int) := by omega
      have e4 : (ns : Int) ≤ (n0 : Int) := by omega
      by_cases h128 : x.toNat < 128
      · rw [if_pos h128] at hR
        subst hR
        have k2 : (x.toNat : Int) < 128 := by omega
        go_enter Tryd.func15, Tryd.ntmps15
        go_wp2_with (first
          | (go_at_call 13; (with_reducible refine (rGetInt_7 xs S HS.out n0 Hn0.out hn _ HR1.out (.tuple #[.int .i64 (size : Int), .int .i64 (n : Int), .int .i64 0]) rfl _).mono ?_); rintro e w1 ⟨rfl, rfl⟩))
        go_ret3
        exact ⟨by rw [← HY.out]; rfl, Below.refl _ _⟩
      · rw [if_neg h128] at hR
        have k2 : ¬ (x.toNat : Int) < 128 := by omega
        obtain ⟨R2, hR2⟩ : ∃ R2, dec (bits8 ys) 2147483647 = R2 := ⟨_, rfl⟩
        rw [hR2] at hR
        subst hR
        have HR2 := Lib.hid hR2
        obtain ⟨yl, hyl2⟩ : ∃ yl, ys.length = yl := ⟨_, rfl⟩
        rw [hyl2] at hyl
        have Hyl := Lib.hid hyl2
        clear hR2 hyl2
        rcases R2 with t | _ | _
        · go_enter Tryd.func15, Tryd.ntmps15
          go_wp2_with (first
            | (go_at_call 13; (with_reducible refine (rGetInt_7 xs S HS.out n0 Hn0.out hn _ HR1.out (.tuple #[.int .i64 (size : Int), .int .i64 (n : Int), .int .i64 0]) rfl _).mono ?_); rintro e w1 ⟨rfl, rfl⟩)
            | (go_at_call 28; (with_reducible refine (rDecode_s ys Y HY.out yl Hyl.out hyl _ _ HR2.out (.tuple #[.string (str t), .int .i64 0]) rfl _).mono ?_); rintro e w2 ⟨rfl, hb2⟩; have H2 := Lib.hid hb2; clear hb2))
          go_ret3
          exact ⟨rfl, H2.out⟩
        · go_enter Tryd.func15, Tryd.ntmps15
          go_wp2_with (first
            | (go_at_call 13; (with_reducible refine (rGetInt_7 xs S HS.out n0 Hn0.out hn _ HR1.out (.tuple #[.int .i64 (size : Int), .int .i64 (n : Int), .int .i64 0]) rfl _).mono ?_); rintro e w1 ⟨rfl, rfl⟩)
            | (go_at_call 28; (with_reducible refine (rDecode_s ys Y HY.out yl Hyl.out hyl _ _ HR2.out (.tuple #[.string ⟨#[]⟩, .int .i64 3]) rfl _).mono ?_); rintro e w2 ⟨rfl, hb2⟩; have H2 := Lib.hid hb2; clear hb2))
          go_ret3
          exact ⟨rfl, H2.out⟩
        · go_enter Tryd.func15, Tryd.ntmps15
          go_wp2_with (first
            | (go_at_call 13; (with_reducible refine (rGetInt_7 xs S HS.out n0 Hn0.out hn _ HR1.out (.tuple #[.int .i64 (size : Int), .int .i64 (n : Int), .int .i64 0]) rfl _).mono ?_); rintro e w1 ⟨rfl, rfl⟩)
            | (go_at_call 28; (with_reducible refine (rDecode_s ys Y HY.out yl Hyl.out hyl _ _ HR2.out (.tuple #[.string ⟨#[]⟩, .int .i64 4]) rfl _).mono ?_); rintro e w2 ⟨rfl, hb2⟩; have H2 := Lib.hid hb2; clear hb2))
          go_ret3
          exact ⟨rfl, H2.out⟩
  · exact absurd HR1.out (getN_arg 7 xs)
  · rw [getT_more hR1] at hR
    subst hR
    clear hS hn0 hR1
    go_enter Tryd.func15, Tryd.ntmps15
    go_wp2_with (first
      | (go_at_call 13; (with_reducible refine (rGetInt_7 xs S HS.out n0 Hn0.out hn _ HR1.out (.tuple #[.int .i64 0, .int .i64 0, .int .i64 2]) rfl _).mono ?_); rintro e w1 ⟨rfl, rfl⟩))
    go_ret3
    exact ⟨rfl, Below.refl _ _⟩
  · rw [getT_form hR1] at hR
    subst hR
    clear hS hn0 hR1
    go_enter Tryd.func15, Tryd.ntmps15
    go_wp2_with (first
      | (go_at_call 13; (with_reducible refine (rGetInt_7 xs S HS.out n0 Hn0.out hn _ HR1.out (.tuple #[.int .i64 0, .int .i64 0, .int .i64 3]) rfl _).mono ?_); rintro e w1 ⟨rfl, rfl⟩))
    go_ret3
    exact ⟨rfl, Below.refl _ _⟩
end Go.Proofs.YtdmheinepkeglaaDoor
