/- The document's answers for numbers: full, PutInt, GetInt. -/
import Derived.Test.YtdmheinepkeglaaDoorHGet
import Derived.Test.YtdmheinepkeglaaDoorRDec2
namespace Go.Proofs.YtdmheinepkeglaaDoor
open Go.RowKit Go.Own Go.Huf Go.Hin
set_option linter.unusedVariables false

theorem r3full_any (p : Nat) (h8 : p ≤ 8) (F : Nat) (hF : 2 ^ p - 1 = F) (w : World) : Calls Tryd.prog 23 #[.int .i64 (p : Int)] w fun e w' => e = .returned (.int .i64 (F : Int)) ∧ w = w' := by
  have HF := Lib.hid hF
  clear hF
  go_enter Tryd.func23, Tryd.ntmps23
  go_wp2
  go_loopg [3, 4] p (fun gh m i w' => ∃ (k : Nat), gh + k = p ∧ m = .int .i64 ((2 ^ k : Nat) : Int) ∧ i = .int .i64 k ∧ w = w')
  case atStart => exact ⟨0, by omega, rfl, rfl, rfl⟩
  case round =>
    obtain ⟨k, hk, rfl, rfl, rfl⟩ := hrel
    have hpl := two_pow_le k (by omega)
    have hpp := Nat.two_pow_pos k
    obtain ⟨q, hq⟩ : ∃ q, 2 ^ k = q := ⟨_, rfl⟩
    rw [hq] at hpl hpp ⊢
    have Hq := Lib.hid hq
    clear hq
    cases gk with
    | zero =>
      obtain rfl : k = p := by omega
      have e1 : (q : Int) - 1 = (F : Int) := by have := HF.out; rw [Hq.out] at this; omega
      go_wp2
      go_ret
      exact ⟨by rw [← e1]; rfl, rfl⟩
    | succ g1 =>
      have e1 : (q : Int) * 2 = ((2 ^ (k + 1) : Nat) : Int) := by rw [Nat.pow_succ, Hq.out]; omega
      obtain ⟨q2, hq2⟩ : ∃ q2, 2 ^ (k + 1) = q2 := ⟨_, rfl⟩
      rw [hq2] at e1
      have Hq2 := Lib.hid hq2
      clear hq2
      have hlt : (k : Int) < (p : Int) := by omega
      go_wp2
      go_roundg g1
      case measure => omega
      case rel => exact ⟨k + 1, by omega, by rw [Hq2.out], rfl, rfl⟩
set_option maxRecDepth 100000 in
set_option maxHeartbeats 2000000 in
theorem rPutInt_no (x m v : Int) (h : ¬ (1 ≤ m ∧ m ≤ 8) ∨ v < 0 ∨ 2147483647 < v) (w : World) :
    Calls Tryd.prog 11 #[.int .u8 x, .int .i64 m, .int .i64 v] w fun e w' => e = .returned (.tuple #[.string ⟨#[]⟩, .int .i64 1]) ∧ w = w' := by
  by_cases h1 : m < 1
  · go_enter Tryd.func11, Tryd.ntmps11
    go_wp2
    go_ret2
    exact ⟨rfl, rfl⟩
  by_cases h2 : 8 < m
  · go_enter Tryd.func11, Tryd.ntmps11
    go_wp2
    go_ret2
    exact ⟨rfl, rfl⟩
  by_cases h3 : v < 0
  · go_enter Tryd.func11, Tryd.ntmps11
    go_wp2
    go_ret2
    exact ⟨rfl, rfl⟩
  have h4 : 2147483647 < v := by omega
  · go_enter Tryd.func11, Tryd.ntmps11
    go_wp2
    go_ret2
    exact ⟨rfl, rfl⟩
set_option maxRecDepth 100000 in
set_option maxHeartbeats 2000000 in
theorem rPutInt_ok (x m v : Nat) (hx : x < 256) (h1 : 1 ≤ m) (h8 : m ≤ 8) (hv : v ≤ 2147483647) (L : List UInt8) (hL : putB (2 ^ m - 1) (topOf x m) v = L) (z : Int) (hz : z = (m : Int)) (zv : Int) (hzv : zv = (v : Int)) (w : World) :
    Calls Tryd.prog 11 #[.int .u8 (x : Int), .int .i64 z, .int .i64 zv] w fun e w' => e = .returned (.tuple #[.string (str L), .int .i64 0]) ∧ Below w.heap.size w w' := by
  subst hz hzv
  have hLl : L.length ≤ 6 := by rw [← hL]; exact putB_le _ _ _ hv
  have hpl := two_pow_le m h8
  have hpp := Nat.two_pow_pos m
  obtain ⟨F, hF⟩ : ∃ F, 2 ^ m - 1 = F := ⟨_, rfl⟩
  obtain ⟨Q, hQ⟩ : ∃ Q, 2 ^ m = Q := ⟨_, rfl⟩
  have hF255 : F ≤ 255 := by omega
  have hTl := topOf_lt x m hx h8
  unfold topOf at hTl hL
  have Hfull : Hid (∀ w, Calls Tryd.prog 23 #[.int .i64 (m : Int)] w fun e w' => e = .returned (.int .i64 (F : Int)) ∧ w = w') := r3full_any m h8 F hF
  rw [hF, hQ] at hL hTl
  rw [hQ] at hF hpl hpp
  have eQ : (F : Int) + 1 = (Q : Int) := by omega
  have eQ0 : ¬ (Q : Int) = 0 := by omega
  obtain ⟨y, hy⟩ : ∃ y, x / Q = y := ⟨_, rfl⟩
  obtain ⟨T, hT⟩ : ∃ T, y * Q = T := ⟨_, rfl⟩
  rw [hy, hT] at hL hTl
  have ey : (x : Int).tdiv (Q : Int) = (y : Int) := by rw [← hy]; simp
  have ey2 : (x : Int) / (Q : Int) = (y : Int) := by rw [← hy]; simp
  have eT : (y : Int) * (Q : Int) = (T : Int) := by rw [← hT]; simp
  have k1 : ¬ (m : Int) < 1 := by omega
  have k2 : ¬ (8 : Int) < (m : Int) := by omega
  have k3 : ¬ (v : Int) < 0 := by omega
  have k4 : ¬ (2147483647 : Int) < (v : Int) := by omega
  have hyl : y ≤ 255 := by have := Nat.div_le_self x Q; omega
  by_cases hc : v < F
  · have kb : decide (v < F) = true := decide_eq_true hc
    obtain ⟨S, hS⟩ : ∃ S, T + v = S := ⟨_, rfl⟩
    have eS : (T : Int) + (v : Int) = (S : Int) := by omega
    have hSl : S < 256 := by omega
    have hcv : ∀ w, _ := fun w => conv_lit1 w (S : Int) (UInt8.ofNat S) (by rw [ofn S hSl])
    have HL : Hid ([UInt8.ofNat S] = L) := by rw [putB, if_pos hc, hS] at hL; exact hL
    clear hL hF hQ hy hT hS hc
    go_enter Tryd.func11, Tryd.ntmps11
    go_wp2_with (first
      | (go_at_call 23; (with_reducible refine (Hfull.out _).mono ?_); rintro e w4 ⟨rfl, rfl⟩))
    go_ret2
    rw [HL.out]
    exact ⟨rfl, (Below.refl _ _).alloc (Nat.le_refl _) _⟩
  · have kb : decide (v < F) = false := decide_eq_false hc
    obtain ⟨S, hS⟩ : ∃ S, T + F = S := ⟨_, rfl⟩
    have eS : (T : Int) + (F : Int) = (S : Int) := by omega
    have hSl : S < 256 := by omega
    obtain ⟨d0, hd0⟩ : ∃ d0, v - F = d0 := ⟨_, rfl⟩
    have e0 : (v : Int) - (F : Int) = (d0 : Int) := by omega
    have HL : Hid ([UInt8.ofNat S] ++ grp d0 = L) := by rw [putB, if_neg hc, hS, hd0] at hL; exact hL
    have hdl : d0 ≤ 2147483647 := by omega
    have hbv : Value.int .u8 (S : Int) = BV (UInt8.ofNat S) := by rw [BV, ofn S hSl]
    have Hbv := Lib.hid hbv
    clear hL hF hQ hy hT hS hc hbv hd0
    go_enter Tryd.func11, Tryd.ntmps11
    go_wp2_with (first
      | (go_at_call 23; (with_reducible refine (Hfull.out _).mono ?_); rintro e w4 ⟨rfl, rfl⟩))
    go_loopg [10, 2] d0 (fun gh o r w' => ∃ (d : Nat) (A : Option Addr) (n c : Nat) (acc : List UInt8), d ≤ gh ∧ o = .slice A n c ∧ r = .int .i64 d ∧ d ≤ 2147483647 ∧ acc ++ grp d = L ∧ w'.ownsRow w.heap.size 5 1 (.slice A n c) n (acc.map BV) ∧ Below w.heap.size w w')
    case atStart =>
      refine ⟨d0, _, _, _, [UInt8.ofNat S], Nat.le_refl _, rfl, rfl, hdl, HL.out, ?_, (Below.refl _ _).alloc (Nat.le_refl _) _⟩
      have := own_lit w (UInt8.ofNat S)
      rwa [show Value.int .u8 ((UInt8.ofNat S).toNat : Int) = .int .u8 (S : Int) from Hbv.out.symm] at this
    case round =>
      obtain ⟨d, A, n, c, acc, hdg, rfl, rfl, hd, hg, how, hb⟩ := hrel
      have hnl : acc.length = n := by have := how.1; simpa using this
      have hgl : acc.length + (grp d).length = L.length := by rw [← hg, List.length_append]
      have hn6 : n ≤ 6 := by omega
      have Hg := Lib.hid hg
      have Ho := Lib.hid how
      have Hb := Lib.hid hb
      have Hnl := Lib.hid hnl
      clear hg how hb HL hgl hnl
      by_cases h128 : d < 128
      · have k2 : ¬ (128 : Int) ≤ (d : Int) := by omega
        have hg := Hg.out
        rw [grp_small h128] at hg
        have Hg2 := Lib.hid hg
        have hcd : (d : Int) % 256 = (d : Int) := by omega
        have hbd : Value.int .u8 (d : Int) = BV (UInt8.ofNat d) := by rw [BV, ofn d (by omega)]
        have Hbd := Lib.hid hbd
        clear hg Hg hbd
        go_wp2_with (first
          | (at_builtin
             refine wpList_append_rd rfl (.tmp 63) (.tmp 66) 23 rfl E31 (.slice A n c) n (acc.map BV) rfl (own_alloc Ho.out _) (some ⟨wr.heap.size, 0, none⟩) 1 1 _ rfl (rd_lit1 wr 5 _) (one_lit1 _ _) (by omega) (by unfold maxLen; omega) (by have := Hb.out.size; simp; omega) ?_
             intro A' c' w6 ho6 hf6 ho2
             have hr6 := Rd.of_own ho6
             rw [Hbd.out, show acc.map BV ++ [BV (UInt8.ofNat d)] = L.map BV by rw [← Hg2.out]; simp] at hr6
             have hcv := conv_str (c := c') hr6
             have HF6 := Lib.hid hf6
             clear ho6 hf6 ho2 hr6))
        go_ret2
        exact ⟨rfl, (Hb.out.alloc Hb.out.size _).trans (HF6.out.below (by have := Hb.out.size; simp; omega) (fun i _ e => (Ho.out.lt i e.symm).1))⟩
      · have k2 : (128 : Int) ≤ (d : Int) := by omega
        have hg := Hg.out
        rw [grp_big h128] at hg
        have Hg2 := Lib.hid hg
        obtain ⟨r, hr⟩ : ∃ r, d % 128 = r := ⟨_, rfl⟩
        have hrl : r < 128 := by omega
        have e1 : (d : Int) % 128 = (r : Int) := by omega
        obtain ⟨y2, hy⟩ : ∃ y, r + 128 = y := ⟨_, rfl⟩
        have e2 : (r : Int) + 128 = (y2 : Int) := by omega
        have hy2l : y2 < 256 := by omega
        obtain ⟨d', hd'⟩ : ∃ d', d / 128 = d' := ⟨_, rfl⟩
        have e3 : (d : Int) / 128 = (d' : Int) := by omega
        have Hr := Lib.hid hr
        have Hy := Lib.hid hy
        have Hd' := Lib.hid hd'
        clear hg Hg hr hy hd'
        obtain ⟨g1, rfl⟩ : ∃ g1, gk = g1 + 1 := ⟨gk - 1, by omega⟩
        go_wp2_with (first
          | (at_builtin
             refine wpList_append_rd rfl (.tmp 54) (.tmp 59) 23 rfl E31 (.slice A n c) n (acc.map BV) rfl (own_alloc Ho.out _) (some ⟨wr.heap.size, 0, none⟩) 1 1 _ rfl (rd_lit1 wr 5 _) (one_lit1 _ _) (by omega) (by unfold maxLen; omega) (by have := Hb.out.size; simp; omega) ?_
             intro A' c' w6 ho6 hf6 ho2
             have H6 := Lib.hid ho6
             have HF6 := Lib.hid hf6
             clear ho6 hf6 ho2))
        go_roundg g1
        case measure => omega
        case rel =>
          refine ⟨d', A', n + 1, c', acc ++ [UInt8.ofNat y2], by have := Hd'.out; omega, rfl, rfl, by have := Hd'.out; omega, ?_, ?_, (Hb.out.alloc Hb.out.size _).trans (HF6.out.below (by have := Hb.out.size; simp; omega) (fun i _ e => (Ho.out.lt i e.symm).1))⟩
          · rw [← Hg2.out, Hr.out, Hy.out, Hd'.out, List.append_assoc]; rfl
          · have := H6.out
            rw [List.map_append]
            rwa [show Value.int .u8 (y2 : Int) = BV (UInt8.ofNat y2) by rw [BV, ofn y2 hy2l]] at this

set_option maxRecDepth 100000 in
set_option maxHeartbeats 4000000 in
theorem rGetInt_any (xs : List UInt8) (n0 : Nat) (hn0 : xs.length = n0) (hn : n0 ≤ 4611686018427387904) (m : Int) (R0 : G) (hR : getI xs m = R0) (w : World) :
    Calls Tryd.prog 13 #[.string (str xs), .int .i64 m] w fun e w' => e = .returned (getV R0) ∧ w = w' := by
  obtain ⟨s, hs⟩ : ∃ s, str xs = s := ⟨_, rfl⟩
  have hsz : s.size = n0 := by rw [← hs, str_size, hn0]
  rw [hs]
  have Hs := Lib.hid hs
  have Hn0 := Lib.hid hn0
  clear hs hn0
  by_cases hm : 1 ≤ m ∧ m ≤ 8
  · obtain ⟨m', rfl⟩ := Int.eq_ofNat_of_zero_le (show 0 ≤ m by omega)
    have hm1 : 1 ≤ m' := by omega
    have hm8 : m' ≤ 8 := by omega
    rw [getI, if_pos hm] at hR
    have k1 : ¬ (m' : Int) < 1 := by omega
    have k2 : ¬ (8 : Int) < (m' : Int) := by omega
    clear hm
    by_cases h0 : n0 = 0
    · subst h0
      have hx0 : xs = [] := List.eq_nil_of_length_eq_zero Hn0.out
      subst hx0
      rw [show getN (m' : Int).toNat [] = G.more from rfl] at hR
      have HR := Lib.hid hR
      clear hR
      go_enter Tryd.func13, Tryd.ntmps13
      go_wp2
      go_ret3
      exact ⟨by rw [← HR.out]; rfl, rfl⟩
    · have hkx : 0 < xs.length := by rw [Hn0.out]; omega
      obtain ⟨x, r, rfl⟩ : ∃ x r, xs = x :: r := by
        cases xs with
        | nil => simp at hkx
        | cons x r => exact ⟨x, r, rfl⟩
      have hki : 0 < s.size := by rw [hsz]; omega
      have hsx : s[0]'hki = x := by
        have := str_get (x :: r) 0 x rfl (by rw [Hs.out]; exact hki)
        simpa [Hs.out] using this
      have hnb : ((n0 : Int) == 0) = false := by simp; omega
      have hxl := x.toNat_lt
      have hpl := two_pow_le m' hm8
      have hpp := Nat.two_pow_pos m'
      rw [show (m' : Int).toNat = m' from rfl, getN] at hR
      obtain ⟨F, hF⟩ : ∃ F, 2 ^ m' - 1 = F := ⟨_, rfl⟩
      obtain ⟨Q, hQ⟩ : ∃ Q, 2 ^ m' = Q := ⟨_, rfl⟩
      have Hfull : Hid (∀ w, Calls Tryd.prog 23 #[.int .i64 (m' : Int)] w fun e w' => e = .returned (.int .i64 (F : Int)) ∧ w = w') := r3full_any m' hm8 F hF
      rw [hF, hQ] at hR
      rw [hQ] at hF hpl hpp
      obtain ⟨H, hH⟩ : ∃ H, x.toNat % Q = H := ⟨_, rfl⟩
      have hHl : H < Q := by rw [← hH]; exact Nat.mod_lt _ hpp
      rw [hH] at hR
      have eQ : (F : Int) + 1 = (Q : Int) := by omega
      have eQ0 : ¬ (Q : Int) = 0 := by omega
      have hF255 : F ≤ 255 := by omega
      have eH : (x.toNat : Int) % (Q : Int) = (H : Int) := by rw [← hH]; simp
      have eH2 : (x.toNat : Int).tmod (Q : Int) = (H : Int) := by rw [Int.tmod_eq_emod_of_nonneg (by omega)]; exact eH
      clear hQ hH hF
      by_cases hc : H < F
      · have kb : decide (H < F) = true := decide_eq_true hc
        rw [if_pos hc] at hR
        have HR := Lib.hid hR
        clear hR hc
        go_enter Tryd.func13, Tryd.ntmps13
        go_wp2_with (first
          | (go_at_call 23; (with_reducible refine (Hfull.out _).mono ?_); rintro e w4 ⟨rfl, rfl⟩))
        go_ret3
        exact ⟨by rw [← HR.out]; rfl, rfl⟩
      · have kb : decide (H < F) = false := decide_eq_false hc
        rw [if_neg hc] at hR
        obtain rfl : H = F := by omega
        have HR : Hid (gbeh 0 H ((x :: r).drop 1) = R0) := hR
        clear hR hc kb
        go_enter Tryd.func13, Tryd.ntmps13
        go_wp2_with (first
          | (go_at_call 23; (with_reducible refine (Hfull.out _).mono ?_); rintro e w4 ⟨rfl, rfl⟩))
        go_loopg [8, 9, 10] (n0 - 1) (fun gh v u i w' => ∃ (j acc U : Nat), gh + (1 + j) = n0 ∧ v = .int .i64 acc ∧ u = .int .i64 U ∧ i = .int .i64 ((1 + j : Nat) : Int) ∧ Hid (128 ^ j = U) ∧ j ≤ 5 ∧ acc ≤ 2147483647 ∧ gbeh j acc ((x :: r).drop (1 + j)) = R0 ∧ w = w')
        case atStart => exact ⟨0, H, 1, by omega, rfl, rfl, rfl, rfl, by omega, by omega, HR.out, rfl⟩
        case round =>
          obtain ⟨j, acc, U, hj, rfl, rfl, rfl, hU, hj5, hacc, hg, rfl⟩ := hrel
          have Hg := Lib.hid hg
          clear hg HR hsx hki
          obtain ⟨K, hK⟩ : ∃ K, 1 + j = K := ⟨_, rfl⟩
          rw [hK]
          have HK := Lib.hid hK
          have hUl : U ≤ 34359738368 := by
            rw [← hU.out]
            have := Nat.pow_le_pow_right (n := 128) (by omega) hj5
            omega
          cases gk with
          | zero =>
            have hKn : K = n0 := by omega
            subst hKn
            have hg := Hg.out
            rw [hK, List.drop_eq_nil_of_le (by rw [Hn0.out]; exact Nat.le_refl _), gbeh] at hg
            have Hg2 := Lib.hid hg
            clear hg Hg hK hj
            go_wp2
            go_ret3
            exact ⟨by rw [← Hg2.out]; rfl, rfl⟩
          | succ g1 =>
            have hlt : K < n0 := by omega
            have hkx : K < (x :: r).length := by rw [Hn0.out]; exact hlt
            obtain ⟨y, hy⟩ : ∃ y, (x :: r)[K]? = some y := ⟨_, List.getElem?_eq_getElem hkx⟩
            have hki : K < s.size := by rw [hsz]; exact hlt
            have hsx : s[K]'hki = y := by
              have := str_get (x :: r) K y hy (by rw [Hs.out]; exact hki)
              simpa [Hs.out] using this
            have hyl := y.toNat_lt
            have hd : (x :: r).drop K = y :: (x :: r).drop (1 + (j + 1)) := by
              obtain ⟨hi, rfl⟩ := List.getElem?_eq_some_iff.1 hy
              rw [show 1 + (j + 1) = K + 1 by omega]
              exact List.drop_eq_getElem_cons hi
            have hg := Hg.out
            rw [hK, hd, gbeh] at hg
            by_cases h5 : j = 5
            · subst h5
              rw [if_pos rfl] at hg
              have Hg2 := Lib.hid hg
              obtain rfl : K = 6 := by omega
              clear hg Hg hK hd hy hkx HK
              go_wp2
              go_ret3
              exact ⟨by rw [← Hg2.out]; rfl, rfl⟩
            · rw [if_neg h5] at hg
              have h6b : ((K : Int) == 6) = false := by simp; omega
              obtain ⟨q, hq⟩ : ∃ q, y.toNat % 128 * U = q := ⟨_, rfl⟩
              obtain ⟨sm, hsm⟩ : ∃ sm, acc + q = sm := ⟨_, rfl⟩
              have hql : q ≤ 34091302912 := by
                have h1 : U ≤ 128 ^ 4 := by rw [← hU.out]; exact Nat.pow_le_pow_right (by omega) (by omega)
                have h2 : y.toNat % 128 * U ≤ 127 * 128 ^ 4 := Nat.mul_le_mul (by omega) h1
                omega
              obtain ⟨z, hz⟩ : ∃ z, y.toNat % 128 = z := ⟨_, rfl⟩
              have ez : (y.toNat : Int) % 128 = (z : Int) := by omega
              have e1 : (z : Int) * (U : Int) = (q : Int) := by rw [← hq, hz]; simp
              have e2 : (acc : Int) + (q : Int) = (sm : Int) := by omega
              obtain ⟨U2, hU2⟩ : ∃ U2, U * 128 = U2 := ⟨_, rfl⟩
              have e3 : (U : Int) * 128 = (U2 : Int) := by omega
              have HU2 : Hid (128 ^ (j + 1) = U2) := by rw [← hU2, ← hU.out, pow128, Nat.mul_comm]; rfl
              rw [hU.out, hq, hsm] at hg
              have hzl : z < 128 := by omega
              have Hg2 := Lib.hid hg
              have Hsm := Lib.hid hsm
              clear hg Hg hq hsm hz hd hy hkx hU2
              by_cases hM : 2147483647 < sm
              · have hg := Hg2.out
                rw [if_pos hM] at hg
                have Hg := Lib.hid hg
                have k1 : (2147483647 : Int) < (sm : Int) := by omega
                clear hg Hg2 hM
                go_wp2
                go_ret3
                exact ⟨by rw [← Hg.out]; rfl, rfl⟩
              · have hg := Hg2.out
                rw [if_neg hM] at hg
                have Hg := Lib.hid hg
                have k1 : ¬ (2147483647 : Int) < (sm : Int) := by omega
                clear hg Hg2
                by_cases h128 : y.toNat < 128
                · have hg := Hg.out
                  rw [if_pos h128] at hg
                  have Hg2 := Lib.hid hg
                  have k2 : (y.toNat : Int) < 128 := by omega
                  have eK : (K : Int) + 1 = ((j + 2 : Nat) : Int) := by omega
                  clear hg Hg h128 hM hK
                  go_wp2
                  go_ret3
                  exact ⟨by rw [← Hg2.out]; rfl, rfl⟩
                · have hg := Hg.out
                  rw [if_neg h128] at hg
                  have Hg2 := Lib.hid hg
                  have k2 : ¬ (y.toNat : Int) < 128 := by omega
                  obtain ⟨K2, hK2⟩ : ∃ K2, 1 + (j + 1) = K2 := ⟨_, rfl⟩
                  have eK : (K : Int) + 1 = (K2 : Int) := by omega
                  have HK2 := Lib.hid hK2
                  clear hg Hg h128 hK hK2
                  go_wp2
                  go_roundg g1
                  case measure => omega
                  case rel => exact ⟨j + 1, sm, U2, by have := HK.out; omega, rfl, rfl, by rw [HK2.out], HU2, by omega, by omega, Hg2.out, rfl⟩
  · rw [getI, if_neg hm] at hR
    subst hR
    by_cases h1 : m < 1
    · go_enter Tryd.func13, Tryd.ntmps13
      go_wp2
      go_ret3
      exact ⟨rfl, rfl⟩
    · have h2 : 8 < m := by omega
      go_enter Tryd.func13, Tryd.ntmps13
      go_wp2
      go_ret3
      exact ⟨rfl, rfl⟩
end Go.Proofs.YtdmheinepkeglaaDoor
