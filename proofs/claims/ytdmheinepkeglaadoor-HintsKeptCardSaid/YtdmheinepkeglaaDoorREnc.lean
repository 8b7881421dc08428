/- The contract of the document's Encode. -/
import Derived.Test.YtdmheinepkeglaaDoorSpelt
namespace Go.Proofs.YtdmheinepkeglaaDoor
open Go.RowKit Go.Own Go.Huf
set_option linter.unusedVariables false

theorem bstr_one (l : List Bool) : bstr l ++ ⟨#[49]⟩ = bstr (l ++ [true]) := by
  rw [bstr, bstr, chs_append, ← str_append]
  rfl

theorem bits8_at : ∀ (ys : List UInt8) (p j : Nat) (y : UInt8), ys[p]? = some y → j < 8 → (bits8 ys)[8 * p + j]? = some (y.toNat / 2 ^ (7 - j) % 2 == 1)
  | [], p, j, y, h, _ => by simp at h
  | x :: ys, 0, j, y, h, hj => by
    simp only [List.getElem?_cons_zero, Option.some.injEq] at h
    subst h
    rw [bits8_cons, Nat.mul_zero, Nat.zero_add, List.getElem?_append_left (by rw [bitsN_length]; exact hj)]
    have e : bitsN 8 x.toNat = bitsN j (x.toNat / 2 ^ (8 - j)) ++ bitsN (7 - j + 1) x.toNat := by
      have := bitsN_add j (8 - j) x.toNat
      rw [show j + (8 - j) = 8 by omega] at this
      rw [this, show 7 - j + 1 = 8 - j by omega]
    rw [e, bitsN_cons, List.getElem?_append_right (by rw [bitsN_length]; exact Nat.le_refl _), bitsN_length, Nat.sub_self]
    rfl
  | x :: ys, p + 1, j, y, h, hj => by
    rw [bits8_cons, List.getElem?_append_right (by rw [bitsN_length]; omega), bitsN_length, show 8 * (p + 1) + j - 8 = 8 * p + j by omega]
    exact bits8_at ys p j y (by simpa using h) hj
theorem bstr_get {l : List Bool} {T : ByteArray} (hT : bstr l = T) {i : Nat} {b : Bool} (hl : l[i]? = some b) (hi : i < T.size) : T[i]'hi = bch b := by
  subst hT
  have h : (bstr l).data.toList[i]? = some (bch b) := by rw [bstr, str_data, chs, List.getElem?_map, hl]; rfl
  have h2 : (bstr l).data.toList[i]? = some ((bstr l)[i]'hi) := by
    rw [List.getElem?_eq_getElem (by simpa using hi)]
    rfl
  rw [h] at h2
  exact (Option.some.inj h2).symm
theorem half_step (y j : Nat) (hj : j < 8) : y / 2 ^ (8 - (j + 1)) = 2 * (y / 2 ^ (8 - j)) + (y / 2 ^ (7 - j) % 2) := by
  rw [show 8 - (j + 1) = 7 - j by omega, show 8 - j = 7 - j + 1 by omega, Nat.pow_succ, ← Nat.div_div_eq_div_mul]
  omega

set_option maxRecDepth 100000 in
set_option maxHeartbeats 4000000 in
theorem rEncode_any (s : ByteArray) (ys : List UInt8) (hp : Pk (enc s.data.toList) ys) (w : World) (hs : s.size ≤ 1048576) : Calls Tryd.prog 31 #[.string s] w fun e w' => e = .returned (.string (str ys)) ∧ Below w.heap.size w w' := by
  obtain ⟨kk, hk8, hp⟩ := hp
  obtain ⟨bs, hbs⟩ : ∃ bs, enc s.data.toList = bs := ⟨_, rfl⟩
  have hL := enc_len_le s
  obtain ⟨B, hB⟩ : ∃ B, bs.length = B := ⟨_, rfl⟩
  rw [hbs] at hp hL
  rw [hB] at hL
  have hlen := congrArg List.length hp
  rw [bits8_length, List.length_append, List.length_replicate, hB] at hlen
  obtain ⟨Y, hY⟩ : ∃ Y, ys.length = Y := ⟨_, rfl⟩
  rw [hY] at hlen
  have hBb : B ≤ 30 * 1048576 := by omega
  have Hp := Lib.hid hp
  have Hbs := Lib.hid (show bstr (enc s.data.toList) = bstr bs by rw [hbs])
  have HB := Lib.hid hB
  have HY := Lib.hid hY
  have hYb : Y ≤ 4 * 1048576 := by omega
  have Hlen := Lib.hid hlen
  clear hp hbs hL hB hlen hY
  go_enter Tryd.func31, Tryd.ntmps31
  go_wp2_with (first
    | (go_at_call 43; (with_reducible refine (rSpelt_t s _ Hbs.out _ hs).mono ?_); rintro e w1 ⟨rfl, hb1⟩; have Hb1 := Lib.hid hb1; clear hb1))
  go_loopg [3] kk (fun gh t w' => ∃ j : Nat, gh + j = kk ∧ t = .string (bstr (bs ++ List.replicate j true)) ∧ w1 = w')
  case atStart => exact ⟨0, by omega, by simp, rfl⟩
  case round =>
    obtain ⟨j, hj, rfl, rfl⟩ := hrel
    obtain ⟨T, hT⟩ : ∃ T, bstr (bs ++ List.replicate j true) = T := ⟨_, rfl⟩
    have hTs : T.size = B + j := by rw [← hT, bstr_size, List.length_append, List.length_replicate, HB.out]
    rw [hT]
    have HT := Lib.hid hT
    clear hT
    cases gk with
    | succ g1 =>
      have hq : (((B : Int) + (j : Int)) % 8 != 0) = true := by
        have := Hlen.out
        simp; omega
      have hnov : ¬ 9223372036854775807 < B + j + (⟨#[49]⟩ : ByteArray).size := by
        have : (⟨#[49]⟩ : ByteArray).size = 1 := rfl
        omega
      go_wp2
      go_roundg g1
      case measure => omega
      case rel => exact ⟨j + 1, by omega, by rw [List.replicate_succ', ← List.append_assoc, ← bstr_one, HT.out], rfl⟩
    | zero =>
      obtain rfl : j = kk := by omega
      have hq : (((B : Int) + (j : Int)) % 8 != 0) = false := by
        have := Hlen.out
        simp; omega
      have hp := HT.out
      rw [← Hp.out] at hp
      have HT2 := Lib.hid hp
      clear hp
      go_wp2
      have hTs2 : T.size = 8 * Y := by have := Hlen.out; omega
      clear hTs hq HT
      go_loopg [5, 4] Y (fun gh i o w' => ∃ (p p8 : Nat) (A : Option Addr) (c : Nat), gh + p = Y ∧ p8 = 8 * p ∧ i = .int .i64 (p8 : Int) ∧ o = .slice A p c ∧ w'.ownsRow w1.heap.size 5 1 (.slice A p c) p ((ys.take p).map BV) ∧ Below w.heap.size w w' ∧ w1.heap.size ≤ w'.heap.size)
      case atStart => exact ⟨0, 0, _, 0, by omega, rfl, rfl, rfl, own_empty_b w1, Hb1.out.alloc Hb1.out.size _, by simp⟩
      case round =>
        obtain ⟨p, p8, A, c, hp, h8, rfl, rfl, ho, hb, hsz⟩ := hrel
        have Ho := Lib.hid ho
        have Hb := Lib.hid hb
        have H8 := Lib.hid h8
        cases gk with
        | succ g1 =>
          have hpY : p < Y := by omega
          have hpy : p < ys.length := by rw [HY.out]; exact hpY
          obtain ⟨y, hy⟩ : ∃ y, ys[p]? = some y := ⟨_, List.getElem?_eq_getElem hpy⟩
          have Hy := Lib.hid hy
          have hyl := y.toNat_lt
          have hlt8 : (p8 : Int) < 8 * (Y : Int) := by omega
          have hb8 : p8 + 8 ≤ 8 * Y := by omega
          clear ho hb h8 hy hpy
          go_wp2
          go_loopg [7, 6] 8 (fun gh i x w' => ∃ j : Nat, gh + j = 8 ∧ i = .int .i64 (j : Int) ∧ x = .int .u8 ((y.toNat / 2 ^ (8 - j) : Nat) : Int) ∧ wr = w')
          case atStart =>
            refine ⟨0, by omega, rfl, ?_, rfl⟩
            rw [Nat.sub_zero, Nat.div_eq_of_lt (by omega)]
            rfl
          case round =>
            obtain ⟨j, hj, rfl, rfl, rfl⟩ := hrel
            cases gk with
            | succ g2 =>
              have hj8 : j < 8 := by omega
              have hgt := bstr_get HT2.out (bits8_at ys p j y Hy.out hj8) (by omega)
              obtain ⟨bt, hbt⟩ : ∃ bt : Nat, y.toNat / 2 ^ (7 - j) % 2 = bt := ⟨_, rfl⟩
              have hb1 : bt ≤ 1 := by omega
              have hhs := half_step y.toNat j hj8
              rw [hbt] at hgt hhs
              have hlt := Nat.div_le_self y.toNat (2 ^ (8 - (j + 1)))
              obtain ⟨xv, hxv⟩ : ∃ xv, y.toNat / 2 ^ (8 - j) = xv := ⟨_, rfl⟩
              rw [hxv] at hhs ⊢
              have hxb : 2 * xv + bt ≤ 255 := by omega
              have hbch := bit_ch bt hb1
              have hi : p8 + j < T.size := by omega
              have hgt2 : T[p8 + j]'hi = bch (bt == 1) := by
                have : 8 * p + j = p8 + j := by rw [H8.out]
                simp only [this] at hgt
                exact hgt
              obtain ⟨ch, hch⟩ : ∃ ch : UInt8, bch (bt == 1) = ch := ⟨_, rfl⟩
              rw [hch] at hgt2 hbch
              have hcv : (ch.toNat : Int) = 48 + (bt : Int) := hbch.symm
              have Hhs := Lib.hid hhs
              clear hgt hbt hhs hlt hxv hbch hch
              go_wp2
              go_roundg g2
              case measure => omega
              case rel => exact ⟨j + 1, by omega, by go_num, by rw [Hhs.out]; congr 1; omega, rfl⟩
            | zero =>
              obtain rfl : j = 8 := by omega
              rw [show y.toNat / 2 ^ (8 - 8) = y.toNat by simp]
              have hown := own_alloc Ho.out (.cells #[.int .u8 (y.toNat : Int)] 5)
              have Hown := Lib.hid hown
              clear hown
              go_wp2_with (first
                | (at_builtin
                   refine wpList_append_rd rfl (.tmp 36) (.tmp 38) 23 rfl E31 (.slice A p c) p ((ys.take p).map BV) rfl Hown.out (some ⟨wr.heap.size, 0, none⟩) 1 1 _ rfl (rd_lit1 wr 5 _) (one_lit1 _ _) (by omega) (by unfold maxLen; omega) (by simp; omega) ?_
                   intro A' c' w4 ho4 hf4 ho2
                   have Ho4 := Lib.hid ho4
                   have Hf4 := Lib.hid (((Fr.refl _ _).alloc _).trans hf4 (fun i _ h => h))
                   clear ho4 hf4 ho2))
              go_roundg g1
              case measure => omega
              case rel =>
                have hge1 : ∀ i, some i = (Value.slice A p c).ownBlock → w1.heap.size ≤ i := fun i e => (Ho.out.lt i e.symm).1
                have hw1 := Hb1.out.size
                refine ⟨p + 1, p8 + 8, A', c', by omega, by rw [H8.out]; omega, by go_num, rfl, ?_, Hb.out.trans (Hf4.out.below Hb.out.size (fun i _ e => by have := hge1 _ e; omega)), Nat.le_trans hsz Hf4.out.size⟩
                rw [List.take_add_one, Hy.out]
                simp only [Option.toList, List.map_append]
                exact Ho4.out
        | zero =>
          obtain rfl : p = Y := by omega
          have hty : ys.take p = ys := List.take_of_length_le (by rw [HY.out]; exact Nat.le_refl _)
          rw [hty] at ho
          have hcv := conv_str (c := c) (Rd.of_own ho)
          have hge8 : 8 * (p : Int) ≤ (p8 : Int) := by omega
          clear hty ho hb h8 Ho
          go_wp2
          go_ret
          exact ⟨rfl, Hb.out⟩
end Go.Proofs.YtdmheinepkeglaaDoor
