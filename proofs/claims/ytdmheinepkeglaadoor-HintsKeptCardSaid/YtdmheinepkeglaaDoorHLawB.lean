/- HintsBack's walk: whatever the octet, the prefix, the number, and what stands behind, true. -/
import Derived.Test.YtdmheinepkeglaaDoorHLawL
namespace Go.Proofs.YtdmheinepkeglaaDoor
open Go.RowKit Go.Own Go.Huf Go.Hin
set_option linter.unusedVariables false

theorem getI_put (x m v : Nat) (hx : x < 256) (h1 : 1 ≤ m) (h8 : m ≤ 8) (hv : v ≤ 2147483647) (L : List UInt8) (hL : putB (2 ^ m - 1) (topOf x m) v = L) (N : Nat) (hN : L.length = N) (r : List UInt8) : getI (L ++ r) (m : Int) = .ok v N := by
  subst hL hN
  rw [getI, if_pos (by omega)]
  exact getN_put x m v hx h8 hv r
theorem getI_cut (x m v i : Nat) (hx : x < 256) (h1 : 1 ≤ m) (h8 : m ≤ 8) (hv : v ≤ 2147483647) (L : List UInt8) (hL : putB (2 ^ m - 1) (topOf x m) v = L) (hi : i < L.length) : getI (L.take i) (m : Int) = .more := by
  subst hL
  rw [getI, if_pos (by omega)]
  exact getN_cut x m v i hx h8 hv hi
theorem rd_take {w : World} {A : Option Addr} {n i : Nat} {L : List UInt8} (h : Rd w 1 A n (L.map BV)) (hi : i ≤ n) : Rd w 1 A i ((L.take i).map BV) := by
  have := h.take (k := i) hi
  rw [Nat.mul_one, ← List.map_take] at this
  exact this
theorem Rd_lt {w : World} {A : Option Addr} {n : Nat} {vs : List Value} (h : Rd w 1 A n vs) (hn : 1 ≤ n) {a : Addr} (ha : A = some a) : a.block < w.heap.size := by
  obtain ⟨b, o, u, rfl, hu, hc⟩ := h.at_ (k := 0) (by omega)
  obtain rfl := Option.some.inj ha
  exact World.block_lt_of_cell? w _ hc
set_option maxRecDepth 100000 in
set_option maxHeartbeats 4000000 in
theorem hback_walk {x m v : Int} {W : World} {A : Option Addr} {len cap : Nat} {xs : List UInt8} (wx : (Lit.int .u8 x).wf = true) (wm : (Lit.int .i64 m).wf = true) (wv : (Lit.int .i64 v).wf = true)
    (hr : Rd W 1 A len (xs.map BV)) (hlc : len ≤ cap) (hcap : cap ≤ 140737488351232) (hC : Cnt W) :
    Calls Tryd.prog 6 #[.int .u8 x, .int .i64 m, .int .i64 v, .slice A len cap] W fun e w' => e = .returned (.bool true) ∧ Below W.heap.size W w' := by
  have hx := wf_u8 wx
  have hxl : xs.length = len := by simpa using hr.1
  have HC := Lib.hid hC
  have Hr := Lib.hid hr
  clear wx wm wv hC hr
  by_cases h : (1 ≤ m ∧ m ≤ 8) ∧ 0 ≤ v ∧ v ≤ 2147483647
  · obtain ⟨x', rfl⟩ := Int.eq_ofNat_of_zero_le hx.1
    obtain ⟨m', rfl⟩ := Int.eq_ofNat_of_zero_le (show 0 ≤ m by omega)
    obtain ⟨v', rfl⟩ := Int.eq_ofNat_of_zero_le h.2.1
    have q1 : x' < 256 := by omega
    have q2 : 1 ≤ m' := by omega
    have q3 : m' ≤ 8 := by omega
    have q4 : v' ≤ 2147483647 := by omega
    obtain ⟨L, hL⟩ : ∃ L, putB (2 ^ m' - 1) (topOf x' m') v' = L := ⟨_, rfl⟩
    obtain ⟨N, hN⟩ : ∃ N, L.length = N := ⟨_, rfl⟩
    have hN1 := putB_pos (2 ^ m' - 1) (topOf x' m') v'
    have hN6 := putB_le (2 ^ m' - 1) (topOf x' m') v' q4
    rw [hL, hN] at hN1 hN6
    obtain ⟨q, hq⟩ := putB_head (2 ^ m' - 1) (topOf x' m') v'
    have hh := headB_lt x' m' v' q1 q3
    have hd := headB_div x' m' v'
    obtain ⟨hB, hhB⟩ : ∃ hB, headB (2 ^ m' - 1) (topOf x' m') v' = hB := ⟨_, rfl⟩
    rw [hhB] at hq hh hd
    rw [hL] at hq
    obtain ⟨S, hS⟩ : ∃ S, x' / 2 ^ m' = S := ⟨_, rfl⟩
    rw [hS] at hd
    have e1 : (hB : Int) / 2 ^ m' = (S : Int) := by rw [← hd]; simp
    have e2 : (x' : Int) / 2 ^ m' = (S : Int) := by rw [← hS]; simp
    have Hq := Lib.hid hq
    have HL := Lib.hid hL
    have HN := Lib.hid hN
    have c1 : (1 : Int) ≤ (m' : Int) := by omega
    have c2 : (m' : Int) ≤ 8 := by omega
    have c3 : (0 : Int) ≤ (v' : Int) := by omega
    have c4 : (v' : Int) ≤ 2147483647 := by omega
    have c5 : ¬ (N : Int) < 1 := by omega
    have c6 : ¬ (6 : Int) < (N : Int) := by omega
    have Hput : Hid (∀ r, getI (L ++ r) (m' : Int) = .ok v' N) := getI_put x' m' v' q1 q2 q3 q4 L hL N hN
    have Hcut : Hid (∀ i, i < N → getI (L.take i) (m' : Int) = .more) := fun i hi => getI_cut x' m' v' i q1 q2 q3 q4 L hL (by omega)
    clear h hx hL hN hhB hq hS hd
    go_enter Tryd.func6, Tryd.ntmps6
    go_wp2_with (first
      | (go_at_call 9; (with_reducible refine (shown_any _ HC.out).mono ?_); rintro e w1 ⟨rfl, hb1⟩; have H1 := Lib.hid hb1; clear hb1)
      | (go_at_call 10; (with_reducible refine (PutInt_n x' m' v' q1 q2 q3 q4 L HL.out N HN.out _ rfl _ rfl _ rfl _).mono ?_); rintro e w2 ⟨A2, cp2, rfl, hr2, g1, g2, hb2⟩
         have H2 := Lib.hid (H1.out.trans (hb2.mono H1.out.size))
         have R2 := Lib.hid hr2
         rw [Hq.out] at hr2
         obtain ⟨b2, o2, rfl, hc2⟩ := rd_head hr2 hN1
         rw [ofn hB hh] at hc2
         clear hb2 hr2)
      | (at_builtin
         refine wpList_append_rd rfl (.tmp 80) (.tmp 81) 23 rfl E31 (.slice (some ⟨w2.heap.size, 0, none⟩) 0 0) 0 [] rfl (own_empty_b w2) (some ⟨b2, o2, none⟩) N cp2 (L.map BV) rfl (rd_alloc R2.out _) (BV_one _) (by omega) (by unfold maxLen; omega) (by simp) ?_
         intro A3 cp3 w3 ho hf ho2
         simp only [Nat.zero_add, List.nil_append] at ho ho2
         have H3 := Lib.hid (H2.out.trans (below_empty hf H2.out.size))
         have R3 := Lib.hid (R2.out.below (below_empty hf (Nat.le_refl _)))
         have Ho3 := Lib.hid ho
         have HB23 := Lib.hid (below_empty hf (Nat.le_refl _))
         have hs3 := (below_empty hf (Nat.le_refl _)).size
         clear ho hf ho2 hc2)
      | (at_builtin
         refine wpList_append_rd rfl (.tmp 84) (.tmp 85) 23 rfl E31 (.slice A3 N cp3) N (L.map BV) rfl Ho3.out A len cap (xs.map BV) rfl (Hr.out.below H3.out) (BV_one _) (by omega) (by unfold maxLen; omega) hs3 ?_
         intro A4 cp4 w4 ho hf ho2
         rw [← List.map_append] at ho
         have H4 := Lib.hid (H3.out.trans (hf.below H3.out.size (fun i _ e => Nat.le_trans H2.out.size (Ho3.out.lt i e.symm).1)))
         have R4 := Lib.hid (Rd.of_own ho)
         have R24 := Lib.hid (R2.out.fr ((Fr.of_below (S := fun i => w2.heap.size ≤ i) HB23.out (fun i _ h => h)).trans hf (fun i _ e => (Ho3.out.lt i e.symm).1)) (fun a ha h => Nat.not_le_of_lt (Rd_lt R2.out hN1 ha) h))
         obtain ⟨g3, g4⟩ := own_cap ho
         clear ho hf ho2)
      | (go_at_call 12; (with_reducible refine (GetInt_v R4.out g3 g4 _ _ (Hput.out xs) (.tuple #[.int .i64 (v' : Int), .int .i64 (N : Int), .int .i64 0]) rfl).mono ?_); rintro e w5 ⟨rfl, hb5⟩; have H5 := Lib.hid (H4.out.trans (hb5.mono H4.out.size)); have R5 := Lib.hid (R24.out.below hb5); clear hb5))
    have h20 : ¬ cp2 = 0 := by omega
    clear c1 c2 c3 c4 c5 c6 e1 e2 Hput HB23 Ho3 R3 R4 R24 R2 H4 H3 H2 H1 hs3 HL HN Hq g3 g4
    go_loopg [17] N (fun gh i w' => ∃ k : Nat, gh + k = N ∧ i = .int .i64 (k : Int) ∧ Below W.heap.size W w' ∧ Rd w' 1 (some ⟨b2, o2, none⟩) N (L.map BV))
    case atStart => exact ⟨0, by omega, rfl, H5.out, R5.out⟩
    case round =>
      obtain ⟨k, hk, rfl, hb, hr⟩ := hrel
      have Hb := Lib.hid hb
      have HRd := Lib.hid hr
      clear hb hr H5 R5
      cases gk with
      | succ g1' =>
        have hlt : k < N := by omega
        have hki : (k : Int) < (N : Int) := by omega
        have hkc : (k : Int) ≤ (cp2 : Int) := by omega
        have hkc2 : k ≤ cp2 := by omega
        have Htk := Lib.hid (rd_take HRd.out (Nat.le_of_lt hlt))
        go_wp2_with (first
          | (go_at_call 12; (with_reducible refine (GetInt_v Htk.out hkc2 g2 _ _ (Hcut.out k hlt) (.tuple #[.int .i64 0, .int .i64 0, .int .i64 2]) rfl).mono ?_); rintro e w7 ⟨rfl, hb7⟩; have H7 := Lib.hid (Hb.out.trans (hb7.mono Hb.out.size)); have R7 := Lib.hid (HRd.out.below hb7); clear hb7))
        go_roundg g1'
        case measure => omega
        case rel => exact ⟨k + 1, by omega, by go_num, H7.out, R7.out⟩
      | zero =>
        obtain rfl : k = N := by omega
        go_wp2
        go_ret
        exact ⟨rfl, Hb.out⟩
  · have h2 : ¬ (1 ≤ m ∧ m ≤ 8) ∨ v < 0 ∨ 2147483647 < v := by omega
    have H2 := Lib.hid h2
    have hmay : (m < 1 ∨ ((1 ≤ m ∧ 8 < m) ∨ ((1 ≤ m ∧ m ≤ 8 ∧ v < 0) ∨ (1 ≤ m ∧ m ≤ 8 ∧ 0 ≤ v ∧ 2147483647 < v)))) := by omega
    clear h h2 hx
    rcases hmay with h1 | ⟨h1, h3⟩ | ⟨h1, h3, h4⟩ | ⟨h1, h3, h4, h5⟩
    all_goals
      (try have kb : decide (v ≤ 2147483647) = false := decide_eq_false (by omega))
      go_enter Tryd.func6, Tryd.ntmps6
      go_wp2_with (first
        | (go_at_call 9; (with_reducible refine (shown_any _ HC.out).mono ?_); rintro e w1 ⟨rfl, hb1⟩; have H1 := Lib.hid hb1; clear hb1)
        | (go_at_call 10; (with_reducible refine (PutInt_no x m v H2.out _).mono ?_); rintro e w2 ⟨rfl, hb2⟩; have H3 := Lib.hid (H1.out.trans (hb2.mono H1.out.size)); clear hb2))
      go_ret
      exact ⟨rfl, H3.out⟩
end Go.Proofs.YtdmheinepkeglaaDoor
