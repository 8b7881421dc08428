/- TableFits, the walk. -/
import Derived.Test.YtemgojgkklkmbaaTblLH
namespace Go.Proofs.Ytemgojgkklkmbaa
open Go.RowKit Go.Own Go.Tbl
set_option linter.unusedVariables false
attribute [local go_sem ↓] Go.wp_at_zero Go.wp_at_succ

theorem bTSize_q {B : Nat} {w0 w : World} {p h : Nat} {l : List Fld} (t : PB B w0 w p h l) (s : Nat) (hs : szs l = s) : Calls Try.prog 29 #[.pointer (some ⟨p, 0, none⟩)] w fun e w' => e = .returned (.int .i64 (s : Int)) ∧ w = w' := by
  obtain ⟨F, ht, _⟩ := t
  exact pTSize_q ht s hs
theorem bMax_q {B : Nat} {w0 w : World} {p h : Nat} {l : List Fld} (t : PB B w0 w p h l) : Calls Try.prog 30 #[.pointer (some ⟨p, 0, none⟩)] w fun e w' => e = .returned (.int .i64 (h : Int)) ∧ w = w' := by
  obtain ⟨F, ht, _⟩ := t
  exact pMax_q ht
theorem PB.le {B : Nat} {w0 w : World} {p h : Nat} {l : List Fld} (t : PB B w0 w p h l) : szs l ≤ h := by obtain ⟨F, ht, _⟩ := t; exact ht.le
theorem PB.top {B : Nat} {w0 w : World} {p h : Nat} {l : List Fld} (t : PB B w0 w p h l) : h ≤ 65536 := by obtain ⟨F, ht, _⟩ := t; exact ht.top
set_option maxRecDepth 100000 in
set_option maxHeartbeats 8000000 in
theorem lawFits {w : World} (m : Int) (hm : i64 m) {A : Option Addr} {n c : Nat} {l : List Opp} (s : OpsIn w A n c l) :
    Calls Try.prog 5 #[.int .i64 m, .slice A n c] w fun e w' => e = .returned (.bool true) ∧ Below w.heap.size w w' := by
  obtain ⟨h0, hh⟩ : ∃ h, clampI m = h := ⟨_, rfl⟩
  have Hh := Lib.hid hh
  have Hs := Lib.hid s
  have hc63 := s.cm
  have hnc := s.nc
  clear hh s
  go_enter Try.func5, Try.ntmps5
  go_wp2_with (first
    | (go_at_call 9; (with_reducible refine (shown4 _).mono ?_); rintro e w1 ⟨rfl, b1⟩
       have B1 := Lib.hid b1
       clear b1)
    | (go_at_call 14; (with_reducible refine (bNew (B := w1.heap.size) (w0 := w1) m hm (Nat.le_refl _) (Below.refl _ _)).mono ?_); rintro e w2 ⟨p, rfl, t2⟩; rw [Hh.out] at t2; have T2 := Lib.hid t2; clear t2))
  obtain ⟨M, hM⟩ : ∃ M, min n 60 = M := ⟨_, rfl⟩
  have hM1 : M ≤ n := by omega
  have hM2 : M ≤ 60 := by omega
  have HM := Lib.hid hM
  clear hM
  go_loopg [8, 7, 9, 10, 11, 12] M (fun gh i vl v9 v10 v11 v12 w' => ∃ (k : Nat) (x : Int) (h : Nat) (L : List Fld), gh + k = M ∧ i = .int .i64 (k : Int) ∧ vl = .int .i64 x ∧ i64 x ∧ clampI x = h ∧ PB w1.heap.size w1 w' p h L)
  case atStart => exact ⟨0, m, h0, [], by omega, rfl, rfl, hm, Hh.out, T2.out⟩
  case round =>
    obtain ⟨k, x3, h3, L, hk, rfl, rfl, hxi, hx, ht⟩ := hrel
    have HT := Lib.hid ht
    have HX := Lib.hid hx
    have hbel := B1.out.trans (ht.below.mono B1.out.size)
    have S2 := Lib.hid (Hs.out.rd.below hbel)
    clear hbel ht hx
    cases gk with
    | succ g1 =>
      have hkn : k < n := by omega
      obtain ⟨o, ho⟩ : ∃ o, l[k]? = some o := ⟨_, List.getElem?_eq_getElem (by rw [Hs.out.len]; exact hkn)⟩
      obtain ⟨b, so, rfl, d0, d1, d2, d3, d4⟩ := rd_op S2.out ho
      obtain ⟨hoi, hon, hof⟩ := Hs.out.ok o (List.mem_of_getElem? ho)
      have Hof := Lib.hid hof
      have k1 : (k : Int) < (n : Int) := by omega
      have k2 : (k : Int) < 60 := by omega
      have k3 : decide (k < n) = true := decide_eq_true hkn
      have Ho := Lib.hid ho
      clear ho hof
      obtain ⟨ki, hki⟩ : ∃ ki, o.kind = ki := ⟨_, rfl⟩
      rw [hki] at d0
      obtain ⟨x4, hx4⟩ : ∃ x4, o.n = x4 := ⟨_, rfl⟩
      have Hx4 := Lib.hid hx4
      rw [hx4] at d1 hon
      clear hki hx4 hoi
      obtain ⟨h4, hx4⟩ : ∃ h4, clampI x4 = h4 := ⟨_, rfl⟩
      have HX4 := Lib.hid hx4
      clear hx4
      by_cases c1 : ki = 1
      subst c1
      rotate_left
      by_cases c2 : ki = 2
      subst c2
      clear c1
      rotate_left
      have e1 : (ki == 1) = false := by simp; exact c1
      have e2 : (ki == 2) = false := by simp; exact c2
      clear c1 c2
      rotate_left
      go_upto_region 15 with (first
        | (go_at_call 17; (with_reducible refine (bAdd HT.out o.f Hof.out _ rfl).mono ?_); rintro e w3 ⟨rfl, t3⟩; have T3 := Lib.hid t3; clear t3)
        | (go_at_call 19; (with_reducible refine (bSetMax HT.out x4 hon h4 _ HX4.out rfl).mono ?_); rintro e w3 ⟨rfl, t3⟩
           have T3 := Lib.hid t3
           have hbel := B1.out.trans (t3.below.mono B1.out.size)
           obtain ⟨bb, ss, ee, y0, y1, y2, y3, y4⟩ := rd_op (Hs.out.rd.below hbel) Ho.out
           cases ee
           rw [Hx4.out] at y1
           clear t3 hbel))
      have hT5 := T3.out
      clear T3
      rotate_left
      have hT5 := T3.out
      have HX := HX4
      have hxi := hon
      clear T3
      obtain ⟨x3, rx⟩ : ∃ x3, x3 = x4 := ⟨_, rfl⟩
      subst rx
      obtain ⟨h3, rh⟩ : ∃ h3, h3 = h4 := ⟨_, rfl⟩
      subst rh
      rotate_left
      have hT5 := HT.out
      obtain ⟨w3, hw3⟩ : ∃ w3, w3 = wr := ⟨_, rfl⟩
      subst hw3
      all_goals
        obtain ⟨L3, hT3⟩ : ∃ L3, PB w1.heap.size w1 w3 p h3 L3 := ⟨_, hT5⟩
        clear hT5
        obtain ⟨q, hq⟩ : ∃ q, L3.length = q := ⟨_, rfl⟩
        have hqs := hT3.small
        rw [hq] at hqs
        have Hq := Lib.hid hq
        have HT3 := Lib.hid hT3
        have h0s : szs (L3.take 0) = 0 := rfl
        have H0s := Lib.hid h0s
        have hok3 := hT3.ok
        have Hok3 := Lib.hid hok3
        have hle3 := hT3.le
        have Hle3 := Lib.hid hle3
        have htop3 := hT3.top
        clear hq hT3 h0s hok3 hle3 HT S2 d0 d1 d2 d3 d4
        go_wp2
        go_loopg [10, 9, 11, 12] q (fun gh vk v9 v11 v12 w' => ∃ kk s : Nat, gh + kk = q ∧ vk = .int .i64 (kk : Int) ∧ v9 = .int .i64 (s : Int) ∧ szs (L3.take kk) = s ∧ PB w1.heap.size w1 w' p h3 L3)
        case atStart => exact ⟨0, 0, by omega, rfl, rfl, H0s.out, HT3.out⟩
        case round =>
          obtain ⟨kk, s, hkk, rfl, rfl, hs, ht⟩ := hrel
          have HT7 := Lib.hid ht
          have HS := Lib.hid hs
          clear ht hs
          cases gk with
          | succ g2 =>
            have hkq : kk < q := by omega
            obtain ⟨y, hy⟩ : ∃ y, L3[kk]? = some y := ⟨_, List.getElem?_eq_getElem (by rw [Hq.out]; exact hkq)⟩
            have hat := at_entry Hok3.out hy
            have Hat := Lib.hid hat
            obtain ⟨ho1, ho2⟩ := (Hok3.out y (List.mem_of_getElem? hy)).1
            obtain ⟨N, hN⟩ : ∃ N, y.n.size + y.v.size + 32 = N := ⟨_, rfl⟩
            have hNs : sz y = N := hN
            have hsum := szs_take_succ L3 kk y hy
            rw [HS.out, hNs] at hsum
            have hmono := szs_take_mono L3 (kk + 1) q (by omega)
            rw [show L3.take q = L3 from List.take_of_length_le (by rw [Hq.out]; exact Nat.le_refl _), hsum] at hmono
            have hle := Hle3.out
            have HNN := Lib.hid hN
            have Hsum := Lib.hid hsum
            have hji : i64 (62 + (kk : Int)) := by unfold i64; omega
            have k3' : decide (kk < q) = true := decide_eq_true hkq
            have hsN : s + N ≤ 65536 := by omega
            clear hat hy hN hNs hsum hmono hle
            go_wp2_with (first
              | (go_at_call 28; (with_reducible refine (bLen_q HT7.out q Hq.out).mono ?_); rintro e w7 ⟨rfl, rfl⟩)
              | (go_at_call 21; (with_reducible refine (bAt_f HT7.out (62 + (kk : Int)) hji y.n y.v Hat.out).mono ?_); rintro e w8 ⟨rfl, t8, b8⟩
                 have HT8 := Lib.hid (t8.alloc (.cells #[.string y.n, .string y.v, .bool false] 23))
                 clear t8 b8)
              | (go_at_call 12; (with_reducible refine (pSize_n y.n y.v false ho1 ho2 N HNN.out _).mono ?_); rintro e w9 ⟨rfl, b9⟩
                 have HT9 := Lib.hid (HT8.out.next b9)
                 clear b9))
            go_roundg g2
            case measure => omega
            case rel => exact ⟨kk + 1, s + N, by omega, by go_num, by go_num, Hsum.out, HT9.out⟩
          | zero =>
            obtain rfl : kk = q := by omega
            have hsz : szs L3 = s := by have := HS.out; rwa [List.take_of_length_le (by rw [Hq.out]; exact Nat.le_refl _)] at this
            have Hsz := Lib.hid hsz
            have hsh : s ≤ h3 := by have := Hle3.out; omega
            have hci := clampI_int x3
            rw [HX.out] at hci
            have kq : decide (kk < kk) = false := by simp
            have ksh : decide (h3 < s) = false := by rw [decide_eq_false_iff_not]; omega
            obtain ⟨hx1, hx2⟩ := hxi
            by_cases hx0 : 0 ≤ x3
            · have hmin : (if x3 < 65536 then x3 else 65536) = (h3 : Int) := by split <;> omega
              have kx1 : decide (0 ≤ x3) = true := decide_eq_true hx0
              have kx2 : decide (x3 < 0) = false := by rw [decide_eq_false_iff_not]; omega
              clear hci hsz
              go_wp2_with (first
                | (go_at_call 28; (with_reducible refine (bLen_q HT7.out kk Hq.out).mono ?_); rintro e w7 ⟨rfl, rfl⟩)
                | (go_at_call 29; (with_reducible refine (bTSize_q HT7.out s Hsz.out).mono ?_); rintro e w7 ⟨rfl, rfl⟩)
                | (go_at_call 30; (with_reducible refine (bMax_q HT7.out).mono ?_); rintro e w7 ⟨rfl, rfl⟩))
              go_roundg g1
              case measure => omega
              case rel => exact ⟨k + 1, x3, h3, L3, by omega, by go_num, rfl, ⟨hx1, hx2⟩, HX.out, HT7.out⟩
            · have h30 : h3 = 0 := by omega
              subst h30
              have kx1 : decide (0 ≤ x3) = false := decide_eq_false hx0
              have kx2 : decide (x3 < 0) = true := by rw [decide_eq_true_iff]; omega
              clear hci hsz
              go_wp2_with (first
                | (go_at_call 28; (with_reducible refine (bLen_q HT7.out kk Hq.out).mono ?_); rintro e w7 ⟨rfl, rfl⟩)
                | (go_at_call 29; (with_reducible refine (bTSize_q HT7.out s Hsz.out).mono ?_); rintro e w7 ⟨rfl, rfl⟩)
                | (go_at_call 30; (with_reducible refine (bMax_q HT7.out).mono ?_); rintro e w7 ⟨rfl, rfl⟩))
              go_roundg g1
              case measure => omega
              case rel => exact ⟨k + 1, x3, 0, L3, by omega, by go_num, rfl, ⟨hx1, hx2⟩, HX.out, HT7.out⟩
    | zero =>
      obtain rfl : k = M := by omega
      have hcase : (decide (k < n) = false) ∨ ((k : Int) < (n : Int) ∧ ¬ (k : Int) < 60 ∧ decide (k < n) = true) := by
        have := HM.out
        by_cases h1 : k < n
        · exact .inr ⟨by omega, by omega, decide_eq_true h1⟩
        · exact .inl (decide_eq_false h1)
      clear S2
      rcases hcase with hk1 | ⟨hk1, hk2, hk3⟩
      all_goals
        go_wp2
        go_ret
        exact ⟨rfl, B1.out.trans (HT.out.below.mono B1.out.size)⟩
end Go.Proofs.Ytemgojgkklkmbaa
