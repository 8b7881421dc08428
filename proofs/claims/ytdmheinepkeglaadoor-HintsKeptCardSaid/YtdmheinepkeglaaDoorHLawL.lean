/- HintsLeast's walk: whatever the octets and the prefix, true. -/
import Derived.Test.YtdmheinepkeglaaDoorHLawR
namespace Go.Proofs.YtdmheinepkeglaaDoor
open Go.RowKit Go.Own Go.Huf Go.Hin
set_option linter.unusedVariables false

/-- text of a slice, whatever was drawn since -/
theorem conv_drewN {W : World} {A : Option Addr} {n c : Nat} {xs : List UInt8} (h : Rd W 1 A n (xs.map BV)) (q : Nat) : (convert 23 9 (.slice A n c)).run Tryd.prog (W.drewN q) = .ok (.string (str xs)) (W.drewN q) :=
  conv_str (h.fr ((Fr.refl (fun _ => False) W).drewN q) (fun _ _ h => h))
/-- the first octet of a slice that reads as octets -/
theorem rd_head {w : World} {A : Option Addr} {n : Nat} {x : UInt8} {r : List UInt8} (h : Rd w 1 A n ((x :: r).map BV)) (hn : 1 ≤ n) : ∃ b o, A = some ⟨b, o, none⟩ ∧ w.cell? ⟨b, o, none⟩ = some (.int .u8 (x.toNat : Int)) := by
  obtain ⟨b, o, u, rfl, hu, hc⟩ := h.at_ (k := 0) (by omega)
  rw [List.map_cons, List.getElem?_cons_zero] at hu
  obtain rfl := Option.some.inj hu
  exact ⟨b, o, rfl, hc⟩
set_option maxRecDepth 100000 in
set_option maxHeartbeats 4000000 in
theorem least_walk {W : World} {A : Option Addr} {len cap : Nat} {xs : List UInt8} (hr : Rd W 1 A len (xs.map BV)) (hlc : len ≤ cap) (hcap : cap ≤ 140737488351232) {m : Int} (wm : (Lit.int .i64 m).wf = true) (hC : Cnt W) :
    Calls Tryd.prog 7 #[.slice A len cap, .int .i64 m] W fun e w' => e = .returned (.bool true) ∧ Below W.heap.size W w' := by
  clear wm
  have hxl : xs.length = len := by simpa using hr.1
  have HC := Lib.hid hC
  have Hr := Lib.hid hr
  obtain ⟨R0, hR⟩ : ∃ R0, getI xs m = R0 := ⟨_, rfl⟩
  have HR := Lib.hid hR
  have hcap2 : cap ≤ 9223372036854775807 := by omega
  clear hC
  rcases R0 with ⟨v, n⟩ | _ | _ | _
  · by_cases hm : 1 ≤ m ∧ m ≤ 8
    · obtain ⟨m', rfl⟩ := Int.eq_ofNat_of_zero_le (show 0 ≤ m by omega)
      have q2 : 1 ≤ m' := by omega
      have q3 : m' ≤ 8 := by omega
      rw [getI, if_pos hm] at hR
      have hg : getN m' xs = .ok v n := hR
      obtain ⟨x, r, rfl, n1, n2, n6, q4⟩ := getN_least hg
      obtain ⟨l1, l2, l3⟩ := put_least hg
      have q1 := x.toNat_lt
      rw [hxl] at n2
      obtain ⟨L, hL⟩ : ∃ L, putB (2 ^ m' - 1) (topOf x.toNat m') v = L := ⟨_, rfl⟩
      obtain ⟨N, hN⟩ : ∃ N, L.length = N := ⟨_, rfl⟩
      obtain ⟨q, hq⟩ := putB_head (2 ^ m' - 1) (topOf x.toNat m') v
      have hN1 := putB_pos (2 ^ m' - 1) (topOf x.toNat m') v
      rw [l2, hL] at hq
      rw [hL] at l1 l3 hN1
      rw [hN] at l1 l3 hN1
      rw [show UInt8.ofNat x.toNat = x by simp] at hq
      subst hq
      obtain ⟨b, o, rfl, hcu⟩ := rd_head hr (by omega)
      have hbl := World.block_lt_of_cell? W _ hcu
      have Hcu := Lib.hid hcu
      have Hbl : Hid (b < W.heap.size) := hbl
      have Htk : Hid (Rd W 1 (some ⟨b, o, none⟩) n (((x :: r).take n).map BV)) := by
        have := hr.take (k := n) n2
        rw [Nat.mul_one, ← List.map_take] at this
        exact this
      obtain ⟨xt, hxt⟩ : ∃ xt, (x :: r).take n = xt := ⟨_, rfl⟩
      rw [hxt] at Htk l3
      have HL := Lib.hid hL
      have HN := Lib.hid hN
      have b0 : ¬ (n : Int) < 1 := by omega
      have b1 : ¬ (len : Int) < (n : Int) := by omega
      have b2 : ¬ (6 : Int) < (n : Int) := by omega
      have b3 : ¬ (v : Int) < 0 := by omega
      have b4 : ¬ (2147483647 : Int) < (v : Int) := by omega
      have b5 : (N : Int) ≤ (n : Int) := by omega
      have b6 : (n : Int) ≤ (cap : Int) := by omega
      have q1' : x.toNat < 256 := q1
      have hc0 : ¬ cap = 0 := by omega
      have Hlc := Lib.hid hlc
      clear hm hR hg hcu hr hxl hL hN hxt hbl l2
      by_cases hNn : N = n
      · have hxe := l3.1 hNn
        subst hxe
        subst hNn
        clear l3 l1
        go_enter Tryd.func7, Tryd.ntmps7
        go_wp2_with (first
          | (go_at_call 9; (with_reducible refine (shown_any _ HC.out).mono ?_); rintro e w1 ⟨rfl, hb1⟩; have H1 := Lib.hid hb1; clear hb1)
          | (go_at_call 12; (with_reducible refine (GetInt_v (Hr.out.below H1.out) Hlc.out hcap2 _ _ HR.out (.tuple #[.int .i64 (v : Int), .int .i64 (N : Int), .int .i64 0]) rfl).mono ?_); rintro e w2 ⟨rfl, hb2⟩; have H2 := Lib.hid (H1.out.trans (hb2.mono H1.out.size)); have hcx := (H2.out.cell (p := ⟨b, o, none⟩) Hbl.out).trans Hcu.out; clear hb2)
          | (go_at_call 10; (with_reducible refine (PutInt_n x.toNat m' v q1' q2 q3 q4 _ HL.out N HN.out _ rfl _ rfl _ rfl _).mono ?_); rintro e w3 ⟨A3, c3, rfl, hr3, g1, g2, hb3⟩
             have H3 := Lib.hid (H2.out.trans (hb3.mono H2.out.size))
             obtain ⟨b3', o3, rfl, hc3⟩ := rd_head hr3 (by omega)
             have hcx3 := (H3.out.cell (p := ⟨b, o, none⟩) Hbl.out).trans Hcu.out
             have hcv1 := conv_drewN (c := c3) hr3
             have hcv2 := conv_drewN (c := cap) (Htk.out.below H3.out)
             clear hb3 hr3 hcx))
        go_quiet (fail)
        go_wp2
        go_ret
        exact ⟨rfl, below_drewN H3.out _⟩
      · have hne : ¬ x :: q = xt := fun e => hNn (l3.2 e)
        obtain ⟨S1, hS1⟩ : ∃ S, str (x :: q) = S := ⟨_, rfl⟩
        obtain ⟨S2, hS2⟩ : ∃ S, str xt = S := ⟨_, rfl⟩
        have hs2 : (S1.toList == S2.toList) = false := by
          rw [← hS1, ← hS2, ByteArray.toList_eq, ByteArray.toList_eq, str_data, str_data]
          simpa using hne
        have hn2 : ((N : Int) == (n : Int)) = false := by simp; omega
        have hn3 : (N == n) = false := by simpa using hNn
        have HS1 := Lib.hid hS1
        have HS2 := Lib.hid hS2
        clear l3 hne hNn hS1 hS2
        go_enter Tryd.func7, Tryd.ntmps7
        go_wp2_with (first
          | (go_at_call 9; (with_reducible refine (shown_any _ HC.out).mono ?_); rintro e w1 ⟨rfl, hb1⟩; have H1 := Lib.hid hb1; clear hb1)
          | (go_at_call 12; (with_reducible refine (GetInt_v (Hr.out.below H1.out) Hlc.out hcap2 _ _ HR.out (.tuple #[.int .i64 (v : Int), .int .i64 (n : Int), .int .i64 0]) rfl).mono ?_); rintro e w2 ⟨rfl, hb2⟩; have H2 := Lib.hid (H1.out.trans (hb2.mono H1.out.size)); have hcx := (H2.out.cell (p := ⟨b, o, none⟩) Hbl.out).trans Hcu.out; clear hb2)
          | (go_at_call 10; (with_reducible refine (PutInt_n x.toNat m' v q1' q2 q3 q4 _ HL.out N HN.out _ rfl _ rfl _ rfl _).mono ?_); rintro e w3 ⟨A3, c3, rfl, hr3, g1, g2, hb3⟩
             have H3 := Lib.hid (H2.out.trans (hb3.mono H2.out.size))
             obtain ⟨b3', o3, rfl, hc3⟩ := rd_head hr3 (by omega)
             have hcx3 := (H3.out.cell (p := ⟨b, o, none⟩) Hbl.out).trans Hcu.out
             have hcv1 := conv_drewN (c := c3) hr3
             have hcv2 := conv_drewN (c := cap) (Htk.out.below H3.out)
             rw [HS1.out] at hcv1
             rw [HS2.out] at hcv2
             clear hb3 hr3 hcx))
        go_quiet (fail)
        go_wp2
        go_ret
        exact ⟨rfl, below_drewN H3.out _⟩
    · rw [getI, if_neg hm] at hR
      cases hR
  all_goals
    clear hR hr
    go_enter Tryd.func7, Tryd.ntmps7
    go_wp2_with (first
      | (go_at_call 9; (with_reducible refine (shown_any _ HC.out).mono ?_); rintro e w1 ⟨rfl, hb1⟩; have H1 := Lib.hid hb1; clear hb1)
      | (go_at_call 12; (with_reducible refine (GetInt_any (Hr.out.below H1.out) hlc hcap2 m _ HR.out).mono ?_); rintro e w2 ⟨rfl, hb2⟩; have H2 := Lib.hid (H1.out.trans (hb2.mono H1.out.size)); clear hb2; unfold getV))
    go_ret
    exact ⟨rfl, H2.out⟩
end Go.Proofs.YtdmheinepkeglaaDoor
