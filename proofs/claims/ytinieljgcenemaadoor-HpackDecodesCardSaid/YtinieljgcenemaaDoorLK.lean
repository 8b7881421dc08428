/- HpackBroken, the walk: whatever the octets, true. -/
import Derived.Test.YtinieljgcenemaaDoorG8
namespace Go.Proofs.YtinieljgcenemaaDoor
open Go.RowKit Go.Own Go.Tbl Go.Huf Go.Hin
set_option linter.unusedVariables false
set_option maxRecDepth 100000
attribute [local go_sem ↓] Go.wp_at_zero Go.wp_at_succ

theorem rd_take1 {w : World} {A : Option Addr} {n k : Nat} {xs : List UInt8} (h : Rd w 1 A n (xs.map BV)) (hk : k ≤ n) : Rd w 1 A k ((xs.take k).map BV) := by
  have := h.take hk
  rwa [Nat.mul_one, ← List.map_take] at this
set_option maxHeartbeats 8000000 in
theorem lawBroken {w : World} (m : Int) (hm : i64 m) {A1 A2 : Option Addr} {n1 c1 n2 c2 : Nat} {xs ys : List UInt8} (r1 : Rd w 1 A1 n1 (xs.map BV)) (k1 : n1 ≤ c1) (z1 : c1 ≤ 140737488351232) (r2 : Rd w 1 A2 n2 (ys.map BV)) (k2 : n2 ≤ c2) (z2 : c2 ≤ 140737488351232) (hC : Cnt w) :
    Calls Tryd.prog 9 #[.int .i64 m, .slice A1 n1 c1, .slice A2 n2 c2] w fun e w' => e = .returned (.bool true) ∧ Below w.heap.size w w' := by
  obtain ⟨h, hh⟩ : ∃ h, clampI m = h := ⟨_, rfl⟩
  have hh2 : h ≤ 65536 := hh ▸ clampI_le m
  have hOk := ok_new h hh2
  obtain ⟨q1, hq1⟩ : ∃ q, min n1 5000 = q := ⟨_, rfl⟩
  obtain ⟨q2, hq2⟩ : ∃ q, min n2 5000 = q := ⟨_, rfl⟩
  have e1 : (if (5000 : Int) < (n1 : Int) then (5000 : Int) else (n1 : Int)) = (q1 : Int) := by split <;> omega
  have e2 : (if (5000 : Int) < (n2 : Int) then (5000 : Int) else (n2 : Int)) = (q2 : Int) := by split <;> omega
  have l1 : q1 ≤ n1 := by omega
  have l2 : q2 ≤ n2 := by omega
  have t1 := rd_take1 r1 l1
  have t2 := rd_take1 r2 l2
  have u1 : q1 ≤ 5000 := by omega
  have u2 : q2 ≤ 5000 := by omega
  obtain ⟨X, hX⟩ : ∃ X, xs.take q1 = X := ⟨_, rfl⟩
  obtain ⟨Y, hY⟩ : ∃ Y, ys.take q2 = Y := ⟨_, rfl⟩
  rw [hX] at t1
  rw [hY] at t2
  have lX : X.length = q1 := by simpa using t1.1
  have lY : Y.length = q2 := by simpa using t2.1
  have cases3 : ∃ fs1 er1 st1 fs2 er2 st2, decR h 1099511627776 (some (h, [])) X = (fs1, er1, st1) ∧ decR 4096 1099511627776 st1 Y = (fs2, er2, st2) ∧ ((er1 = 3 ∧ er2 = 7 ∧ fs1 = [] ∧ fs2 = []) ∨ (er1 = 0 ∧ er2 = 0) ∨ (er1 = 0 ∧ er2 = 3 ∧ fs2 = [])) := by
    cases hb : blockD statL h h [] X with
    | none => exact ⟨[], 3, none, [], 7, none, by simp only [decR, hb], rfl, .inl ⟨rfl, rfl, rfl, rfl⟩⟩
    | some z =>
      obtain ⟨fs, h', l'⟩ := z
      obtain ⟨hok', _, _, hz⟩ := blockD_ok (N := 5000) statL_sz hOk hh2 (by omega) hb
      have ha : decR h 1099511627776 (some (h, [])) X = (fs, 0, some (h', l')) := by
        simp only [decR, hb]
        rw [if_neg (by omega)]
      cases hb2 : blockD statL 4096 h' l' Y with
      | none => exact ⟨fs, 0, some (h', l'), [], 3, none, ha, by simp only [decR, hb2], .inr (.inr ⟨rfl, rfl, rfl⟩)⟩
      | some z2 =>
        obtain ⟨fs2, h2, l2⟩ := z2
        obtain ⟨_, _, _, hz2⟩ := blockD_ok (N := 5000) statL_sz hok' (by omega) (by omega) hb2
        refine ⟨fs, 0, some (h', l'), fs2, 0, some (h2, l2), ha, ?_, .inr (.inl ⟨rfl, rfl⟩)⟩
        simp only [decR, hb2]
        rw [if_neg (by omega)]
  obtain ⟨fs1, er1, st1, fs2, er2, st2, d1, d2, hc⟩ := cases3
  obtain ⟨m1, hm1⟩ : ∃ m1, fs1.length = m1 := ⟨_, rfl⟩
  obtain ⟨m2, hm2⟩ : ∃ m2, fs2.length = m2 := ⟨_, rfl⟩
  have hc2 : (er1 = 3 ∧ er2 = 7 ∧ m1 = 0 ∧ m2 = 0) ∨ (er1 = 0 ∧ er2 = 0) ∨ (er1 = 0 ∧ er2 = 3 ∧ m2 = 0) := by
    rcases hc with ⟨a, b, c, d⟩ | ⟨a, b⟩ | ⟨a, b, c⟩
    · subst c d; exact .inl ⟨a, b, hm1.symm, hm2.symm⟩
    · exact .inr (.inl ⟨a, b⟩)
    · subst c; exact .inr (.inr ⟨a, b, hm2.symm⟩)
  have i4096 : i64 4096 := by unfold i64; omega
  have v1 : q1 ≤ c1 := by omega
  have v2 : q2 ≤ c2 := by omega
  have w1' : c1 ≤ 9223372036854775807 := by omega
  have w2' : c2 ≤ 9223372036854775807 := by omega
  have T1 := Lib.hid t1
  have T2 := Lib.hid t2
  have D1 := Lib.hid d1
  have D2 := Lib.hid d2
  have M1 := Lib.hid hm1
  have M2 := Lib.hid hm2
  have HC := Lib.hid hC
  have Hm := Lib.hid hm
  have Hh := Lib.hid hh
  clear t1 t2 d1 d2 hm1 hm2 hC hm hh hc r1 r2 hX hY hq1 hq2 lX lY hOk
  rcases hc2 with ⟨rfl, rfl, rfl, rfl⟩ | ⟨rfl, rfl⟩ | ⟨rfl, rfl, rfl⟩
  all_goals
    go_enter Tryd.func9, Tryd.ntmps9
    go_wp2_with (first
      | (go_at_call 12; (with_reducible refine (shown5 _ HC.out).mono ?_); rintro e wa ⟨rfl, hb1⟩
         have S1 : Hid (St NoS w wa []) := (St.nil NoS w).next hb1
         clear hb1)
      | (go_at_call 25; (with_reducible refine (lNewD S1.out m Hm.out 1099511627776 h Hh.out).mono ?_); rintro e wb ⟨d, rfl, s2⟩
         have S2 : Hid (St NoS w wb [PDo d h 1099511627776 (some (h, []))]) := s2
         clear s2)
      | (go_at_call 29; (with_reducible refine (lDecodeIn0 S4.out HC.out T2.out v2 w2' (by omega) _ _ _ D2.out _ M2.out).mono ?_); rintro e we ⟨A5, c5, rfl, s5⟩
         have S5 := Lib.hid s5
         clear s5)
      | (go_at_call 29; (with_reducible refine (lDecodeIn0 S2.out HC.out T1.out v1 w1' (by omega) _ _ _ D1.out _ M1.out).mono ?_); rintro e wc ⟨A3, c3, rfl, s3⟩
         have S3 := Lib.hid s3.drop1
         clear s3)
      | (go_at_call 27; (with_reducible refine (lSetMaxD0 S3.out 4096 i4096 4096 rfl).mono ?_); rintro e wd ⟨rfl, s4⟩
         have S4 := Lib.hid s4
         clear s4))
    go_ret
    exact ⟨rfl, S5.out.below⟩
end Go.Proofs.YtinieljgcenemaaDoor
