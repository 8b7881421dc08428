/- The law BlockMany: the walk. -/
import Derived.Test.YtnflegdoeomhcaaVi
namespace Go.Proofs.Ytnflegdoeomhcaa
open Go.RowKit Go.Own Go.Frm
set_option linter.unusedVariables false
set_option linter.unusedSimpArgs false
set_option maxRecDepth 100000
theorem ofInt64w12 (m : Nat) (h : m < 18446744073709551616) : BitVec.ofInt 64 (m : Int) = BitVec.ofNat 64 m := by
  apply BitVec.eq_of_toNat_eq
  simp
theorem and_bd12 (z : Int) (m : Nat) (hm : m < 9223372036854775808) (M : Int) (hM : M = (m : Int)) : ∃ x : Nat, bits .and .i64 z M = (x : Int) ∧ x ≤ m := by
  subst hM
  have e : bits .and .i64 z (m : Int) = IntKind.i64.wrap ((BitVec.ofInt 64 z &&& BitVec.ofInt 64 (m : Int)).toNat : Int) := rfl
  have h := @Nat.and_le_right (BitVec.ofInt 64 z).toNat m
  rw [e, BitVec.toNat_and, IntKind.wrap_i64]
  have h2 : (BitVec.ofInt 64 (m : Int)).toNat = m := by simp; omega
  rw [h2]
  refine ⟨((BitVec.ofInt 64 z).toNat &&& m), ?_, h⟩
  omega
def om (k : Nat) : Asm := .opened 10 (mkF 1 5 false false []) k
theorem s_over {S : Nat → Prop} {w0 w : World} {L : List Ob} {p : Nat} {a : Asm} (s : St S w0 w (AO p a :: L)) (h : a = om 32 ∨ a = .broken 11) (hA : 0 < 0 → ∀ b : Addr, (none : Option Addr) = some b → b.block ≠ p) (hr : Rd w 1 none 0 (([] : List UInt8).map BV)) (eh : Bool) :
    Calls Try.prog 10 #[.pointer (some ⟨p, 0, none⟩), .agg #[.int .i64 9, .int .i64 5, .bool false, .bool eh, .bool false, .bool false, .slice none 0 0, .int .i64 0, .int .i64 0, .int .i64 0, .bool false, .int .i64 0, .int .u32 0, .slice none 0 0, .int .i64 0, .int .i64 0]] w fun e w' => e = .returned (.tuple #[.agg #[.int .i64 0, .int .i64 0, .bool false, .bool false, .bool false, .bool false, .slice none 0 0, .int .i64 0, .int .i64 0, .int .i64 0, .bool false, .int .i64 0, .int .u32 0, .slice none 0 0, .int .i64 0, .int .i64 0], .bool false, .agg #[.bool true, .int .u32 11, .int .i64 0]]) ∧ St S w0 w' (AO p (.broken 11) :: L) := by
  rcases h with rfl | rfl
  · exact s_co_many (st := 5) (fin := false) (e0 := false) (xs := []) (ys := []) s hr (by omega) (by omega) hA (by decide) eh
  · exact s_broken (co := 11) (ys := []) s rfl 9 5 false eh
set_option maxHeartbeats 16000000 in
theorem lawMany (w0 : World) (n : Int) (last : Bool) :
    Calls Try.prog 6 #[.int .i64 n, .bool last] w0 fun e w' => e = .returned (.bool true) ∧ Below w0.heap.size w0 w' := by
  have hm : Hid (((10 : Nat) : Int) = max 10 0) := by unfold Hid; decide
  obtain ⟨x, hx, hx63⟩ := and_bd12 n 63 (by decide) 63 rfl
  have HN : Hid (∀ p, 0 < 0 → ∀ a : Addr, (none : Option Addr) = some a → a.block ≠ p) := fun p _ a h => by cases h
  have R0 : Hid (∀ w : World, Rd w 1 none 0 (([] : List UInt8).map BV)) := fun w => Rd.nil _ _ _
  go_enter Try.func6, Try.ntmps6
  go_wp2_with (first
    | (go_at_call 8; (with_reducible refine (shown_c _).mono ?_); rintro e w1 ⟨rfl, hb1⟩
       have HB1 := Lib.hid hb1
       clear hb1)
    | (go_at_call 9; (with_reducible refine (new_c 10 10 hm.out).mono ?_); rintro e w2 ⟨p, rfl, t2⟩
       have T2 := Lib.hid t2
       clear t2)
    | (go_at_call 10; (with_reducible refine (s_hd_no (st := 5) (fin := false) (ys := []) T2.out (R0.out _) (by omega) (by omega) (HN.out _) (by omega)).mono ?_); rintro e w3 ⟨rfl, t3⟩
       have T3 := Lib.hid t3
       clear t3))
  have T4 := Lib.hid ((T3.out.alloc (.cells #[.int .i64 0, .int .i64 0, .bool false, .bool false, .bool false, .bool false, .slice none 0 0, .int .i64 0, .int .i64 0, .int .i64 0, .bool false, .int .i64 0, .int .u32 0, .slice none 0 0, .int .i64 0, .int .i64 0] 32)).alloc (.cells #[.bool false, .int .u32 0, .int .i64 0] 34))
  have HB := HB1
  clear T2 T3 hm
  go_loopg [10] x (fun gh i w => ∃ (k : Nat) (a : Asm), gh + k = x + 1 ∧ i = .int .i64 (k : Int) ∧ Hid (1 ≤ k) ∧ Hid (k ≤ x → (k ≤ 33 → a = om (k - 1)) ∧ (33 < k → a = .broken 11)) ∧ Hid (St (fun _ => False) w1 w [AO p a]))
  case atStart => exact ⟨1, om 0, by omega, rfl, Nat.le_refl _, fun _ => ⟨fun _ => rfl, fun h => absurd h (by omega)⟩, T4.out⟩
  case round =>
    obtain ⟨k, a, hgk, rfl, H1, HA, HS⟩ := hrel
    clear T4
    have h1 := H1.out
    cases gk with
    | zero =>
      obtain rfl : k = x + 1 := by omega
      have e1 : ¬ ((x : Int) + 1 ≤ (x : Int)) := by omega
      clear HA
      go_wp2
      go_ret
      exact ⟨rfl, HB.out.trans (HS.out.below.mono HB.out.size)⟩
    | succ g1 =>
      have hkx : k ≤ x := by omega
      have e1 : (k : Int) ≤ (x : Int) := by omega
      have e2 : IntKind.i64.wrap ((k : Int) + 1) = (k : Int) + 1 := by rw [IntKind.wrap_i64]; omega
      obtain ⟨ha1, ha2⟩ := HA.out hkx
      clear HA
      have HG : Hid (g1 + (k + 1) = x + 1) := by unfold Hid; omega
      rcases Nat.lt_or_ge 32 k with hk | hk
      · have HO : Hid (a = om 32 ∨ a = .broken 11) := by
          rcases (show k = 33 ∨ 33 < k by omega) with rfl | h
          · exact .inl (ha1 (by omega))
          · exact .inr (ha2 h)
        have hk32 : (32 : Int) < (k : Int) := by omega
        have hk32' : ¬ (k : Int) ≤ 32 := by omega
        have HK32 := Lib.hid hk
        obtain ⟨z, hz⟩ : ∃ z, ((k : Int) == (x : Int)) = z := ⟨_, rfl⟩
        clear ha1 ha2
        cases last
        · as_aux_lemma =>
          go_wp2_with (first
            | (go_at_call 10; (with_reducible refine (s_over HS.out HO.out (HN.out _) (R0.out _) _).mono ?_); rintro e w5 ⟨rfl, t5⟩
               have T5 := Lib.hid t5
               clear t5))
          go_roundg g1
          case measure => omega
          case rel => exact ⟨_, _, HG.out, by go_num, Nat.le_add_left _ _, fun h => ⟨fun h2 => absurd h2 (by omega), fun _ => rfl⟩, (T5.out.alloc _).alloc _⟩
        · cases z
          · as_aux_lemma =>
            go_wp2_with (first
              | (go_at_call 10; (with_reducible refine (s_over HS.out HO.out (HN.out _) (R0.out _) _).mono ?_); rintro e w5 ⟨rfl, t5⟩
                 have T5 := Lib.hid t5
                 clear t5))
            go_roundg g1
            case measure => omega
            case rel => exact ⟨_, _, HG.out, by go_num, Nat.le_add_left _ _, fun h => ⟨fun h2 => absurd h2 (by omega), fun _ => rfl⟩, (T5.out.alloc _).alloc _⟩
          · as_aux_lemma =>
            go_wp2_with (first
              | (go_at_call 10; (with_reducible refine (s_over HS.out HO.out (HN.out _) (R0.out _) _).mono ?_); rintro e w5 ⟨rfl, t5⟩
                 have T5 := Lib.hid t5
                 clear t5))
            go_roundg g1
            case measure => omega
            case rel => exact ⟨_, _, HG.out, by go_num, Nat.le_add_left _ _, fun h => ⟨fun h2 => absurd h2 (by omega), fun _ => rfl⟩, (T5.out.alloc _).alloc _⟩
      · obtain rfl := ha1 (by omega)
        have hk32 : ¬ (32 : Int) < (k : Int) := by omega
        have hk32' : (k : Int) ≤ 32 := by omega
        obtain ⟨j, rfl⟩ : ∃ j, k = j + 1 := ⟨k - 1, by omega⟩
        obtain ⟨z, hz⟩ : ∃ z, ((j : Int) + 1 == (x : Int)) = z := ⟨_, rfl⟩
        have hjx : z = true → ¬ (j + 1 + 1 ≤ x) := fun h => by subst h; have := eq_of_beq hz; omega
        have HJ := Lib.hid hjx
        clear hjx ha1 ha2
        cases last
        · as_aux_lemma =>
          go_wp2_with (first
            | (go_at_call 10; (with_reducible refine (s_co_no (st := 5) (fin := false) (e0 := false) (xs := []) (ys := []) HS.out (R0.out _) (by omega) (by omega) (HN.out _) (by decide) (by omega) [] rfl).mono ?_); rintro e w5 ⟨rfl, t5⟩
               have T5 := Lib.hid t5
               clear t5))
          go_roundg g1
          case measure => omega
          case rel => exact ⟨_, _, HG.out, by go_num, Nat.le_add_left _ _, fun h => ⟨fun _ => rfl, fun h2 => absurd h2 (by omega)⟩, (T5.out.alloc _).alloc _⟩
        · cases z
          · as_aux_lemma =>
            go_wp2_with (first
              | (go_at_call 10; (with_reducible refine (s_co_no (st := 5) (fin := false) (e0 := false) (xs := []) (ys := []) HS.out (R0.out _) (by omega) (by omega) (HN.out _) (by decide) (by omega) [] rfl).mono ?_); rintro e w5 ⟨rfl, t5⟩
                 have T5 := Lib.hid t5
                 clear t5))
            go_roundg g1
            case measure => omega
            case rel => exact ⟨_, _, HG.out, by go_num, Nat.le_add_left _ _, fun h => ⟨fun _ => rfl, fun h2 => absurd h2 (by omega)⟩, (T5.out.alloc _).alloc _⟩
          · as_aux_lemma =>
            go_wp2_with (first
              | (go_at_call 10; (with_reducible refine (s_co_yes (st := 5) (fin := false) (e0 := false) (xs := []) (ys := []) HS.out (R0.out _) (by omega) (by omega) (HN.out _) (by decide) (by omega) [] rfl).mono ?_); rintro e w5 ⟨A1, n1, c1, B1, nl1, d1, rfl, hn1, t5⟩
                 replace hn1 : n1 = 0 := hn1
                 subst hn1
                 have T5 := Lib.hid (St.drop1 t5)
                 clear t5))
            go_roundg g1
            case measure => omega
            case rel => exact ⟨_, _, HG.out, by go_num, Nat.le_add_left _ _, fun h => absurd h (HJ.out trivial), (T5.out.alloc _).alloc _⟩
theorem lawManyH {w : World} (n : Int) (last : Bool) : Calls Try.prog 6 #[.int .i64 n, .bool last] w fun e w' => e = .returned (.bool true) ∧ Below w.heap.size w w' := lawMany w n last
end Go.Proofs.Ytnflegdoeomhcaa
