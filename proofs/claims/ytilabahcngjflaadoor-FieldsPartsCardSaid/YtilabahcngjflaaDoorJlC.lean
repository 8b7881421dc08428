/- Stage 10: FieldsConnect, the walk. -/
import Derived.Test.YtilabahcngjflaaDoorJlA
import Derived.Test.YtilabahcngjflaaDoorJiC
namespace Go.Proofs.YtilabahcngjflaaDoor
open Go.RowKit Go.Own Go.Tbl Go.Fie
set_option linter.unusedVariables false
set_option linter.unusedSimpArgs false
set_option maxRecDepth 100000
theorem ofInt64w (n : Nat) (h : n < 18446744073709551616) : (BitVec.ofInt 64 (n : Int)).toNat = n := by
  rw [BitVec.toNat_ofInt]; omega
/-- what is left of a number under a mask -/
theorem and_bd (z : Int) (m : Nat) (hm : m < 9223372036854775808) (M : Int) (hM : M = (m : Int)) : 0 ≤ bits .and .i64 z M ∧ bits .and .i64 z M ≤ M := by
  subst hM
  have e : bits .and .i64 z (m : Int) = IntKind.i64.wrap ((BitVec.ofInt 64 z &&& BitVec.ofInt 64 (m : Int)).toNat : Int) := rfl
  have h := @Nat.and_le_right (BitVec.ofInt 64 z).toNat m
  rw [e, BitVec.toNat_and, ofInt64w m (by omega), IntKind.wrap_i64]
  omega
set_option maxHeartbeats 16000000 in
theorem lawConnect {W : World} {s : ByteArray} (hs : s.size ≤ maxLen) {z : Int} (hz : (Lit.int .i64 z).wf = true) (hC : True) : Calls Tryd.prog 9 #[.string s, .int .i64 z] W fun e w' => e = .returned (.bool true) ∧ Below W.heap.size W w' := by
  have G0 := Lib.hid (shown_c W)
  have hsl : s.size ≤ 9223372036854775807 := by unfold maxLen at hs; omega
  obtain ⟨a, ha⟩ : ∃ a, s.size = a := ⟨_, rfl⟩
  rw [ha] at hsl
  obtain ⟨ma, hma⟩ : ∃ ma, min a 200 = ma := ⟨_, rfl⟩
  have ema : min (a : Int) 200 = (ma : Int) := by omega
  have la : ma ≤ a := by omega
  obtain ⟨T, hT⟩ : ∃ T, s.extract 0 ma = T := ⟨_, rfl⟩
  have hTs : T.size ≤ 200 := by rw [← hT, ByteArray.size_extract]; omega
  -- the index
  obtain ⟨hb1, hb2⟩ := and_bd z 15 (by omega) 15 rfl
  obtain ⟨y, hy⟩ := Int.eq_ofNat_of_zero_le hb1
  rw [hy] at hb2
  obtain ⟨q, hq⟩ : ∃ q, y % 5 = q := ⟨_, rfl⟩
  have hql : q < 5 := by omega
  have eq1 : (y : Int) % 5 = (q : Int) := by omega
  have k1 : (q : Int) < 5 := by omega
  obtain ⟨mo, hmo⟩ : ∃ mo, moreN[q]? = some mo := ⟨_, List.getElem?_eq_getElem (show q < moreN.length from hql)⟩
  have hmem : mo ∈ moreN := List.mem_of_getElem? hmo
  have hmos : mo.size ≤ 1000 := by
    have : ∀ x ∈ moreN, x.size ≤ 1000 := by decide
    exact this _ hmem
  -- what is asked
  obtain ⟨M1, S1, A1, P1, st1, ln1, hm1⟩ := msgOf (request (tun T))
  obtain ⟨q1, hq1⟩ : ∃ x, (request (tun T)).isSome = x := ⟨_, rfl⟩
  obtain ⟨q2, hq2⟩ : ∃ x, okV T = x := ⟨_, rfl⟩
  obtain ⟨q3, hq3⟩ : ∃ x, decide (T.size = 0) = x := ⟨_, rfl⟩
  have hemp := emp T
  rw [hq3] at hemp
  have h12 : q1 = (q2 && !q3) := by
    rw [← hq1, tun_ok, hq2, ← hq3, decide_not]
    congr 2
    rw [Bool.eq_iff_iff, decide_eq_true_iff, decide_eq_true_iff]
    exact (eqE_iff T).symm
  have htok : ∀ f ∈ tun T, fok f := by
    intro f hf
    simp only [tun, List.mem_cons, List.not_mem_nil, or_false] at hf
    rcases hf with rfl | rfl
    · exact ⟨by show nMethod.size ≤ _; decide, by show nConnect.size ≤ _; decide⟩
    · exact ⟨by show nAuth.size ≤ _; decide, by show T.size ≤ _; omega⟩
  have HQ : Hid (∀ (w : World) (A : Option Addr) (c : Nat), Rd w 3 A 2 (fcellsL (tun T)) → Calls Tryd.prog 14 #[.slice A 2 c] w fun e w' => e = .returned (.tuple #[.agg #[.string M1, .string S1, .string A1, .string P1, .int .i64 st1, .int .i64 ln1], .bool q1]) ∧ Below w.heap.size w w') := fun w A c hr => by
    have := request_c (c := c) hr htok (by omega) _ _ _ _ _ _ hm1
    rwa [hq1] at this
  have HT : Hid (∀ (w : World) (A : Option Addr) (c : Nat), Rd w 3 A 1 (fcellsL [⟨nX, T, false⟩]) → Calls Tryd.prog 16 #[.slice A 1 c] w fun e w' => e = .returned (.bool q2) ∧ Below w.heap.size w w') := fun w A c hr => by
    have := trailers_c (c := c) hr (fun f hf => by rw [List.mem_singleton.1 hf]; exact ⟨by show nX.size ≤ _; decide, by show T.size ≤ _; omega⟩) (by omega)
    rwa [show trailers [⟨nX, T, false⟩] = okV T from tun_plain T, hq2] at this
  have HN : Hid (∀ (w : World) (A : Option Addr) (c : Nat), Rd w 3 A 3 (fcellsL (tun T ++ [⟨mo, nSlash, false⟩])) → Calls Tryd.prog 14 #[.slice A 3 c] w fun e w' => e = .returned (.tuple #[.agg #[.string ⟨#[]⟩, .string ⟨#[]⟩, .string ⟨#[]⟩, .string ⟨#[]⟩, .int .i64 0, .int .i64 0], .bool false]) ∧ Below w.heap.size w w') := fun w A c hr =>
    req_none hr (fok_app htok (fun f hf => by rw [List.mem_singleton.1 hf]; exact ⟨by show mo.size ≤ _; omega, by show nSlash.size ≤ _; decide⟩)) (by omega) (tun_more T mo hmem)
  have HMO := Lib.hid hmo
  have H12 := Lib.hid h12
  clear hs hma hTs hb1 hb2 hq hmem hmos hm1 hq1 hq2 hq3 h12 htok hmo hz hql
  go_enter Tryd.func9, Tryd.ntmps9
  go_upto_region 6 with (first
    | (go_at_call 10; (with_reducible refine G0.out.mono ?_); rintro e w1 ⟨rfl, hb1⟩
       have B1 := Lib.hid hb1
       have G1 := Lib.hid (of_b (w := w1) _ rfl [.string nMethod, .string nConnect, .string nAuth, .string T] 4 4 2 [(nMethod, nConnect), (nAuth, T)] rfl rfl rfl (by omega))
       clear hb1 G0)
    | (go_at_call 18; (with_reducible refine G1.out.mono ?_); rintro e w2 ⟨A2, c2, rfl, ho2, hb2⟩
       have O2 := Lib.hid ho2
       have B2 := Lib.hid (below_from B1.out hb2)
       have L2 := Lib.hid hb2
       have G2 := Lib.hid (HQ.out _ _ c2 (Rd.of_own ho2))
       clear ho2 hb2 G1)
    | (go_at_call 14; (with_reducible refine G2.out.mono ?_); rintro e w3 ⟨rfl, hb3⟩
       have hb := below_al hb3 (.cells #[.string M1, .string S1, .string A1, .string P1, .int .i64 st1, .int .i64 ln1] 28)
       have O3 := Lib.hid (own_below O2.out hb)
       have L3 := Lib.hid (below_from L2.out hb)
       have B3 := Lib.hid (below_from B2.out hb)
       have G3 := Lib.hid (of_b (w := w3.alloc (.cells #[.string M1, .string S1, .string A1, .string P1, .int .i64 st1, .int .i64 ln1] 28)) (w3.heap.size + 1) (by simp) [.string nX, .string T] 2 2 1 [(nX, T)] rfl rfl rfl (by omega))
       clear hb3 hb O2 B2 L2 G2)
    | (go_at_call 18; (with_reducible refine G3.out.mono ?_); rintro e w4 ⟨A4, c4, rfl, ho4, hb4⟩
       have O4 := Lib.hid (own_below O3.out hb4)
       have L4 := Lib.hid (below_from L3.out hb4)
       have B4 := Lib.hid (below_from B3.out hb4)
       have G4 := Lib.hid (HT.out _ _ c4 (Rd.of_own ho4))
       clear ho4 hb4 O3 B3 L3 G3)
    | (go_at_call 16; (with_reducible refine G4.out.mono ?_); rintro e w5 ⟨rfl, hb5⟩
       have O5 := Lib.hid (own_below O4.out hb5)
       have L5 := Lib.hid (below_from L4.out hb5)
       have B5 := Lib.hid (below_from B4.out hb5)
       clear hb5 O4 B4 L4 G4))
  have HC6 : Hid (∀ (i : Nat) (m : ByteArray), moreN[i]? = some m → (w5.alloc (.cells #[.string nScheme, .string nPath, .string nAuth, .string nMethod, .string nStatus] 9)).cell? ⟨w5.heap.size, i, none⟩ = some (.string m)) := fun i m h => by
    rw [(Blk.new w5 9 [.string nScheme, .string nPath, .string nAuth, .string nMethod, .string nStatus]).cell, show [Value.string nScheme, .string nPath, .string nAuth, .string nMethod, .string nStatus] = moreN.map Value.string from rfl, List.getElem?_map, h]
    rfl
  have c6 := HC6.out q mo HMO.out
  have G6 := Lib.hid (of_b (w := w5.alloc (.cells #[.string nScheme, .string nPath, .string nAuth, .string nMethod, .string nStatus] 9)) (w5.heap.size + 1) (by simp) [.string mo, .string nSlash] 2 2 1 [(mo, nSlash)] rfl rfl rfl (by omega))
  have O6 := Lib.hid (own_below O5.out (below_al (Below.refl _ _) (.cells #[.string nScheme, .string nPath, .string nAuth, .string nMethod, .string nStatus] 9)))
  have L6 := Lib.hid (below_from L5.out (below_al (Below.refl _ _) (.cells #[.string nScheme, .string nPath, .string nAuth, .string nMethod, .string nStatus] 9)))
  clear O5 L5 B5 HC6
  have h12 := H12.out
  subst h12
  go_wp2_with (first
    | (go_at_call 18; (with_reducible refine G6.out.mono ?_); rintro e w7 ⟨A7, c7, rfl, ho7, hb7⟩
       have O7 := Lib.hid (own_below O6.out hb7)
       have L7 := Lib.hid (below_from L6.out hb7)
       have H7 := Lib.hid (Rd.of_own ho7)
       clear ho7 hb7 O6 L6 G6)
    | (at_builtin
       refine wpList_append_rd rfl (.tmp 38) (.tmp 41) 22 rfl EF (.slice A2 2 c2) 2 (fcellsL (tun T)) rfl O7.out A7 1 c7 (fcellsL ([(mo, nSlash)].map mkF)) rfl H7.out (fcells_one _) (by omega) (by unfold maxLen; omega) L7.out.size ?_
       intro A8 c8 w8 ho8 hf8 ho28
       rw [← fcellsL_append] at ho8
       have L8 := Lib.hid (app_below L7.out O7.out hf8)
       have G8 := Lib.hid (HN.out _ _ c8 (Rd.of_own ho8))
       clear ho8 hf8 ho28 O7 H7 L7)
    | (go_at_call 14; (with_reducible refine G8.out.mono ?_); rintro e w9 ⟨rfl, hb9⟩
       have B9 := Lib.hid (below_from B1.out (below_from L8.out (below_al hb9 (.cells #[.string ⟨#[]⟩, .string ⟨#[]⟩, .string ⟨#[]⟩, .string ⟨#[]⟩, .int .i64 0, .int .i64 0] 28))))
       clear hb9 G8 L8))
  all_goals
    go_ret
    exact ⟨ret_bool (by simp [*]), B9.out⟩
end Go.Proofs.YtilabahcngjflaaDoor
