/- OctetsOrder's walk: whatever the input, true. -/
import Derived.Test.YtfklllikihjjhaaRoom
namespace Go.Proofs.Ytfklllikihjjhaa
open Go.ChangeShapes Go.WideShapes Go.ChangeAt Go.RowKit Go.Own
set_option linter.unusedVariables false

/-- a text of these bytes: a definition of its own, so that the walk lets it stand -/
def St (U : List UInt8) : ByteArray := ⟨U.toArray⟩
theorem St_append (U V : List UInt8) : St U ++ St V = St (U ++ V) := by
  apply ByteArray.ext
  rw [ByteArray.data_append]
  simp [St]
theorem St_size (U : List UInt8) : (St U).size = U.length := by show U.toArray.size = _; simp

theorem and255 (a : Int) : ∃ m : Nat, bits BinOp.and IntKind.i64 a 255 = (m : Int) ∧ m ≤ 255 := by
  refine ⟨(BitVec.ofInt 64 a &&& BitVec.ofInt 64 255).toNat, ?_, ?_⟩
  · have h7 : (BitVec.ofInt 64 a &&& BitVec.ofInt 64 255).toNat ≤ 255 := by rw [BitVec.toNat_and]; exact Nat.and_le_right
    have e : bits BinOp.and IntKind.i64 a 255 = IntKind.i64.wrap ((BitVec.ofInt 64 a &&& BitVec.ofInt 64 255).toNat : Int) := rfl
    rw [e, IntKind.wrap_i64]; omega
  · rw [BitVec.toNat_and]; exact Nat.and_le_right

theorem conv_St {W : World} {g K : Nat} {ys : List UInt8} (h : Blk W g 5 ((ys.take K).map BV)) (hK : K ≤ ys.length) :
    (convert 22 9 (.slice (some ⟨g, 0, none⟩) K K)).run Try.prog W = .ok (.string (St (ys.take K))) W := conv_blk h (by rw [List.length_take]; omega)

set_option maxHeartbeats 1600000 in
theorem order_walk {W : World} {most : Int} (wm : (Lit.int .i64 most).wf = true) {A1 A2 : Option Addr} {n1 c1 n2 c2 : Nat} (s1 : HoldsT Try.prog W 9 45 [.slice A1 n1 c1]) (s2 : HoldsT Try.prog W 9 46 [.slice A2 n2 c2]) :
    Calls Try.prog 5 #[.int .i64 most, .slice A1 n1 c1, .slice A2 n2 c2] W fun e w' => e = .returned (.bool true) ∧ Below W.heap.size W w' := by
  obtain ⟨h1, h2, _⟩ := s1.slice Try.underlying45
  obtain ⟨h3, h4, _⟩ := s2.slice Try.underlying46
  have S1 := Lib.hid s1
  have S2 := Lib.hid s2
  obtain ⟨M, hM, hMb⟩ := and255 most
  have HM : Hid ((max 0 (min (M : Int) 1000000)).toNat = M) := show _ = _ by omega
  clear wm s1 s2
  go_enter Try.func5, Try.ntmps5
  go_wp2_with (first
    | (go_at_call 9; (with_reducible refine (shown_any _).mono ?_); rintro e w1 ⟨rfl, hb1⟩; have Hb1 := Lib.hid hb1; clear hb1)
    | (go_at_call 12; (with_reducible refine (New_q W.heap.size W w1 M M Hb1.out Hb1.out.size HM.out).mono ?_); rintro e w2 ⟨p, rfl, hq2, _, _⟩; have Hq2 := Lib.hid hq2; clear hq2))
  clear hM
  go_loopw [9, 10, 11] (fun sin sout i w' => ∃ (k : Nat) (sv : Value) (xs U V : List UInt8), k ≤ 60 ∧ k ≤ n1 ∧ i = .int .i64 k ∧ sin = .string (St U) ∧ sout = .string (St V) ∧ U.length ≤ 500 * k ∧ V ++ xs = U ∧ QB W.heap.size W w' p sv M xs) (fun _ _ i _ => 60 - (intOf i).toNat)
  case atStart => exact ⟨0, _, [], [], [], by omega, by omega, rfl, rfl, rfl, by simp, rfl, Hq2.out⟩
  case round =>
    obtain ⟨k, sv, xs, U, V, hk60, hkn, rfl, rfl, rfl, hU, hUV, hq⟩ := hrel
    have Hq := Lib.hid hq
    have HUV := Lib.hid hUV
    have hsU := St_size U
    have hsV := St_size V
    have hVl : V.length + xs.length = U.length := by rw [← hUV]; simp
    have hsU1 : (St U).size ≤ 30000 := by omega
    have hsV1 : (St V).size ≤ 30000 := by omega
    clear hq hUV hsU hsV
    by_cases hlt : k < n1 ∧ k < 60
    · obtain ⟨hlt1, hlt2⟩ := hlt
      obtain ⟨b, o, B, len, cap, ys, rfl, hc, hr, hlc, hcap⟩ := row_at S1.out hlt1
      have hcw := (Hq.out.below.cell (p := ⟨b, o + k, none⟩) (World.block_lt_of_cell? W _ hc)).trans hc
      have hys : ys.length = len := by simpa using hr.1
      obtain ⟨nb, hnb⟩ : ∃ nb, min len 500 = nb := ⟨_, rfl⟩
      have hnc : nb ≤ cap := by omega
      have hn500 : nb ≤ 500 := by omega
      have hrn : Rd W 1 B nb ((ys.take nb).map BV) := by have := hr.take (k := nb) (by omega); rw [Nat.mul_one, ← List.map_take] at this; exact this
      have hmin1 : (if (500 : Int) < (len : Int) then (500 : Int) else (len : Int)) = (nb : Int) := by split <;> omega
      have hxm := Hq.out.at_.2.2.1
      obtain ⟨m, hm⟩ : ∃ m, min nb (M - xs.length) = m := ⟨_, rfl⟩
      have hmn : m ≤ nb := by omega
      have hmc : m ≤ cap := by omega
      have hrm : Rd W 1 B m ((ys.take m).map BV) := by have := hr.take (k := m) (by omega); rw [Nat.mul_one, ← List.map_take] at this; exact this
      have htt : (ys.take nb).take m = ys.take m := by rw [List.take_take, Nat.min_eq_left hmn]
      obtain ⟨zs, hzs⟩ : ∃ zs, xs ++ ys.take m = zs := ⟨_, rfl⟩
      obtain ⟨U', hU'⟩ : ∃ U', U ++ ys.take m = U' := ⟨_, rfl⟩
      have hU'l : U'.length ≤ 500 * (k + 1) := by rw [← hU']; simp; omega
      obtain ⟨L, hL⟩ : ∃ L, zs.length = L := ⟨_, rfl⟩
      have hLM : L ≤ M := by rw [← hL, ← hzs]; simp; omega
      have hst : (St (ys.take m)).size ≤ 500 := by rw [St_size]; simp; omega
      have hcat : St U ++ St (ys.take m) = St U' := by rw [St_append, hU']
      have hVz : V ++ zs = U' := by rw [← hzs, ← hU', ← HUV.out, List.append_assoc]
      have Hrn := Lib.hid hrn
      have Hrm := Lib.hid hrm
      have Hm := Lib.hid hm
      have Htt := Lib.hid htt
      have HL := Lib.hid hL
      have Hzs := Lib.hid hzs
      have HVz := Lib.hid hVz
      clear hc hr hys hnb hrn hrm hm hxm hL hzs htt hU' hVz HUV hVl
      by_cases hpop : k < n2
      · obtain ⟨b2, o2, pk, rfl, hcp, hp1, hp2⟩ := int_at S2.out hpop
        obtain ⟨K, hK⟩ : ∃ K, (max 0 (min pk zs.length)).toNat = K := ⟨_, rfl⟩
        have hKL : K ≤ zs.length := by omega
        obtain ⟨V', hV'⟩ : ∃ V', V ++ zs.take K = V' := ⟨_, rfl⟩
        have hcatV : St V ++ St (zs.take K) = St V' := by rw [St_append, hV']
        have hstV : (St (zs.take K)).size ≤ 255 := by rw [St_size]; have := HL.out; simp; omega
        have hVV : V' ++ zs.drop K = U' := by rw [← hV', List.append_assoc, List.take_append_drop, HVz.out]
        have HK := Lib.hid hK
        have HKL := Lib.hid hKL
        have HVV := Lib.hid hVV
        have hcell2 := Lib.hid hcp
        clear hK hcp hKL hVV hV'
        go_wp2_with fail
        go_quiet (fail)
        go_wp2_with (first
          | (go_at_call 14; (with_reducible refine (Push_q (Hq.out.drewN _) B nb cap m (ys.take nb) ((Hq.out.drewN _).rd rfl Hrn.out) hnc hcap Hm.out).mono ?_); rintro e w4 ⟨sv4, rfl, hq4, hf4⟩; rw [Htt.out, Hzs.out] at hq4; have Hq4 := Lib.hid hq4; have hcw2 := (hq4.below.cell (p := ⟨b2, o2 + k, none⟩) (World.block_lt_of_cell? W _ hcell2.out)).trans hcell2.out; have hcv : (convert 22 9 (.slice B m cap)).run Try.prog w4 = .ok (.string (St (ys.take m))) w4 := conv_rd (hq4.rd rfl Hrm.out); clear hq4 hf4)
          | (go_at_call 20; (with_reducible refine (Len_q Hq4.out L HL.out).mono ?_); rintro e w' ⟨rfl, rfl⟩)
          | (go_at_call 16; (with_reducible refine (Pop_q Hq4.out pk K HK.out).mono ?_); rintro e w6 ⟨sv6, g6, rfl, hB6, hg6, hq6, hf6, ho6⟩; have Hq6 := Lib.hid hq6; have hcv6 := conv_St hB6 HKL.out; clear hq6 hf6 ho6 hB6))
        exact ⟨⟨k + 1, _, _, _, _, by omega, by omega, by go_num, rfl, rfl, hU'l, HVV.out, Hq6.out⟩, by simp [intOf]; omega⟩
      · go_wp2_with fail
        go_quiet (fail)
        go_wp2_with (first
          | (go_at_call 14; (with_reducible refine (Push_q (Hq.out.drewN _) B nb cap m (ys.take nb) ((Hq.out.drewN _).rd rfl Hrn.out) hnc hcap Hm.out).mono ?_); rintro e w4 ⟨sv4, rfl, hq4, hf4⟩; rw [Htt.out, Hzs.out] at hq4; have Hq4 := Lib.hid hq4; have hcv : (convert 22 9 (.slice B m cap)).run Try.prog w4 = .ok (.string (St (ys.take m))) w4 := conv_rd (hq4.rd rfl Hrm.out); clear hq4 hf4)
          | (go_at_call 20; (with_reducible refine (Len_q Hq4.out L HL.out).mono ?_); rintro e w' ⟨rfl, rfl⟩))
        exact ⟨⟨k + 1, _, _, _, _, by omega, by omega, by go_num, rfl, rfl, hU'l, HVz.out, Hq4.out⟩, by simp [intOf]; omega⟩
    · have hx : (n1 ≤ k) ∨ (k < n1 ∧ 60 ≤ k) := by omega
      clear hlt
      have hxm := Hq.out.at_.2.2.1
      have HK : Hid ((max 0 (min (256 : Int) (xs.length : Nat))).toNat = xs.length) := show _ = _ by omega
      have htk : xs.take xs.length = xs := List.take_of_length_le (Nat.le_refl _)
      have hcat : St V ++ St xs = St U := by rw [St_append, HUV.out]
      have hsx : (St xs).size ≤ 255 := by rw [St_size]; omega
      have Htk := Lib.hid htk
      clear htk hxm
      rcases hx with hx | ⟨hx, hx2⟩
      all_goals
        go_wp2_with (first
          | (go_at_call 16; (with_reducible refine (Pop_q Hq.out 256 _ HK.out).mono ?_); rintro e w6 ⟨sv6, g6, rfl, hB6, hg6, hq6, hf6, ho6⟩; have Hq6 := Lib.hid hq6; have hcv6 := conv_St hB6 (Nat.le_refl _); rw [Htk.out] at hcv6; clear hq6 hf6 ho6 hB6)
          | (go_at_call 20; (with_reducible refine (Len_q Hq6.out 0 (by simp)).mono ?_); rintro e w' ⟨rfl, rfl⟩))
        go_ret
        exact ⟨rfl, Hq6.out.below⟩
end Go.Proofs.Ytfklllikihjjhaa
