/- OctetsPeeks's walk: whatever the input, true. -/
import Derived.Test.YtfklllikihjjhaaQB
namespace Go.Proofs.Ytfklllikihjjhaa
open Go.ChangeShapes Go.WideShapes Go.ChangeAt Go.RowKit Go.Own
set_option linter.unusedVariables false

theorem conv_take {W : World} {g K : Nat} {ys : List UInt8} {s : ByteArray} (h : Blk W g 5 ((ys.take K).map BV)) (hK : K ≤ ys.length) (hs : (⟨(ys.take K).toArray⟩ : ByteArray) = s) :
    (convert 22 9 (.slice (some ⟨g, 0, none⟩) K K)).run Try.prog W = .ok (.string s) W := by
  subst hs
  exact conv_blk h (by rw [List.length_take]; omega)

set_option maxHeartbeats 800000 in
theorem peeks_core {W : World} {A : Option Addr} {len M cap K : Nat} {ys : List UInt8} {n : Int} (hr : Rd W 1 A M (ys.map BV)) (hM : (2000 < len ∧ M = 2000) ∨ (len ≤ 2000 ∧ M = len)) (hlc : len ≤ cap) (hcap : cap ≤ 140737488351232)
    (hK : (max 0 (min n ys.length)).toNat = K) :
    Calls Try.prog 6 #[.slice A len cap, .int .i64 n] W fun e w' => e = .returned (.bool true) ∧ Below W.heap.size W w' := by
  have hM2 : M ≤ 2000 := by omega
  have hMc : M ≤ cap := by omega
  have hlen : ys.length = M := by simpa using hr.1
  have hK2 : K ≤ M := by omega
  have hm0 : min M (4000 - 0) = M := by omega
  have hn : (n < 0 ∧ K = 0) ∨ (0 ≤ n ∧ n ≤ (M : Int) ∧ (K : Int) = n) ∨ (0 ≤ n ∧ (M : Int) < n ∧ K = M) := by omega
  have hKr : (max 0 (min (4000 : Int) ((ys.drop K).length : Nat))).toNat = M - K := by rw [List.length_drop]; omega
  obtain ⟨sz, hsz⟩ : ∃ s, (⟨(ys.take K).toArray⟩ : ByteArray) = s := ⟨_, rfl⟩
  obtain ⟨sr, hsr⟩ : ∃ s, (⟨((ys.drop K).take (M - K)).toArray⟩ : ByteArray) = s := ⟨_, rfl⟩
  obtain ⟨sa, hsa⟩ : ∃ s, (⟨ys.toArray⟩ : ByteArray) = s := ⟨_, rfl⟩
  have hKy : K ≤ ys.length := by omega
  have hKy2 : M - K ≤ (ys.drop K).length := by rw [List.length_drop]; omega
  have hszl : sz.size = K := by rw [← hsz]; show (ys.take K).toArray.size = K; simp; omega
  have hsrl : sr.size = M - K := by rw [← hsr]; show ((ys.drop K).take (M - K)).toArray.size = M - K; simp; omega
  have hz1 : sz.size ≤ 2000 := by omega
  have hr1 : sr.size ≤ 2000 := by omega
  have hcat : sz ++ sr = sa := by
    rw [← hsz, ← hsr, ← hsa]
    apply ByteArray.ext
    rw [ByteArray.data_append]
    apply Array.toList_inj.1
    have e : (ys.drop K).take (M - K) = ys.drop K := List.take_of_length_le (by rw [List.length_drop]; omega)
    simp [e]
  have hcase : (n < 0 ∧ Hid (sz.toList.isEmpty = true)) ∨ (0 ≤ n ∧ n ≤ (M : Int) ∧ Hid ((sz.size : Int) = n)) ∨ (0 ≤ n ∧ (M : Int) < n ∧ Hid ((sz.size : Int) = M)) := by
    rcases hn with ⟨h1, h2⟩ | ⟨h1, h2, h3⟩ | ⟨h1, h2, h3⟩
    · refine .inl ⟨h1, ?_⟩
      show _ = _
      have : sz = ⟨#[]⟩ := by rw [← hsz, h2]; rfl
      rw [this, ByteArray.toList_eq]; rfl
    · exact .inr (.inl ⟨h1, h2, show _ = _ by omega⟩)
    · exact .inr (.inr ⟨h1, h2, show _ = _ by omega⟩)
  clear hszl hsrl
  have Hcat := Lib.hid hcat
  clear hcat
  have Hr := Lib.hid hr
  have Hlen := Lib.hid hlen
  have HK := Lib.hid hK
  have HKr := Lib.hid hKr
  have Hn := Lib.hid hn
  have Hsz := Lib.hid hsz
  have Hsr := Lib.hid hsr
  have Hsa := Lib.hid hsa
  have Hm0 := Lib.hid hm0
  have HKy2 := Lib.hid hKy2
  clear hr hlen hK hKr hn hsz hsr hsa hm0 hKy2
  rcases hcase with ⟨hn0, hx⟩ | ⟨hn0, hn1, hx⟩ | ⟨hn0, hn1, hx⟩
  all_goals
    have hxx := hx.out
    have hcc := Hcat.out
    clear hx
  all_goals
    rcases hM with ⟨hlt, rfl⟩ | ⟨hlt, rfl⟩
  all_goals
    go_enter Try.func6, Try.ntmps6
    go_wp2_with (first
      | (go_at_call 9; (with_reducible refine (shown_any _).mono ?_); rintro e w1 ⟨rfl, hb1⟩; have Hb1 := Lib.hid hb1; clear hb1)
      | (go_at_call 12; (with_reducible refine (New_q W.heap.size W w1 4000 4000 Hb1.out Hb1.out.size (by decide)).mono ?_); rintro e w2 ⟨p, rfl, hq2, _, _⟩; have Hq2 := Lib.hid hq2; clear hq2)
      | (go_at_call 14; (with_reducible refine (Push_q Hq2.out A _ cap _ ys (Hq2.out.rd rfl Hr.out) hMc (by omega) Hm0.out).mono ?_); rintro e w3 ⟨sv, rfl, hq3, hf3⟩; have Hq3 := Lib.hid hq3; clear hq3 hf3)
      | (go_at_call 18; (with_reducible refine (Peek_q Hq3.out n K (by rw [List.nil_append, List.length_take]; have := HK.out; have := Hlen.out; omega)).mono ?_); rintro e w4 ⟨g4, rfl, hB4, hg4, hq4, hb4⟩; rw [List.nil_append, List.take_of_length_le (Nat.le_of_eq Hlen.out)] at hB4 hq4; have hc4 := conv_take hB4 hKy Hsz.out; have Hq4 := Lib.hid hq4; clear hq4 hb4 hB4)
      | (go_at_call 18; (with_reducible refine (Peek_q Hq4.out n K HK.out).mono ?_); rintro e w5 ⟨g5, rfl, hB5, hg5, hq5, hb5⟩; have hc5 := conv_take hB5 hKy Hsz.out; have Hq5 := Lib.hid hq5; clear hq5 hb5 hB5)
      | (go_at_call 16; (with_reducible refine (Pop_q Hq5.out n K HK.out).mono ?_); rintro e w6 ⟨sv6, g6, rfl, hB6, hg6, hq6, hf6, ho6⟩; have hc6 := conv_take hB6 hKy Hsz.out; have Hq6 := Lib.hid hq6; clear hq6 hf6 ho6 hB6)
      | (go_at_call 16; (with_reducible refine (Pop_q Hq6.out 4000 _ HKr.out).mono ?_); rintro e w7 ⟨sv7, g7, rfl, hB7, hg7, hq7, hf7, ho7⟩; have hc7 := conv_take hB7 HKy2.out Hsr.out; have hc8 : (convert 22 9 (.slice A _ cap)).run Try.prog w7 = .ok (.string sa) w7 := (conv_rd (hq7.rd rfl Hr.out)).trans (by rw [Hsa.out]); have Hq7 := Lib.hid hq7; clear hq7 hf7 ho7 hB7))
    go_ret
    exact ⟨rfl, Hq7.out.below⟩

theorem peeks_walk {W : World} {A : Option Addr} {len cap : Nat} {xs : List UInt8} (hr : Rd W 1 A len (xs.map BV)) (hlc : len ≤ cap) (hcap : cap ≤ 140737488351232) {n : Int} (wn : (Lit.int .i64 n).wf = true) :
    Calls Try.prog 6 #[.slice A len cap, .int .i64 n] W fun e w' => e = .returned (.bool true) ∧ Below W.heap.size W w' := by
  have h := hr.take (k := min len 2000) (by omega)
  rw [Nat.mul_one, ← List.map_take] at h
  exact peeks_core (K := (max 0 (min n ((xs.take (min len 2000)).length : Nat))).toNat) h (by omega) hlc hcap rfl
end Go.Proofs.Ytfklllikihjjhaa
