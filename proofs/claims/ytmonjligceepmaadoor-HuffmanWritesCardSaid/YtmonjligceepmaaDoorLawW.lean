/- HuffmanWrites' walk: whatever the text, true. -/
import Derived.Test.YtmonjligceepmaaDoorREnc
import Derived.Deep.RegionWith
namespace Go.Proofs.YtmonjligceepmaaDoor
open Go.RowKit Go.Own Go.Huf
set_option linter.unusedVariables false

theorem octet_bits (l : List Bool) (h : l.length = 8) : bits8 [UInt8.ofNat (numB l)] = l := by
  have hl := numB_lt l
  rw [h] at hl
  have := bitsN_numB l
  rw [h] at this
  rw [bits8_cons, show bits8 [] = [] from rfl, List.append_nil, ofNat_toNat _ (by omega), this]
theorem pk_exists : ∀ (n : Nat) (bs : List Bool), bs.length ≤ n → ∃ xs, Pk bs xs
  | 0, bs, h => ⟨[], 0, by omega, by rw [List.eq_nil_of_length_eq_zero (by omega : bs.length = 0)]; rfl⟩
  | n + 1, bs, h => by
    by_cases h0 : bs.length = 0
    · exact ⟨[], 0, by omega, by rw [List.eq_nil_of_length_eq_zero h0]; rfl⟩
    · by_cases h8 : bs.length < 8
      · refine ⟨[UInt8.ofNat (numB (bs ++ List.replicate (8 - bs.length) true))], 8 - bs.length, by omega, octet_bits _ (by simp; omega)⟩
      · obtain ⟨xs, k, hk, e⟩ := pk_exists n (bs.drop 8) (by rw [List.length_drop]; omega)
        refine ⟨UInt8.ofNat (numB (bs.take 8)) :: xs, k, hk, ?_⟩
        rw [show UInt8.ofNat (numB (bs.take 8)) :: xs = [UInt8.ofNat (numB (bs.take 8))] ++ xs from rfl, bits8_append, octet_bits _ (by rw [List.length_take]; omega), e, ← List.append_assoc, List.take_append_drop]
theorem below_drew {B : Nat} {a w : World} (h : Below B a w) : Below B a w.drew := ⟨h.os, h.tape, h.output, h.size, h.block⟩
/-- the end of a law: its slot holds true -/
theorem ret_true {f : Func} {p : Nat} (hf : f.results = #[.tmp p]) {Q0 : Ending → World → Prop} {a : Act} {w : World} (h2 : a.tmps.getD p undef = .bool true) (hd : a.defers = []) (h : Q0 (.returned (.bool true)) w) : Code.wp Tryd.prog Code.ret (bodyPost Tryd.prog f Q0) a w :=
  wp_ret (bodyPost_ret (v := .bool true) (by rw [results_tmp hf, h2]) hd h)
theorem Encode_s (s : ByteArray) (ys : List UInt8) (N : Nat) (hN : ys.length = N) (hp : Pk (enc s.data.toList) ys) (w : World) (hC : Cnt w) (hs : s.size ≤ 16777216) :
    Calls Tryd.prog 17 #[.string s] w fun e w' => ∃ A c, e = .returned (.slice A N c) ∧ Below w.heap.size w w' ∧ Rd w' 1 A N (ys.map BV) ∧ (convert 31 9 (.slice A N c)).run Tryd.prog w' = .ok (.string (str ys)) w' := by
  refine (Encode_is s ys N hN hp w hC hs).mono ?_
  rintro e w' ⟨A, c, rfl, ho, hb⟩
  exact ⟨A, c, rfl, hb, Rd.of_own ho, conv_str (Rd.of_own ho)⟩

set_option maxRecDepth 100000 in
set_option maxHeartbeats 8000000 in
theorem writes_walk {s : ByteArray} {W : World} (hs : s.size ≤ maxLen) (hC : Cnt W) :
    Calls Tryd.prog 4 #[.string s] W fun e w' => e = .returned (.bool true) ∧ Below W.heap.size W w' := by
  unfold maxLen at hs
  have HC := Lib.hid hC
  clear hC
  by_cases hbig : 400 < s.size
  · go_enter Tryd.func4, Tryd.ntmps4
    go_wp2_with (first
      | (go_at_call 11; (with_reducible refine (shown_any _ HC.out).mono ?_); rintro e w1 ⟨rfl, hb1⟩; have H1 := Lib.hid hb1; clear hb1))
    go_ret
    exact ⟨rfl, H1.out⟩
  · obtain ⟨ys, hys⟩ := pk_exists _ (enc s.data.toList) (Nat.le_refl _)
    obtain ⟨N, hN⟩ : ∃ N, ((enc s.data.toList).length + 7) / 8 = N := ⟨_, rfl⟩
    have hyl : ys.length = N := by rw [hys.len, hN]
    have hL := enc_len_le s
    have hNb : N ≤ 2000 := by omega
    have HN := Lib.hid hN
    have Hys := Lib.hid hys
    have Hyl := Lib.hid hyl
    have h1 : s.size ≤ 1048576 := by omega
    have h2 : s.size ≤ 16777216 := by omega
    have h3 : s.size ≤ 140737488355328 := by omega
    clear hs hys hN hyl hL
    go_enter Tryd.func4, Tryd.ntmps4
    go_upto_region 4 with (first
      | (go_at_call 11; (with_reducible refine (shown_any _ HC.out).mono ?_); rintro e w1 ⟨rfl, hb1⟩; have H1 := Lib.hid hb1; clear hb1))
    have HI := Lib.hid (below_drew H1.out)
    go_region_with (first
      | (go_at_call 15; (with_reducible refine (Size_n s N HN.out _ (HC.out.below HI.out) h3).mono ?_); rintro e w2 ⟨rfl, hb2⟩; have HJ := Lib.hid (HI.out.trans (hb2.mono HI.out.size)); clear hb2 HI; have HI := HJ; clear HJ)
      | (go_at_call 16; (with_reducible refine (rSize_any s N HN.out _ h1).mono ?_); rintro e w2 ⟨rfl, hb2⟩; have HJ := Lib.hid (HI.out.trans (hb2.mono HI.out.size)); clear hb2 HI; have HI := HJ; clear HJ)
      | (go_at_call 17; (with_reducible refine (Encode_s s ys N Hyl.out Hys.out _ (HC.out.below HI.out) h2).mono ?_); rintro e w2 ⟨A, c, rfl, hb2, hr, hcv⟩; have HJ := Lib.hid (HI.out.trans (hb2.mono HI.out.size)); have HR := Lib.hid hr; clear hb2 HI hr; have HI := HJ; clear HJ)
      | (go_at_call 18; (with_reducible refine (rEncode_any s ys Hys.out _ h1).mono ?_); rintro e w2 ⟨rfl, hb2⟩; have HJ := Lib.hid (HI.out.trans (hb2.mono HI.out.size)); (try have hcv2 := fun c => conv_str (c := c) (HR.out.below hb2)); clear hb2 HI; have HI := HJ; clear HJ))
    all_goals
      simp only [Exit.then]
      refine ‹∀ (a : Act) (w : World), Code.wp Tryd.prog Code.ret _ a w → _› _ _ ?_
      refine ret_true (p := 2) rfl ?_ ?_ ⟨rfl, HI.out⟩
      · kernel_rfl
      · kernel_rfl
end Go.Proofs.YtmonjligceepmaaDoor
