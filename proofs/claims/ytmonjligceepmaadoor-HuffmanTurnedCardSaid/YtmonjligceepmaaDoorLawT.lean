/- HuffmanTurned's walk: whatever the text and the number, true. -/
import Derived.Test.YtmonjligceepmaaDoorLawS
import Derived.StillTailTactics
namespace Go.Proofs.YtmonjligceepmaaDoor
open Go.RowKit Go.Own Go.Huf
set_option linter.unusedVariables false

def turnOk (y l q : Nat) : Bool := !(y % 2 ^ l + 1 == 2 ^ l) || ((y ^^^ 2 ^ q == y - 2 ^ q) && ((y - 2 ^ q) / 2 ^ l == y / 2 ^ l) && !((y - 2 ^ q) % 2 ^ l + 1 == 2 ^ l))
theorem turn_ok : ∀ y, y < 256 → ∀ l, l < 8 → ∀ q, q < l → turnOk y l q = true := by decide +kernel
theorem turn_all (y : Nat) (hy : y < 256) (l : Nat) (hl : l < 8) (q : Nat) (hq : q < l) (h : y % 2 ^ l + 1 = 2 ^ l) : y ^^^ 2 ^ q = y - 2 ^ q ∧ (y - 2 ^ q) / 2 ^ l = y / 2 ^ l ∧ (y - 2 ^ q) % 2 ^ l + 1 ≠ 2 ^ l := by
  have := turn_ok y hy l hl q hq
  simpa [turnOk, h, and_assoc] using this
/-- the bits behind the turn: the text's, and some that are not all ones -/
theorem turned_bits (bs : List Bool) (ini : List UInt8) (y : UInt8) (l q : Nat) (h : bits8 (ini ++ [y]) = bs ++ List.replicate l true) (hl : l < 8) (hq : q < l) :
    y.toNat ^^^ 2 ^ q = y.toNat - 2 ^ q ∧ ∃ r, bits8 (ini ++ [UInt8.ofNat (y.toNat - 2 ^ q)]) = bs ++ r ∧ r.length = l ∧ false ∈ r := by
  have hy := y.toNat_lt
  have e8 : ∀ z, z < 256 → bits8 [UInt8.ofNat z] = bitsN (8 - l) (z / 2 ^ l) ++ bitsN l z := by
    intro z hz
    rw [bits8_cons, show bits8 [] = [] from rfl, List.append_nil, ofNat_toNat z hz]
    have := bitsN_add (8 - l) l z
    rwa [show 8 - l + l = 8 by omega] at this
  have ey : bits8 [y] = bitsN (8 - l) (y.toNat / 2 ^ l) ++ bitsN l y.toNat := by
    have := e8 y.toNat hy
    rwa [UInt8.ofNat_toNat] at this
  rw [bits8_append, ey, ← List.append_assoc] at h
  obtain ⟨h1, h2⟩ := List.append_inj' h (by rw [bitsN_length, List.length_replicate])
  have hon := (numB_ones (bitsN l y.toNat)).2 (fun b hb => by rw [h2] at hb; exact (List.mem_replicate.1 hb).2)
  rw [bitsN_length, numB_bitsN] at hon
  obtain ⟨t1, t2, t3⟩ := turn_all y.toNat hy l hl q hq hon
  refine ⟨t1, bitsN l (y.toNat - 2 ^ q), ?_, bitsN_length _ _, ?_⟩
  · rw [bits8_append, e8 _ (Nat.lt_of_le_of_lt (Nat.sub_le _ _) hy), t2, ← List.append_assoc, h1]
  · apply Classical.byContradiction
    intro hf
    have := (numB_ones (bitsN l (y.toNat - 2 ^ q))).2 (fun b hb => by
      cases b
      · exact absurd hb hf
      · rfl)
    rw [bitsN_length, numB_bitsN] at this
    exact t3 this
theorem dec_turned {t : List UInt8} {xs : List UInt8} {r : List Bool} (h : bits8 xs = enc t ++ r) (hr : r.length < 8) (hf : false ∈ r) (most : Int) (hm : ((t.length : Nat) : Int) < most) :
    dec (bits8 xs) most = .form ∨ ∃ u, dec (bits8 xs) most = .ok u ∧ u ≠ t := by
  rw [dec, h, decP_enc most t r [] (by simp; omega), List.nil_append]
  rcases decP_turned most r hr hf t hm with h1 | ⟨u, h1, h2⟩
  · exact .inl h1
  · exact .inr ⟨u, h1, by rintro rfl; omega⟩
/-- without its last octet it is not that text -/
theorem dec_cut {t xs : List UInt8} (h : Pk (enc t) xs) (hx : 0 < xs.length) (most : Int) : ∀ u, dec (bits8 (xs.take (xs.length - 1))) most = .ok u → u ≠ t := by
  rintro u hu rfl
  obtain ⟨t', k, ht, hk, hb⟩ := decP_ok most _ 0 0 [] _ WS.zero hu
  simp only [List.nil_append] at ht
  subst ht
  simp only [bitsN, List.nil_append] at hb
  have h1 := congrArg List.length hb
  obtain ⟨k2, hk2, e⟩ := h
  have h2 := congrArg List.length e
  rw [bits8_length, List.length_append, List.length_replicate] at h1 h2
  rw [List.length_take] at h1
  omega
theorem and_255 (a : Int) : ∃ m : Nat, Go.bits BinOp.and IntKind.i64 a 255 = (m : Int) ∧ m ≤ 255 := by
  refine ⟨(BitVec.ofInt 64 a &&& BitVec.ofInt 64 255).toNat, ?_, ?_⟩
  · have h7 : (BitVec.ofInt 64 a &&& BitVec.ofInt 64 255).toNat ≤ 255 := by rw [BitVec.toNat_and]; exact Nat.and_le_right
    have e : Go.bits .and .i64 a 255 = IntKind.i64.wrap ((BitVec.ofInt 64 a &&& BitVec.ofInt 64 255).toNat : Int) := rfl
    rw [e, IntKind.wrap_i64]; omega
  · rw [BitVec.toNat_and]; exact Nat.and_le_right
theorem Decode_w {w : World} {A : Option Addr} {len cap : Nat} {xs : List UInt8} {R0 : R} {v : Value} (hr : Rd w 1 A len (xs.map BV)) (hC : Cnt w) (hlc : len ≤ cap) (hcap : cap ≤ 9223372036854775807) (hlen : len ≤ 536870912) (most : Int) (hR : dec (bits8 xs) most = R0) (hv : resV R0 = v) :
    Calls Tryd.prog 19 #[.slice A len cap, .int .i64 most] w fun e w' => e = .returned v ∧ Below w.heap.size w w' := by
  subst hR hv
  exact Decode_any hr hC hlc hcap hlen most
/-- what the cut octets are read as: an error, or another text -/
theorem cut_shape {s : ByteArray} {R0 : R} (h : ∀ u, R0 = .ok u → u ≠ s.data.toList) : ∃ S E, resV R0 = .tuple #[.string S, .int .i64 E] ∧ ((E == 0) = false ∨ ((E == 0) = true ∧ (S.toList == s.toList) = false)) := by
  cases R0 with
  | ok u =>
    refine ⟨_, _, rfl, .inr ⟨rfl, ?_⟩⟩
    rw [ByteArray.toList_eq, ByteArray.toList_eq, beq_eq_false_iff_ne]
    intro e
    exact h u rfl (by simpa using e)
  | form => exact ⟨_, _, rfl, .inl rfl⟩
  | long => exact ⟨_, _, rfl, .inl rfl⟩

theorem set_last {xs : List UInt8} {p : Nat} {y : UInt8} (h : xs = xs.take p ++ [y]) (hl : (xs.take p).length = p) (v : Value) : (xs.map BV).set p v = (xs.take p).map BV ++ [v] := by
  generalize xs.take p = ini at h hl ⊢
  subst h
  rw [List.map_append, List.set_append_right _ _ (by simp [hl])]
  simp [hl]

set_option maxRecDepth 100000 in
set_option maxHeartbeats 4000000 in
theorem turned_walk {s : ByteArray} {W : World} (hs : s.size ≤ maxLen) {a1 : Int} (w1 : (Lit.int .i64 a1).wf = true) (hC : Cnt W) :
    Calls Tryd.prog 10 #[.string s, .int .i64 a1] W fun e w' => e = .returned (.bool true) ∧ Below W.heap.size W w' := by
  unfold maxLen at hs
  have HC := Lib.hid hC
  clear hC w1
  have hem := empty_bool s
  by_cases h0 : s.size = 0
  · have he : s.toList.isEmpty = true := by rw [hem]; simpa using h0
    clear hem h0
    go_enter Tryd.func10, Tryd.ntmps10
    go_wp2_with (first
      | (go_at_call 11; (with_reducible refine (shown_any _ HC.out).mono ?_); rintro e w1 ⟨rfl, hb1⟩; have H1 := Lib.hid hb1; clear hb1))
    go_ret
    exact ⟨rfl, H1.out⟩
  have he : s.toList.isEmpty = false := by rw [hem]; simpa using h0
  by_cases hbig : 100000 < s.size
  · clear hem h0
    go_enter Tryd.func10, Tryd.ntmps10
    go_wp2_with (first
      | (go_at_call 11; (with_reducible refine (shown_any _ HC.out).mono ?_); rintro e w1 ⟨rfl, hb1⟩; have H1 := Lib.hid hb1; clear hb1))
    go_ret
    exact ⟨rfl, H1.out⟩
  obtain ⟨L, hL⟩ : ∃ L, (enc s.data.toList).length = L := ⟨_, rfl⟩
  obtain ⟨N, hN⟩ : ∃ N, (L + 7) / 8 = N := ⟨_, rfl⟩
  obtain ⟨lf, hlf⟩ : ∃ lf, L + lf = 8 * N ∧ lf < 8 := ⟨8 * N - L, by omega⟩
  have hge := enc_ge s.data.toList
  have hLl := enc_len_le s
  rw [hL] at hLl hge
  rw [size_eq] at hge
  have hN1 : 1 ≤ N := by omega
  have hNb : N ≤ 400000 := by omega
  have hLb : L ≤ 3000000 := by omega
  have HL := Lib.hid hL
  have HN := Lib.hid (show ((enc s.data.toList).length + 7) / 8 = N by rw [hL]; exact hN)
  have hlz : 8 * (N : Int) - (L : Int) = (lf : Int) := by omega
  have hlf8 : lf < 8 := hlf.2
  have Hlf := Lib.hid hlf.1
  obtain ⟨m, hm, hm255⟩ := and_255 a1
  have Hm := Lib.hid hm
  have hN0 : ((N : Int) == 0) = false := by simp; omega
  clear hL hN hlf hLl hge hem h0 hm
  go_enter Tryd.func10, Tryd.ntmps10
  go_wp2_with (first
    | (go_at_call 11; (with_reducible refine (shown_any _ HC.out).mono ?_); rintro e w1 ⟨rfl, hb1⟩; have H1 := Lib.hid hb1; clear hb1))
  go_loopg [7, 6] s.size (fun gh i bt w' => ∃ k : Nat, gh + k = s.size ∧ i = .int .i64 (k : Int) ∧ bt = .int .i64 (((enc (s.data.toList.take k)).length : Nat) : Int) ∧ Below W.heap.size W w')
  case atStart => exact ⟨0, by omega, rfl, rfl, H1.out⟩
  case round =>
    obtain ⟨k, hk, rfl, rfl, hb⟩ := hrel
    have Hb := Lib.hid hb
    clear hb
    have hle := enc_le (s.data.toList.take k)
    have hkl : (s.data.toList.take k).length ≤ k := List.length_take_le _ _
    cases gk with
    | succ g1 =>
      have hlt : k < s.size := by omega
      obtain ⟨x, hx⟩ : ∃ x : UInt8, s[k] = x := ⟨_, rfl⟩
      have he2 := enc_take_len s k hlt
      rw [hx] at he2
      have He := Lib.hid he2
      have hcd := code_bd x
      have hxl := x.toNat_lt
      obtain ⟨c, n, hc⟩ : ∃ c n, code x.toNat = (c, n) := ⟨_, _, rfl⟩
      rw [hc] at hcd
      obtain ⟨L1, hL1⟩ : ∃ L1, (enc (s.data.toList.take k)).length = L1 := ⟨_, rfl⟩
      rw [hL1] at hle ⊢
      have hm1 := hcd.1
      have hm2 := hcd.2.1
      simp only at hm1 hm2
      have Hc := Lib.hid hc
      have HL1 := Lib.hid hL1
      clear he2 hL1 hcd hc hlz
      go_wp2_with (first
        | (go_at_call 12; (with_reducible refine (Code_n2 x.toNat c n (by omega) Hc.out _ (HC.out.below Hb.out)).mono ?_); rintro e w4 ⟨rfl, hb4⟩; have Hb4 := Lib.hid (Hb.out.trans (hb4.mono Hb.out.size)); clear hb4))
      go_roundg g1
      case measure => omega
      case rel => exact ⟨k + 1, by omega, by go_num, by rw [He.out, HL1.out, Hc.out]; go_num, Hb4.out⟩
    | zero =>
      obtain rfl : k = s.size := by omega
      have HT : Hid (s.data.toList.take s.size = s.data.toList) := List.take_of_length_le (by simp)
      rw [HT.out, HL.out]
      clear hle hkl
      go_upto_region 14 with (first
        | (go_at_call 17; (with_reducible refine (Encode_n s N HN.out _ (HC.out.below Hb.out) (by omega)).mono ?_); rintro e w2 ⟨A, c, xs, rfl, ho, hc1, hc2, hk2, hb2⟩; have H2 := Lib.hid (Hb.out.trans (hb2.mono Hb.out.size)); have Ho := Lib.hid ho; have Hk := Lib.hid hk2; clear hb2 ho hk2))
      have hxl : xs.length = N := by have := Ho.out.1; simpa using this
      obtain ⟨p, hp⟩ : ∃ p, N = p + 1 := ⟨N.pred, by cases N <;> simp_all⟩
      have hxp : xs.length - 1 = p := by omega
      obtain ⟨R1, hR1⟩ : ∃ R1, dec (bits8 (xs.take p)) (s.size : Int) = R1 := ⟨_, rfl⟩
      have hcut := dec_cut Hk.out (by omega) (s.size : Int)
      rw [hxp, hR1] at hcut
      obtain ⟨S1, E1, hv1, hne⟩ := cut_shape hcut
      have hr1 := (Rd.of_own Ho.out).take (k := p) (by omega)
      rw [Nat.mul_one, ← List.map_take] at hr1
      have Hr1 := Lib.hid hr1
      have HR1 := Lib.hid hR1
      have Hv1 := Lib.hid hv1
      have Hxl := Lib.hid hxl
      have hn1 : ((N : Int) - 1) = (p : Int) := by omega
      have hpN : p < N := by omega
      have Hp := Lib.hid hp
      clear hp hxp hcut hr1 hR1 hv1 hxl
      rcases Nat.eq_zero_or_pos lf with hz | hpos
      · subst hz
        rcases hne with hE | ⟨hE, hS⟩
        all_goals
          go_wp2_with (first
            | (go_at_call 19; (with_reducible refine (Decode_w Hr1.out (HC.out.below H2.out) (by omega) hc2 (by omega) _ HR1.out Hv1.out).mono ?_); rintro e w3 ⟨rfl, hb3⟩; have H3 := Lib.hid (H2.out.trans (hb3.mono H2.out.size)); clear hb3))
          go_ret
          exact ⟨rfl, H3.out⟩
      · have hlz0 : ((lf : Int) == 0) = false := by simp; omega
        rcases hne with hE | ⟨hE, hS⟩
        all_goals
          go_upto_region 19 with (first
            | (go_at_call 19; (with_reducible refine (Decode_w Hr1.out (HC.out.below H2.out) (by omega) hc2 (by omega) _ HR1.out Hv1.out).mono ?_); rintro e w3 ⟨rfl, hb3⟩; have H3 := Lib.hid (H2.out.trans (hb3.mono H2.out.size)); have Ho3 := Lib.hid (own_fr (S := fun i => w2.heap.size ≤ i) Ho.out (Fr.of_below hb3 (fun i _ h => h)) (fun g hg h => by have := own_lt Ho.out hg; omega)); clear hb3))
          obtain ⟨g, c', hA, hge, hlt⟩ := Ho3.out.form (by omega)
          simp only [Value.slice.injEq] at hA
          obtain ⟨rfl, _, rfl⟩ := hA
          obtain ⟨cur, hB, hnc, hcm, hcl, htk⟩ := own_blk Ho3.out
          rw [Nat.mul_one] at htk hcl
          have hNx : p < xs.length := by rw [Hxl.out]; omega
          obtain ⟨y, hy⟩ : ∃ y, xs[p]? = some y := ⟨_, List.getElem?_eq_getElem hNx⟩
          have hcy : cur[p]? = some (.int .u8 (y.toNat : Int)) := by
            have h1 : (cur.take N)[p]? = cur[p]? := by rw [List.getElem?_take, if_pos (by omega)]
            rw [← h1, htk, List.getElem?_map, hy]
            rfl
          have hcell := (hB.cell (p)).trans hcy
          have hfro := hB.frozen (p)
          have hxs : xs = xs.take (p) ++ [y] := by
            have h1 := List.take_add_one (l := xs) (i := p)
            rw [hy, show p + 1 = N from Hp.out.symm, List.take_of_length_le (by rw [Hxl.out]; exact Nat.le_refl _)] at h1
            exact h1
          obtain ⟨q, hq⟩ : ∃ q, m % lf = q := ⟨_, rfl⟩
          have hql : q < lf := by rw [← hq]; exact Nat.mod_lt _ hpos
          have hqz : ((m : Int) % (lf : Int)) = (q : Int) := by rw [← hq]; simp
          have hand := Hm.out
          obtain ⟨kx, hkx, hbx⟩ := Hk.out
          have hkl : kx = lf := by
            have := congrArg List.length hbx
            rw [bits8_length, List.length_append, List.length_replicate, HL.out, Hxl.out] at this
            have := Hlf.out
            omega
          rw [hkl, hxs] at hbx
          obtain ⟨t1, r, t2, t3, t4⟩ := turned_bits _ _ y lf q hbx hlf8 hql
          have HB := Lib.hid hB
          have Htk := Lib.hid htk
          have Hy := Lib.hid hy
          have Hxs := Lib.hid hxs
          have T2 := Lib.hid t2
          have T3 := Lib.hid t3
          have T4 := Lib.hid t4
          have T1 := Lib.hid t1
          have hyl := y.toNat_lt
          have i0 : (0 : Int) ≤ (p : Int) := by omega
          have i1 : (p : Int) < (N : Int) := by omega
          have i2 : ¬ lf = 0 := by omega
          have i7 : min q 8 = q := by omega
          have i8 : (0 : Int) ≤ (q : Int) := by omega
          have i9 : (IntKind.u64.wrap (q : Int)).toNat = q := by rw [IntKind.wrap_u64]; omega
          obtain ⟨pw, hpw⟩ : ∃ pw : Nat, 2 ^ q = pw := ⟨_, rfl⟩
          have hpwl : pw < 256 := by
            rw [← hpw]
            exact Nat.lt_of_lt_of_le (Nat.pow_lt_pow_right (by omega) (show q < 8 by omega)) (Nat.le_refl _)
          have i10 : IntKind.u8.wrap (2 ^ q) = (pw : Int) := by
            have e : ((2 : Int) ^ q) = (pw : Int) := by rw [← hpw]; simp
            rw [e, IntKind.wrap_u8]; omega
          obtain ⟨z, hz⟩ : ∃ z : Nat, y.toNat - pw = z := ⟨_, rfl⟩
          have i11 : Go.bits BinOp.xor IntKind.u8 (y.toNat : Int) (pw : Int) = (z : Int) := by
            rw [u8_xor_nat _ _ hyl hpwl, ← hz, ← hpw, t1]
          rw [hpw, hz] at t2
          have hzl : z < 256 := by omega
          have hbl := hB.set_ p (.int .u8 (z : Int))
          have how := own_of_blk (size := 1) (n := N) (cap := c) hbl (by rw [List.length_set, hcl, Nat.mul_one]) hnc hcm
          have hxs2 : (cur.set p (.int .u8 (z : Int))).take (N * 1) = (xs.take p ++ [UInt8.ofNat z]).map BV := by
            rw [Nat.mul_one, List.take_set, htk, List.map_append]
            have e1 := set_last hxs (by rw [List.length_take, Hxl.out]; omega) (.int .u8 (z : Int))
            rw [e1]
            simp [BV, ofNat_toNat z hzl]
          rw [hxs2] at how
          have hr5 := Rd.of_own how
          have hf5 : Fr (· = g) w3 ((w3.setCell ⟨g, p, none⟩ (.int .u8 (z : Int))).drew) := ((Fr.refl (· = g) w3).setCell (p := ⟨g, p, none⟩) (.inl rfl) _).drew
          have Hr5 := Lib.hid (show Rd ((w3.setCell ⟨g, p, none⟩ (.int .u8 (z : Int))).drew) 1 (some ⟨g, 0, none⟩) N ((xs.take p ++ [UInt8.ofNat z]).map BV) from hr5)
          have hge2 : W.heap.size ≤ g := by have := Hb.out.size; omega
          have H5 := Lib.hid (H3.out.trans (hf5.below H3.out.size (fun i _ e => e ▸ hge2)))
          obtain ⟨R2, hR2⟩ : ∃ R2, dec (bits8 (xs.take p ++ [UInt8.ofNat z])) ((s.size : Int) + 1) = R2 := ⟨_, rfl⟩
          have hturn := dec_turned t2 (by omega) t4 ((s.size : Int) + 1) (by rw [size_eq]; omega)
          rw [hR2] at hturn
          have HR2 := Lib.hid hR2
          clear hpw hz hbl how hxs2 hr5 hf5 hR2
          have i3 : (0 : Int) < (lf : Int) := by omega
          have i4 : IntKind.i64.wrap (p : Int) = (p : Int) := by rw [IntKind.wrap_i64]; omega
          have i5 : Int.tmod (m : Int) (lf : Int) = (q : Int) := by rw [Int.tmod_eq_emod_of_nonneg (by omega)]; exact hqz
          have i6 : IntKind.i64.wrap (q : Int) = (q : Int) := by rw [IntKind.wrap_i64]; omega
          clear hB htk hy hxs t1 t2 t3 t4 hq hkl hkx hbx hcy hcl hcm hlt
          rcases hturn with hform | ⟨u, hok, hne2⟩
          · subst hform
            have Hv2 : Hid (resV .form = .tuple #[.string ⟨#[]⟩, .int .i64 3]) := rfl
            go_still_tail 18, (by kernel_rfl)
            change wpList _ _ _ _ _ w3.drew
            go_wp2_with (first
              | (go_at_call 19; (with_reducible refine (Decode_w Hr5.out (HC.out.below H5.out) hnc hc2 (by omega) _ HR2.out Hv2.out).mono ?_); rintro e w6 ⟨rfl, hb6⟩; have H6 := Lib.hid (H5.out.trans (hb6.mono H5.out.size)); clear hb6))
            go_ret
            exact ⟨rfl, H6.out⟩
          · subst hok
            obtain ⟨S2, hS2⟩ : ∃ S2 : ByteArray, (⟨u.toArray⟩ : ByteArray) = S2 := ⟨_, rfl⟩
            have hv2 : resV (.ok u) = .tuple #[.string S2, .int .i64 0] := by rw [resV, hS2]
            have hs2 : (S2.toList == s.toList) = false := by
              rw [← hS2, ByteArray.toList_eq, ByteArray.toList_eq, beq_eq_false_iff_ne]
              intro e
              exact hne2 (by simpa using e)
            have hs3 : (S2.toList != s.toList) = true := by rw [bne, hs2]; rfl
            have Hv2 := Lib.hid hv2
            clear hne2 hS2 hv2
            go_still_tail 18, (by kernel_rfl)
            change wpList _ _ _ _ _ w3.drew
            go_wp2_with (first
              | (go_at_call 19; (with_reducible refine (Decode_w Hr5.out (HC.out.below H5.out) hnc hc2 (by omega) _ HR2.out Hv2.out).mono ?_); rintro e w6 ⟨rfl, hb6⟩; have H6 := Lib.hid (H5.out.trans (hb6.mono H5.out.size)); clear hb6))
            go_ret
            exact ⟨rfl, H6.out⟩
end Go.Proofs.YtmonjligceepmaaDoor
