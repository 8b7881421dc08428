/- The document's side of hpack: literal, an update, a field (over what the document's PutInt and PutText answer: CInt, CTxt, which rPutInt_n and rPutText_any of HRef2 give) · The contracts of the document's answer: begins, next · The contract of the document's Encode · The contract of the document's Decode · The document's answers for numbers: full, PutInt, GetInt · The document's answers for texts: PutText, GetText · The document's side of hpack: what its PutInt, PutText answer -/
import Derived.Test.YtinieljgcenemaaDoorG8
namespace Go.Proofs.YtinieljgcenemaaDoor
open Go.RowKit Go.Own Go.Tbl Go.Huf Go.Hin
set_option linter.unusedVariables false
attribute [local go_sem ↓] Go.wp_at_zero Go.wp_at_succ

/-- what the document's PutInt answers -/
abbrev CInt : Prop := ∀ (x m v : Nat) (_ : x < 256) (_ : 1 ≤ m) (_ : m ≤ 8) (_ : v ≤ 2147483647) (T : ByteArray) (_ : ofB (putB (2 ^ m - 1) (topOf x m) v) = T) (zx : Int) (_ : zx = (x : Int)) (z : Int) (_ : z = (m : Int)) (zv : Int) (_ : zv = (v : Int)) (w : World),
  Calls Tryd.prog 57 #[.int .u8 zx, .int .i64 z, .int .i64 zv] w fun e w' => e = .returned (.tuple #[.string T, .int .i64 0]) ∧ Below w.heap.size w w'
/-- what the document's PutText answers -/
abbrev CTxt : Prop := ∀ (s : ByteArray) (_ : s.size ≤ 1048576) (T : ByteArray) (_ : ofB (txt s) = T) (w : World),
  Calls Tryd.prog 74 #[.string s] w fun e w' => e = .returned (.string T) ∧ Below w.heap.size w w'
set_option maxRecDepth 100000 in
set_option maxHeartbeats 4000000 in
theorem r5lit (HI : CInt) (HT : CTxt) (first p i : Nat) (hx : first < 256) (h1 : 1 ≤ p) (h8 : p ≤ 8) (hi : i ≤ 2147483647) (f : Fld) (hn : f.n.size ≤ 1048576) (hv : f.v.size ≤ 1048576) (S : ByteArray) (hS : ofB (litB first p i f) = S)
    (zx : Int) (hzx : zx = (first : Int)) (z : Int) (hz : z = (p : Int)) (w : World) :
    Calls Tryd.prog 59 #[.int .u8 zx, .int .i64 z, .int .i64 (i : Int), .agg #[.string f.n, .string f.v, .bool f.nv]] w fun e w' => e = .returned (.string S) ∧ Below w.heap.size w w' := by
  obtain ⟨P1, hP1⟩ : ∃ P1, ofB (putB (2 ^ p - 1) (topOf first p) i) = P1 := ⟨_, rfl⟩
  obtain ⟨N1, hN1⟩ : ∃ N1, ofB (txt f.n) = N1 := ⟨_, rfl⟩
  obtain ⟨V1, hV1⟩ : ∃ V1, ofB (txt f.v) = V1 := ⟨_, rfl⟩
  have sP : P1.size ≤ 6 := by rw [← hP1, ofB_size]; exact putB_le _ _ _ hi
  have sN : N1.size ≤ 1048582 := by rw [← hN1, ofB_size]; have := txt_len f.n (by omega); omega
  have sV : V1.size ≤ 1048582 := by rw [← hV1, ofB_size]; have := txt_len f.v (by omega); omega
  have HI := Lib.hid HI
  have HT := Lib.hid HT
  have HP1 := Lib.hid hP1
  have HN1 := Lib.hid hN1
  have HV1 := Lib.hid hV1
  have Hzx := Lib.hid hzx
  have Hz := Lib.hid hz
  by_cases h0 : i = 0
  · have k0 : ((i : Int) == 0) = true := by simp; exact h0
    obtain ⟨Q1, hQ1⟩ : ∃ Q1, P1 ++ N1 = Q1 := ⟨_, rfl⟩
    have hcat : Q1 ++ V1 = S := by rw [← hQ1, ← hP1, ← hN1, ← hV1, ofB_append, ofB_append, ← hS, litB, if_pos h0, List.append_assoc]
    have sQ : Q1.size = P1.size + N1.size := by rw [← hQ1, ByteArray.size_append]
    clear hP1 hN1 hV1 hS hzx hz h0
    go_enter Tryd.func59, Tryd.ntmps59
    go_wp2_with (first
      | (go_at_call 57; (with_reducible refine (HI.out first p i hx h1 h8 hi P1 HP1.out zx Hzx.out z Hz.out _ rfl _).mono ?_); rintro e w2 ⟨rfl, hb2⟩
         have B2 := Lib.hid (((Below.refl w.heap.size w).alloc (Nat.le_refl _) _).trans (hb2.mono (by simp)))
         have X2 := (Blk.new w 38 [.string f.n, .string f.v, .bool f.nv]).below hb2 (by simp)
         have x0 : w2.cell? ⟨w.heap.size, 0, none⟩ = some (.string f.n) := X2.cell 0
         have X2 := Lib.hid X2
         clear hb2)
      | (go_at_call 74; (with_reducible refine (HT.out f.v hv V1 HV1.out _).mono ?_); rintro e w4 ⟨rfl, hb4⟩
         have B4 := Lib.hid (B3.out.trans (hb4.mono B3.out.size))
         clear hb4)
      | (go_at_call 74; (with_reducible refine (HT.out f.n hn N1 HN1.out _).mono ?_); rintro e w3 ⟨rfl, hb3⟩
         have B3 := Lib.hid (B2.out.trans (hb3.mono B2.out.size))
         have X3 := X2.out.below hb3 (Blk.lt X2.out)
         have x1 : w3.cell? ⟨w.heap.size, 1, none⟩ = some (.string f.v) := X3.cell 1
         clear hb3 X3 x0))
    go_ret
    exact ⟨rfl, B4.out⟩
  · have hcat : P1 ++ V1 = S := by rw [← hP1, ← hV1, ofB_append, ← hS, litB, if_neg h0, List.nil_append]
    have k0 : ((i : Int) == 0) = false := by simp; exact h0
    clear hP1 hN1 hV1 hS hzx hz
    go_enter Tryd.func59, Tryd.ntmps59
    go_wp2_with (first
      | (go_at_call 57; (with_reducible refine (HI.out first p i hx h1 h8 hi P1 HP1.out zx Hzx.out z Hz.out _ rfl _).mono ?_); rintro e w2 ⟨rfl, hb2⟩
         have B2 := Lib.hid (((Below.refl w.heap.size w).alloc (Nat.le_refl _) _).trans (hb2.mono (by simp)))
         have X2 := (Blk.new w 38 [.string f.n, .string f.v, .bool f.nv]).below hb2 (by simp)
         have x1 : w2.cell? ⟨w.heap.size, 1, none⟩ = some (.string f.v) := X2.cell 1
         clear hb2 X2)
      | (go_at_call 74; (with_reducible refine (HT.out f.v hv V1 HV1.out _).mono ?_); rintro e w4 ⟨rfl, hb4⟩
         have B4 := Lib.hid (B2.out.trans (hb4.mono B2.out.size))
         clear hb4))
    go_ret
    exact ⟨rfl, B4.out⟩
set_option maxRecDepth 100000 in
set_option maxHeartbeats 4000000 in
theorem r5upd (HI : CInt) {w : World} {p r h : Nat} {G : Nat → Prop} {l : List Fld} {v : Value} (t : RX w r G h l) (b : Blk w p 72 [.pointer (some ⟨r, 0, none⟩), v]) (n : Nat) (hn : n ≤ 65536) (S : ByteArray) (hS : ofB (updB n) = S) :
    Calls Tryd.prog 41 #[.pointer (some ⟨p, 0, none⟩), .int .i64 (n : Int)] w fun e w' => ∃ G', e = .returned (.string S) ∧ RX w' r G' n (pre n l) ∧ (∀ i, G' i → G i ∨ w.heap.size ≤ i) ∧ Fr G w w' := by
  have HI := Lib.hid HI
  have HS : Hid (ofB (putB (2 ^ 5 - 1) (topOf 32 5) n) = S) := Lib.hid hS
  have Ht := Lib.hid t
  have y0 : w.cell? ⟨p, 0, none⟩ = some (.pointer (some ⟨r, 0, none⟩)) := b.cell 0
  have Hc := Lib.hid (clampI_nat n hn)
  clear hS t b
  go_enter Tryd.func41, Tryd.ntmps41
  go_wp2_with (first
    | (go_at_call 50; (with_reducible refine (xrSetMax Ht.out (n : Int)).mono ?_); rintro e w2 ⟨G2, rfl, t2, hG2, f2⟩
       rw [Hc.out] at t2
       have T2 := Lib.hid t2
       have HG2 := Lib.hid hG2
       have F2 := Lib.hid f2
       clear t2 hG2 f2)
    | (go_at_call 57; (with_reducible refine (HI.out 32 5 n (by omega) (by omega) (by omega) (by omega) S HS.out 32 rfl 5 rfl _ rfl _).mono ?_); rintro e w3 ⟨rfl, b3⟩
       have B3 := Lib.hid b3
       clear b3))
  go_ret
  exact ⟨G2, rfl, T2.out.fr (Fr.of_below (S := fun i => w2.heap.size ≤ i) B3.out (fun _ _ h => h)) (fun i hi => by have := T2.out.lt i hi; omega), HG2.out, F2.out.trans (Fr.of_below (S := G) B3.out (fun i h1 h2 => by omega)) (fun _ _ h => h)⟩
end Go.Proofs.YtinieljgcenemaaDoor
namespace Go.Proofs.YtinieljgcenemaaDoor
open Go.RowKit Go.Own Go.Huf
set_option linter.unusedVariables false

/-- the bits r begin with the code of s -/
def beg (s : Nat) (r : List Bool) : Bool := (cbits s).isPrefixOf r
theorem beg_iff (s : Nat) (r : List Bool) : beg s r = true ↔ cbits s <+: r := List.isPrefixOf_iff_prefix
/-- a piece of a text of bits -/
theorem slice_beg (bs c : List Bool) (i n : Nat) (hc : c.length = n) (hle : i + n ≤ bs.length) :
    ((((bs.drop i).take n) == c) = c.isPrefixOf (bs.drop i)) := by
  rw [Bool.eq_iff_iff, beq_iff_eq, List.isPrefixOf_iff_prefix]
  constructor
  · intro h; rw [← h]; exact List.take_prefix _ _
  · rintro ⟨r, h⟩; rw [← h, List.take_append_of_le_length (by omega), List.take_of_length_le (by omega)]

theorem ext_eq (bs c : List Bool) (i n : Nat) : ((((bstr bs).extract i (i + n)).toList == (bstr c).toList)) = (((bs.drop i).take n) == c) := by
  have e1 : ((bstr bs).extract i (i + n)).toList = chs ((bs.drop i).take n) := by
    rw [ByteArray.toList_eq]
    simp [bstr, str, chs, List.map_take, List.map_drop]
  have e2 : (bstr c).toList = chs c := by rw [ByteArray.toList_eq, bstr, str_data]
  rw [e1, e2, Bool.eq_iff_iff, beq_iff_eq, beq_iff_eq]
  exact ⟨chs_inj, fun h => by rw [h]⟩
theorem not_beg (bs c : List Bool) (i n : Nat) (hc : c.length = n) (hi : i ≤ bs.length) (hle : ¬ i + n ≤ bs.length) : c.isPrefixOf (bs.drop i) = false := by
  rw [Bool.eq_false_iff]
  intro h
  rw [List.isPrefixOf_iff_prefix] at h
  have := h.length_le
  rw [List.length_drop] at this
  omega

set_option maxRecDepth 100000 in
set_option maxHeartbeats 4000000 in
theorem rBegins_any (bs c : List Bool) (i n B : Nat) (hn : c.length = n) (hB : bs.length = B) (h0 : 0 < n) (hn30 : n ≤ 30) (hi : i ≤ B) (hb : B ≤ 1048576) (r : Bool) (hr : c.isPrefixOf (bs.drop i) = r) (w : World) :
    Calls Tryd.prog 119 #[.string (bstr bs), .int .i64 (i : Int), .string (bstr c)] w fun e w' => e = .returned (.bool r) ∧ w = w' := by
  obtain ⟨T, hT⟩ : ∃ T, bstr bs = T := ⟨_, rfl⟩
  obtain ⟨S, hS⟩ : ∃ S, bstr c = S := ⟨_, rfl⟩
  have hTs : T.size = B := by rw [← hT, bstr_size, hB]
  have hSs : S.size = n := by rw [← hS, bstr_size, hn]
  rw [hT, hS]
  have HT := Lib.hid hT
  have HS := Lib.hid hS
  have Hr := Lib.hid hr
  have Hn := Lib.hid hn
  have HB := Lib.hid hB
  clear hT hS hr hn hB
  by_cases hle : i + n ≤ B
  · have hle2 : (n : Int) ≤ (B : Int) - (i : Int) := by omega
    go_enter Tryd.func119, Tryd.ntmps119
    go_wp2
    go_ret
    refine ⟨ret_bool ?_, rfl⟩
    rw [← HT.out, ← HS.out, ext_eq, slice_beg bs c i n Hn.out (by rw [HB.out]; exact hle), Hr.out]
  · have hle2 : ¬ (n : Int) ≤ (B : Int) - (i : Int) := by omega
    go_enter Tryd.func119, Tryd.ntmps119
    go_wp2
    go_ret
    refine ⟨ret_bool ?_, rfl⟩
    rw [← Hr.out, not_beg bs c i n Hn.out (by rw [HB.out]; exact hi) (by rw [HB.out]; exact hle)]

/-- the first symbol with whose code the bits begin -/
def nextS (r : List Bool) : Nat → Option Nat
  | 0 => none
  | k + 1 => if beg (257 - (k + 1)) r then some (257 - (k + 1)) else nextS r k
theorem nextS_none {r : List Bool} : ∀ k, k ≤ 257 → nextS r k = none → ∀ s, 257 - k ≤ s → s < 257 → ¬ cbits s <+: r
  | 0, _, _, s, h1, h2 => by omega
  | k + 1, hk, h, s, h1, h2 => by
    rw [nextS] at h
    split at h
    · cases h
    · rename_i hb
      by_cases e : s = 257 - (k + 1)
      · subst e
        rw [← beg_iff]
        exact hb
      · exact nextS_none k (by omega) h s (by omega) h2
theorem nextS_some {r : List Bool} {s : Nat} : ∀ k, k ≤ 257 → nextS r k = some s → s < 257 ∧ cbits s <+: r
  | k + 1, hk, h => by
    rw [nextS] at h
    split at h
    · rename_i hb
      injection h with h
      subst h
      exact ⟨by omega, (beg_iff _ _).1 hb⟩
    · exact nextS_some k (by omega) h
/-- its number; -1: none -/
def nextI (r : List Bool) (k : Nat) : Int := match nextS r k with
  | some s => s
  | none => -1

set_option maxRecDepth 100000 in
set_option maxHeartbeats 4000000 in
theorem rNext_any (bs : List Bool) (i B g c : Nat) (hB : bs.length = B) (hi : i ≤ B) (hb : B ≤ 1048576) (hc : 257 ≤ c) (q : Int) (hq : nextI (bs.drop i) 257 = q) (w : World) (hC : CodesAt w g) :
    Calls Tryd.prog 115 #[.string (bstr bs), .int .i64 (i : Int), .slice (some ⟨g, 0, none⟩) 257 c] w fun e w' => e = .returned (.int .i64 q) ∧ w = w' := by
  have HB := Lib.hid hB
  have Hq := Lib.hid hq
  have HC := Lib.hid hC
  clear hB hq hC
  go_enter Tryd.func115, Tryd.ntmps115
  go_wp2
  go_loopg [7] 257 (fun gh s w' => ∃ k : Nat, gh + k = 257 ∧ s = .int .i64 (k : Int) ∧ nextI (bs.drop i) gh = q ∧ w = w')
  case atStart => exact ⟨0, by omega, rfl, Hq.out, rfl⟩
  case round =>
    obtain ⟨k, hk, rfl, hn, rfl⟩ := hrel
    have Hn := Lib.hid hn
    clear hn
    cases gk with
    | succ g1 =>
      have hk257 : k < 257 := by omega
      have hcell := HC.out k hk257
      have hcs := code_sym k hk257
      obtain ⟨m, hm⟩ : ∃ m, (cbits k).length = m := ⟨_, rfl⟩
      have hm1 : 0 < m := by rw [← hm, cbits_length]; omega
      have hm30 : m ≤ 30 := by rw [← hm, cbits_length]; omega
      obtain ⟨r, hr⟩ : ∃ r, (cbits k).isPrefixOf (bs.drop i) = r := ⟨_, rfl⟩
      have hn := Hn.out
      rw [nextI, nextS, show 257 - (g1 + 1) = k by omega, beg, hr] at hn
      have Hm := Lib.hid hm
      have Hr := Lib.hid hr
      have Hn2 := Lib.hid hn
      clear hcs hm hr hn
      cases r with
      | true =>
        have hqk : q = (k : Int) := by have := Hn2.out; simpa using this.symm
        subst hqk
        go_wp2_with (first
          | (go_at_call 119; (with_reducible refine (rBegins_any bs (cbits k) i m B Hm.out HB.out hm1 hm30 hi hb true Hr.out _).mono ?_); rintro e w' ⟨rfl, rfl⟩))
        go_ret
        exact ⟨rfl, rfl⟩
      | false =>
        go_wp2_with (first
          | (go_at_call 119; (with_reducible refine (rBegins_any bs (cbits k) i m B Hm.out HB.out hm1 hm30 hi hb false Hr.out _).mono ?_); rintro e w' ⟨rfl, rfl⟩))
        go_roundg g1
        case measure => omega
        case rel => exact ⟨k + 1, by omega, by go_num, by have := Hn2.out; simpa [nextI] using this, rfl⟩
    | zero =>
      obtain rfl : k = 257 := by omega
      have hq1 : q = -1 := by have := Hn.out; simpa [nextI, nextS] using this.symm
      subst hq1
      go_wp2
      go_ret
      exact ⟨rfl, rfl⟩
end Go.Proofs.YtinieljgcenemaaDoor
namespace Go.Proofs.YtinieljgcenemaaDoor
open Go.RowKit Go.Own Go.Huf
set_option linter.unusedVariables false

theorem bstr_one (l : List Bool) : bstr l ++ ⟨#[49]⟩ = bstr (l ++ [true]) := by
  rw [bstr, bstr, chs_append, ← str_append]
  rfl

theorem bits8_at : ∀ (ys : List UInt8) (p j : Nat) (y : UInt8), ys[p]? = some y → j < 8 → (bits8 ys)[8 * p + j]? = some (y.toNat / 2 ^ (7 - j) % 2 == 1)
  | [], p, j, y, h, _ => by simp at h
  | x :: ys, 0, j, y, h, hj => by
    simp only [List.getElem?_cons_zero, Option.some.injEq] at h
    subst h
    rw [bits8_cons, Nat.mul_zero, Nat.zero_add, List.getElem?_append_left (by rw [bitsN_length]; exact hj)]
    have e : bitsN 8 x.toNat = bitsN j (x.toNat / 2 ^ (8 - j)) ++ bitsN (7 - j + 1) x.toNat := by
      have := bitsN_add j (8 - j) x.toNat
      rw [show j + (8 - j) = 8 by omega] at this
      rw [this, show 7 - j + 1 = 8 - j by omega]
    rw [e, bitsN_cons, List.getElem?_append_right (by rw [bitsN_length]; exact Nat.le_refl _), bitsN_length, Nat.sub_self]
    rfl
  | x :: ys, p + 1, j, y, h, hj => by
    rw [bits8_cons, List.getElem?_append_right (by rw [bitsN_length]; omega), bitsN_length, show 8 * (p + 1) + j - 8 = 8 * p + j by omega]
    exact bits8_at ys p j y (by simpa using h) hj
theorem bstr_get {l : List Bool} {T : ByteArray} (hT : bstr l = T) {i : Nat} {b : Bool} (hl : l[i]? = some b) (hi : i < T.size) : T[i]'hi = bch b := by
  subst hT
  have h : (bstr l).data.toList[i]? = some (bch b) := by rw [bstr, str_data, chs, List.getElem?_map, hl]; rfl
  have h2 : (bstr l).data.toList[i]? = some ((bstr l)[i]'hi) := by
    rw [List.getElem?_eq_getElem (by simpa using hi)]
    rfl
  rw [h] at h2
  exact (Option.some.inj h2).symm
theorem half_step (y j : Nat) (hj : j < 8) : y / 2 ^ (8 - (j + 1)) = 2 * (y / 2 ^ (8 - j)) + (y / 2 ^ (7 - j) % 2) := by
  rw [show 8 - (j + 1) = 7 - j by omega, show 8 - j = 7 - j + 1 by omega, Nat.pow_succ, ← Nat.div_div_eq_div_mul]
  omega

set_option maxRecDepth 100000 in
set_option maxHeartbeats 4000000 in
theorem rEncode_any (s : ByteArray) (ys : List UInt8) (hp : Pk (enc s.data.toList) ys) (w : World) (hs : s.size ≤ 1048576) : Calls Tryd.prog 91 #[.string s] w fun e w' => e = .returned (.string (str ys)) ∧ Below w.heap.size w w' := by
  obtain ⟨kk, hk8, hp⟩ := hp
  obtain ⟨bs, hbs⟩ : ∃ bs, enc s.data.toList = bs := ⟨_, rfl⟩
  have hL := enc_len_le s
  obtain ⟨B, hB⟩ : ∃ B, bs.length = B := ⟨_, rfl⟩
  rw [hbs] at hp hL
  rw [hB] at hL
  have hlen := congrArg List.length hp
  rw [bits8_length, List.length_append, List.length_replicate, hB] at hlen
  obtain ⟨Y, hY⟩ : ∃ Y, ys.length = Y := ⟨_, rfl⟩
  rw [hY] at hlen
  have hBb : B ≤ 30 * 1048576 := by omega
  have Hp := Lib.hid hp
  have Hbs := Lib.hid (show bstr (enc s.data.toList) = bstr bs by rw [hbs])
  have HB := Lib.hid hB
  have HY := Lib.hid hY
  have hYb : Y ≤ 4 * 1048576 := by omega
  have Hlen := Lib.hid hlen
  clear hp hbs hL hB hlen hY
  go_enter Tryd.func91, Tryd.ntmps91
  go_wp2_with (first
    | (go_at_call 102; (with_reducible refine (rSpelt_t s _ Hbs.out _ hs).mono ?_); rintro e w1 ⟨rfl, hb1⟩; have Hb1 := Lib.hid hb1; clear hb1))
  go_loopg [3] kk (fun gh t w' => ∃ j : Nat, gh + j = kk ∧ t = .string (bstr (bs ++ List.replicate j true)) ∧ w1 = w')
  case atStart => exact ⟨0, by omega, by simp, rfl⟩
  case round =>
    obtain ⟨j, hj, rfl, rfl⟩ := hrel
    obtain ⟨T, hT⟩ : ∃ T, bstr (bs ++ List.replicate j true) = T := ⟨_, rfl⟩
    have hTs : T.size = B + j := by rw [← hT, bstr_size, List.length_append, List.length_replicate, HB.out]
    rw [hT]
    have HT := Lib.hid hT
    clear hT
    cases gk with
    | succ g1 =>
      have hq : (((B : Int) + (j : Int)) % 8 != 0) = true := by
        have := Hlen.out
        simp; omega
      have hnov : ¬ 9223372036854775807 < B + j + (⟨#[49]⟩ : ByteArray).size := by
        have : (⟨#[49]⟩ : ByteArray).size = 1 := rfl
        omega
      go_wp2
      go_roundg g1
      case measure => omega
      case rel => exact ⟨j + 1, by omega, by rw [List.replicate_succ', ← List.append_assoc, ← bstr_one, HT.out], rfl⟩
    | zero =>
      obtain rfl : j = kk := by omega
      have hq : (((B : Int) + (j : Int)) % 8 != 0) = false := by
        have := Hlen.out
        simp; omega
      have hp := HT.out
      rw [← Hp.out] at hp
      have HT2 := Lib.hid hp
      clear hp
      go_wp2
      have hTs2 : T.size = 8 * Y := by have := Hlen.out; omega
      clear hTs hq HT
      go_loopg [5, 4] Y (fun gh i o w' => ∃ (p p8 : Nat) (A : Option Addr) (c : Nat), gh + p = Y ∧ p8 = 8 * p ∧ i = .int .i64 (p8 : Int) ∧ o = .slice A p c ∧ w'.ownsRow w1.heap.size 5 1 (.slice A p c) p ((ys.take p).map BV) ∧ Below w.heap.size w w' ∧ w1.heap.size ≤ w'.heap.size)
      case atStart => exact ⟨0, 0, _, 0, by omega, rfl, rfl, rfl, own_empty_b w1, Hb1.out.alloc Hb1.out.size _, by simp⟩
      case round =>
        obtain ⟨p, p8, A, c, hp, h8, rfl, rfl, ho, hb, hsz⟩ := hrel
        have Ho := Lib.hid ho
        have Hb := Lib.hid hb
        have H8 := Lib.hid h8
        cases gk with
        | succ g1 =>
          have hpY : p < Y := by omega
          have hpy : p < ys.length := by rw [HY.out]; exact hpY
          obtain ⟨y, hy⟩ : ∃ y, ys[p]? = some y := ⟨_, List.getElem?_eq_getElem hpy⟩
          have Hy := Lib.hid hy
          have hyl := y.toNat_lt
          have hlt8 : (p8 : Int) < 8 * (Y : Int) := by omega
          have hb8 : p8 + 8 ≤ 8 * Y := by omega
          clear ho hb h8 hy hpy
          go_wp2
          go_loopg [7, 6] 8 (fun gh i x w' => ∃ j : Nat, gh + j = 8 ∧ i = .int .i64 (j : Int) ∧ x = .int .u8 ((y.toNat / 2 ^ (8 - j) : Nat) : Int) ∧ wr = w')
          case atStart =>
            refine ⟨0, by omega, rfl, ?_, rfl⟩
            rw [Nat.sub_zero, Nat.div_eq_of_lt (by omega)]
            rfl
          case round =>
            obtain ⟨j, hj, rfl, rfl, rfl⟩ := hrel
            cases gk with
            | succ g2 =>
              have hj8 : j < 8 := by omega
              have hgt := bstr_get HT2.out (bits8_at ys p j y Hy.out hj8) (by omega)
              obtain ⟨bt, hbt⟩ : ∃ bt : Nat, y.toNat / 2 ^ (7 - j) % 2 = bt := ⟨_, rfl⟩
              have hb1 : bt ≤ 1 := by omega
              have hhs := half_step y.toNat j hj8
              rw [hbt] at hgt hhs
              have hlt := Nat.div_le_self y.toNat (2 ^ (8 - (j + 1)))
              obtain ⟨xv, hxv⟩ : ∃ xv, y.toNat / 2 ^ (8 - j) = xv := ⟨_, rfl⟩
              rw [hxv] at hhs ⊢
              have hxb : 2 * xv + bt ≤ 255 := by omega
              have hbch := bit_ch bt hb1
              have hi : p8 + j < T.size := by omega
              have hgt2 : T[p8 + j]'hi = bch (bt == 1) := by
                have : 8 * p + j = p8 + j := by rw [H8.out]
                simp only [this] at hgt
                exact hgt
              obtain ⟨ch, hch⟩ : ∃ ch : UInt8, bch (bt == 1) = ch := ⟨_, rfl⟩
              rw [hch] at hgt2 hbch
              have hcv : (ch.toNat : Int) = 48 + (bt : Int) := hbch.symm
              have Hhs := Lib.hid hhs
              clear hgt hbt hhs hlt hxv hbch hch
              go_wp2
              go_roundg g2
              case measure => omega
              case rel => exact ⟨j + 1, by omega, by go_num, by rw [Hhs.out]; congr 1; omega, rfl⟩
            | zero =>
              obtain rfl : j = 8 := by omega
              rw [show y.toNat / 2 ^ (8 - 8) = y.toNat by simp]
              have hown := own_alloc Ho.out (.cells #[.int .u8 (y.toNat : Int)] 5)
              have Hown := Lib.hid hown
              clear hown
              go_wp2_with (first
                | (at_builtin
                   refine wpList_append_rd rfl (.tmp 36) (.tmp 38) 29 rfl E31 (.slice A p c) p ((ys.take p).map BV) rfl Hown.out (some ⟨wr.heap.size, 0, none⟩) 1 1 _ rfl (rd_lit1 wr 5 _) (one_lit1 _ _) (by omega) (by unfold maxLen; omega) (by simp; omega) ?_
                   intro A' c' w4 ho4 hf4 ho2
                   have Ho4 := Lib.hid ho4
                   have Hf4 := Lib.hid (((Fr.refl _ _).alloc _).trans hf4 (fun i _ h => h))
                   clear ho4 hf4 ho2))
              go_roundg g1
              case measure => omega
              case rel =>
                have hge1 : ∀ i, some i = (Value.slice A p c).ownBlock → w1.heap.size ≤ i := fun i e => (Ho.out.lt i e.symm).1
                have hw1 := Hb1.out.size
                refine ⟨p + 1, p8 + 8, A', c', by omega, by rw [H8.out]; omega, by go_num, rfl, ?_, Hb.out.trans (Hf4.out.below Hb.out.size (fun i _ e => by have := hge1 _ e; omega)), Nat.le_trans hsz Hf4.out.size⟩
                rw [List.take_add_one, Hy.out]
                simp only [Option.toList, List.map_append]
                exact Ho4.out
        | zero =>
          obtain rfl : p = Y := by omega
          have hty : ys.take p = ys := List.take_of_length_le (by rw [HY.out]; exact Nat.le_refl _)
          rw [hty] at ho
          have hcv := conv_str (c := c) (Rd.of_own ho)
          have hge8 : 8 * (p : Int) ≤ (p8 : Int) := by omega
          clear hty ho hb h8 Ho
          go_wp2
          go_ret
          exact ⟨rfl, Hb.out⟩
end Go.Proofs.YtinieljgcenemaaDoor
namespace Go.Proofs.YtinieljgcenemaaDoor
open Go.RowKit Go.Own Go.Huf
set_option linter.unusedVariables false

theorem bits8_take (xs : List UInt8) (k : Nat) (x : UInt8) (h : xs[k]? = some x) : bits8 (xs.take (k + 1)) = bits8 (xs.take k) ++ bitsN 8 x.toNat := by
  rw [List.take_add_one, h, bits8_append]
  simp [bits8]
/-- Bits of an octet, its answer named -/
theorem rBits_8 (x : UInt8) (w : World) : Calls Tryd.prog 114 #[.int .u32 (x.toNat : Int), .int .i64 8] w fun e w' => e = .returned (.string (str (chs (bitsN 8 x.toNat)))) ∧ Below w.heap.size w w' :=
  rBits_any x.toNat 8 w (by have := x.toNat_lt; omega) (by omega)
theorem str_get (xs : List UInt8) (k : Nat) (x : UInt8) (h : xs[k]? = some x) (hk : k < (str xs).size) : (str xs)[k]'hk = x := by
  have h2 : (str xs).data.toList[k]? = some ((str xs)[k]'hk) := by
    rw [List.getElem?_eq_getElem (by simpa using hk)]
    rfl
  rw [str_data, h] at h2
  exact (Option.some.inj h2).symm

theorem rNext_T (bs : List Bool) (T : ByteArray) (hT : bstr bs = T) (i B g c : Nat) (hB : bs.length = B) (hi : i ≤ B) (hb : B ≤ 1048576) (hc : 257 ≤ c) (q : Int) (hq : nextI (bs.drop i) 257 = q) (w : World) (hC : CodesAt w g) :
    Calls Tryd.prog 115 #[.string T, .int .i64 (i : Int), .slice (some ⟨g, 0, none⟩) 257 c] w fun e w' => e = .returned (.int .i64 q) ∧ w = w' := by
  subst hT
  exact rNext_any bs i B g c hB hi hb hc q hq w hC
theorem all_take {bs : List Bool} {p i : Nat} (h : ∀ j, p ≤ j → j < i → bs[j]? = some true) (hi : bs.length ≤ i) : ∀ b ∈ bs.drop p, b = true := by
  intro b hb
  obtain ⟨j, hj, e⟩ := List.getElem_of_mem hb
  rw [List.length_drop] at hj
  have := h (p + j) (by omega) (by omega)
  rw [List.getElem_drop] at e
  rw [List.getElem?_eq_getElem (by omega), e] at this
  exact Option.some.inj this
theorem not_all {bs : List Bool} {p i : Nat} (h : bs[i]? = some false) (hp : p ≤ i) : ¬ ∀ b ∈ bs.drop p, b = true := by
  intro ha
  have hi : i < bs.length := by
    rcases Nat.lt_or_ge i bs.length with h1 | h1
    · exact h1
    · rw [List.getElem?_eq_none h1] at h; cases h
  have hm : false ∈ bs.drop p := by
    refine List.mem_iff_getElem?.2 ⟨i - p, ?_⟩
    rw [List.getElem?_drop, show p + (i - p) = i by omega, h]
  have := ha _ hm
  cases this

set_option maxRecDepth 100000 in
set_option maxHeartbeats 8000000 in
theorem rDecode_any (xs : List UInt8) (n0 : Nat) (hn0 : xs.length = n0) (hn : n0 ≤ 1000) (most : Int) (R0 : R) (hR0 : dec (bits8 xs) most = R0) (w : World) :
    Calls Tryd.prog 106 #[.string (str xs), .int .i64 most] w fun e w' => e = .returned (resV R0) ∧ Below w.heap.size w w' := by
  obtain ⟨s, hs⟩ : ∃ s, str xs = s := ⟨_, rfl⟩
  have hsz : s.size = n0 := by rw [← hs, str_size, hn0]
  rw [hs]
  have Hs := Lib.hid hs
  have Hn0 := Lib.hid hn0
  have HR0 := Lib.hid hR0
  clear hs hn0 hR0
  go_enter Tryd.func106, Tryd.ntmps106
  go_wp2
  go_loopg [6, 7] n0 (fun gh o i w' => ∃ (k : Nat) (A : Option Addr) (n c : Nat), gh + k = n0 ∧ n = 8 * k ∧ o = .slice A n c ∧ i = .int .i64 (k : Int) ∧ w'.ownsRow w.heap.size 5 1 (.slice A n c) n ((chs (bits8 (xs.take k))).map BV) ∧ Below w.heap.size w w')
  case atStart => exact ⟨0, _, 0, 0, by omega, rfl, rfl, rfl, own_empty_b w, (Below.refl _ _).alloc (Nat.le_refl _) _⟩
  case round =>
    obtain ⟨k, A, n, c, hk, hnk, rfl, rfl, ho, hb⟩ := hrel
    have Ho := Lib.hid ho
    have Hb := Lib.hid hb
    have Hnk := Lib.hid hnk
    have hnb : n ≤ 8000 := by omega
    clear ho hb hnk
    cases gk with
    | succ g1 =>
      have hkn : k < n0 := by omega
      have hkx : k < xs.length := by rw [Hn0.out]; exact hkn
      obtain ⟨x, hx⟩ : ∃ x, xs[k]? = some x := ⟨_, List.getElem?_eq_getElem hkx⟩
      have hki : k < s.size := by rw [hsz]; exact hkn
      have hsx : s[k]'hki = x := by
        have := str_get xs k x hx (by rw [Hs.out]; exact hki)
        simpa [Hs.out] using this
      have Hx := Lib.hid hx
      have hxl := x.toNat_lt
      clear hx hkx
      go_wp2_with (first
        | (go_at_call 114; (with_reducible refine (rBits_8 x _).mono ?_); rintro e w2 ⟨rfl, hb2⟩; have Hb2 := Lib.hid (Hb.out.trans (hb2.mono Hb.out.size)); have Ho2 := Lib.hid (own_fr (S := fun i => wr.heap.size ≤ i) Ho.out (Fr.of_below hb2 (fun i _ h => h)) (fun g hg h => by have := own_lt Ho.out hg; omega)); clear hb2)
        | (at_builtin
           refine wpList_append_str rfl (.tmp 21) (.tmp 26) rfl (.slice A n c) n (chs (bits8 (xs.take k))) rfl Ho2.out (chs (bitsN 8 x.toNat)) 8 rfl (by rw [chs_length, bitsN_length]) (by omega) Hb2.out.size ?_
           intro A4 c4 w4 ho4 hf4
           have Ho4 := Lib.hid ho4
           have Hf4 := Lib.hid hf4
           clear ho4 hf4))
      go_roundg g1
      case measure => omega
      case rel =>
        have hge1 : ∀ i, some i = (Value.slice A n c).ownBlock → w.heap.size ≤ i := fun i e => (Ho.out.lt i e.symm).1
        refine ⟨k + 1, A4, n + 8, c4, by omega, by rw [Hnk.out]; omega, rfl, by go_num, ?_, Hb2.out.trans (Hf4.out.below Hb2.out.size (fun i _ e => hge1 _ e))⟩
        rw [bits8_take xs k x Hx.out, chs_append]
        exact Ho4.out
    | zero =>
      obtain rfl : k = n0 := by omega
      have htk : xs.take k = xs := List.take_of_length_le (by rw [Hn0.out]; exact Nat.le_refl _)
      have ho := Ho.out
      rw [htk] at ho
      have hcv := conv_str (c := c) (Rd.of_own ho)
      obtain ⟨bs, hbs⟩ : ∃ bs, bits8 xs = bs := ⟨_, rfl⟩
      obtain ⟨T, hT⟩ : ∃ T, bstr bs = T := ⟨_, rfl⟩
      have hcvT : str (chs (bits8 xs)) = T := by rw [hbs]; exact hT
      rw [hcvT] at hcv
      have hBl : bs.length = n := by rw [← hbs, bits8_length, Hn0.out, Hnk.out]
      have hTs : T.size = n := by rw [← hT, bstr_size, hBl]
      have hdec := HR0.out
      rw [hbs, dec] at hdec
      have Hdec := Lib.hid hdec
      have HBl := Lib.hid hBl
      have HT := Lib.hid hT
      have Hbs := Lib.hid hbs
      clear htk ho hbs hT hcvT hBl hdec Ho HR0
      go_wp2_with (first
        | (go_at_call 109; (with_reducible refine (rCodes_any _).mono ?_); rintro e w1 ⟨g, cc, rfl, hc257, hC, hge, hb1⟩; have HC := Lib.hid hC; have Hb1 := Lib.hid (Hb.out.trans (hb1.mono Hb.out.size)); clear hC hb1))
      go_loopg [10, 11] (n + 1) (fun gh o p w' => ∃ (at' : Nat) (A2 : Option Addr) (k2 c2 : Nat) (acc : List UInt8), gh + at' = n + 1 ∧ at' ≤ n ∧ p = .int .i64 (at' : Int) ∧ o = .slice A2 k2 c2 ∧ k2 ≤ at' ∧ decP most (bs.drop at') 0 0 acc = R0 ∧
        w'.ownsRow w1.heap.size 5 1 (.slice A2 k2 c2) k2 (acc.map BV) ∧ CodesAt w' g ∧ Below w.heap.size w w' ∧ w1.heap.size ≤ w'.heap.size)
      case atStart => exact ⟨0, _, 0, 0, [], by omega, by omega, rfl, rfl, by omega, Hdec.out, own_empty_b w1, HC.out.fr (S := fun _ => False) ((Fr.refl _ _).alloc _) (fun h => h), Hb1.out.alloc Hb1.out.size _, by simp⟩
      case round =>
        obtain ⟨at', A2, k2, c2, acc, hg, hat, rfl, rfl, hk2, hd, ho, hC, hb, hsz2⟩ := hrel
        have HC2 := Lib.hid hC
        have Hb2 := Lib.hid hb
        have Ho2 := Lib.hid ho
        have hgl := HC.out.lt
        have hacc : acc.length = k2 := by have := ho.1; simpa using this
        have Hacc := Lib.hid hacc
        have hrl : (bs.drop at').length = n - at' := by rw [List.length_drop, HBl.out]
        have Hrl := Lib.hid hrl
        have hnn := nextS_none (r := bs.drop at') 257 (by omega)
        have hns := fun s => nextS_some (r := bs.drop at') (s := s) 257 (by omega)
        have hw1 := Hb1.out.size
        have Hgl := Lib.hid hgl
        have Hw1 := Lib.hid hw1
        clear hC hb ho hacc hrl hgl hw1
        cases hnx : nextS (bs.drop at') 257 with
        | none =>
          have hq : nextI (bs.drop at') 257 = -1 := by rw [nextI, hnx]
          have hn1 := decP_none most acc (bs.drop at') (fun s hs => hnn hnx s (by omega) hs)
          rw [hd] at hn1
          have Hq := Lib.hid hq
          have Hn1 := Lib.hid hn1
          clear hnn hns hnx hq hn1 hd
          by_cases h8 : 8 ≤ n - at'
          · have h8' : (8 : Int) ≤ (n : Int) - (at' : Int) := by omega
            have hR : R0 = .form := by rw [Hn1.out, if_neg (by rw [Hrl.out]; omega)]
            subst hR
            go_wp2_with (first
              | (go_at_call 115; (with_reducible refine (rNext_T bs T HT.out at' n g cc HBl.out hat (by omega) hc257 (-1) Hq.out _ HC2.out).mono ?_); rintro e w' ⟨rfl, rfl⟩))
            go_ret2
            exact ⟨rfl, Hb2.out⟩
          · have h8' : ¬ (8 : Int) ≤ (n : Int) - (at' : Int) := by omega
            have hcv2 := conv_str (c := c2) (Rd.of_own Ho2.out)
            go_wp2_with (first
              | (go_at_call 115; (with_reducible refine (rNext_T bs T HT.out at' n g cc HBl.out hat (by omega) hc257 (-1) Hq.out _ HC2.out).mono ?_); rintro e w' ⟨rfl, rfl⟩))
            go_loopg [13] (n - at') (fun gh i w' => ∃ j : Nat, gh + j = n ∧ at' ≤ j ∧ i = .int .i64 (j : Int) ∧ (∀ t, at' ≤ t → t < j → bs[t]? = some true) ∧ wr = w')
            case atStart => exact ⟨at', by omega, by omega, rfl, fun t h1 h2 => by omega, rfl⟩
            case round =>
              obtain ⟨j, hj, haj, rfl, hall, rfl⟩ := hrel
              have Hall := Lib.hid hall
              clear hall
              cases gk with
              | succ g2 =>
                have hjn : j < n := by omega
                obtain ⟨b, hbj⟩ : ∃ b, bs[j]? = some b := ⟨_, List.getElem?_eq_getElem (by rw [HBl.out]; exact hjn)⟩
                have hjT : j < T.size := by omega
                have hget := bstr_get HT.out hbj hjT
                have Hbj := Lib.hid hbj
                clear hbj
                cases b with
                | false =>
                  have hR : R0 = .form := by rw [Hn1.out, if_neg (fun h => not_all Hbj.out haj h.2)]
                  subst hR
                  have hget2 : T[j]'hjT = 48 := hget
                  clear hget
                  go_wp2
                  go_ret2
                  exact ⟨rfl, Hb2.out⟩
                | true =>
                  have hget2 : T[j]'hjT = 49 := hget
                  clear hget
                  go_wp2
                  go_roundg g2
                  case measure => omega
                  case rel =>
                    refine ⟨j + 1, by omega, by omega, by go_num, fun t h1 h2 => ?_, rfl⟩
                    by_cases e : t = j
                    · subst e; exact Hbj.out
                    · exact Hall.out t h1 (by omega)
              | zero =>
                obtain rfl : j = n := by omega
                have hR : R0 = .ok acc := by rw [Hn1.out, if_pos ⟨by rw [Hrl.out]; omega, all_take Hall.out (by rw [HBl.out]; exact Nat.le_refl _)⟩]
                subst hR
                go_wp2
                go_ret2
                exact ⟨rfl, Hb2.out⟩
        | some s1 =>
          obtain ⟨hs1, rest, hrest⟩ := hns s1 hnx
          have hq : nextI (bs.drop at') 257 = (s1 : Int) := by rw [nextI, hnx]
          have hcode := decP_code most s1 hs1 rest acc
          rw [hrest, hd] at hcode
          have hcs := code_sym s1 hs1
          obtain ⟨m, hm⟩ : ∃ m, (cbits s1).length = m := ⟨_, rfl⟩
          have hm5 : 5 ≤ m := by rw [← hm, cbits_length]; omega
          have hlen := congrArg List.length hrest
          rw [List.length_append, hm, Hrl.out] at hlen
          have hrest2 : bs.drop (at' + m) = rest := by
            rw [← List.drop_drop, ← hrest, ← hm, List.drop_left]
          have Hq := Lib.hid hq
          have Hcode := Lib.hid hcode
          have Hrest := Lib.hid hrest2
          have hcell := HC2.out s1 hs1
          obtain ⟨S, hS⟩ : ∃ S, bstr (cbits s1) = S := ⟨_, rfl⟩
          have hSs : S.size = m := by rw [← hS, bstr_size, hm]
          rw [hS] at hcell
          have hle2 : at' + m ≤ n := by omega
          clear hnn hns hnx hq hcode hcs hm hlen hrest hrest2 hd hS
          by_cases h256 : s1 = 256
          · subst h256
            have hR : R0 = .form := by rw [Hcode.out, if_pos rfl]
            subst hR
            go_wp2_with (first
              | (go_at_call 115; (with_reducible refine (rNext_T bs T HT.out at' n g cc HBl.out hat (by omega) hc257 _ Hq.out _ HC2.out).mono ?_); rintro e w' ⟨rfl, rfl⟩))
            go_ret2
            exact ⟨rfl, Hb2.out⟩
          · have hsb : ((s1 : Int) == 256) = false := by simp; omega
            have hs256 : s1 < 256 := by omega
            by_cases hm2 : most ≤ (k2 : Int)
            · have hR : R0 = .long := by rw [Hcode.out, if_neg h256, Hacc.out, if_pos hm2]
              subst hR
              clear h256
              go_wp2_with (first
                | (go_at_call 115; (with_reducible refine (rNext_T bs T HT.out at' n g cc HBl.out hat (by omega) hc257 _ Hq.out _ HC2.out).mono ?_); rintro e w' ⟨rfl, rfl⟩))
              go_ret2
              exact ⟨rfl, Hb2.out⟩
            · have hR : decP most rest 0 0 (acc ++ [UInt8.ofNat s1]) = R0 := by rw [Hcode.out, if_neg h256, Hacc.out, if_neg hm2]
              have HR := Lib.hid hR
              have hown := own_alloc Ho2.out (.cells #[.int .u8 (s1 : Int)] 5)
              have Hown := Lib.hid hown
              clear h256 hR hown
              go_wp2_with (first
                | (go_at_call 115; (with_reducible refine (rNext_T bs T HT.out at' n g cc HBl.out hat (by omega) hc257 _ Hq.out _ HC2.out).mono ?_); rintro e w' ⟨rfl, rfl⟩)
                | (at_builtin
                   refine wpList_append_rd rfl (.tmp 44) (.tmp 47) 29 rfl E31 (.slice A2 k2 c2) k2 (acc.map BV) rfl Hown.out (some ⟨wr.heap.size, 0, none⟩) 1 1 _ rfl (rd_lit1 wr 5 _) (one_lit1 _ _) (by omega) (by unfold maxLen; omega) (by simp; omega) ?_
                   intro A4 c4 w4 ho4 hf4 ho2
                   have hy : Value.int .u8 (s1 : Int) = BV (UInt8.ofNat s1) := by rw [BV, ofNat_toNat _ hs256]
                   rw [hy] at ho4
                   have Ho4 := Lib.hid ho4
                   have hf5 := ((Fr.refl (fun i => some i = (Value.slice A2 k2 c2).ownBlock) wr).alloc (.cells #[.int .u8 (s1 : Int)] 5)).trans hf4 (fun i _ h => h)
                   have Hf5 := Lib.hid hf5
                   have hge1 : ∀ i, some i = (Value.slice A2 k2 c2).ownBlock → w1.heap.size ≤ i := fun i e => (Ho2.out.lt i e.symm).1
                   have HC4 := Lib.hid (HC2.out.fr hf5 (fun e => by have := hge1 _ e; have := Hgl.out; omega))
                   have hcell4 := hf5.cell hcell (fun e => by have h1 : w1.heap.size ≤ g := hge1 _ e; have := Hgl.out; omega)
                   have Hge1 := Lib.hid hge1
                   clear ho4 hf4 ho2 hy hf5 hge1))
              go_roundg (n + 1 - (at' + m))
              case measure => omega
              case rel =>
                refine ⟨at' + m, A4, k2 + 1, c4, _, by omega, hle2, by go_num, rfl, by omega, by rw [Hrest.out]; exact HR.out, ?_, HC4.out, Hb2.out.trans (Hf5.out.below Hb2.out.size (fun i _ e => by have := Hge1.out _ e; have := Hw1.out; omega)), Nat.le_trans hsz2 Hf5.out.size⟩
                simpa using Ho4.out
end Go.Proofs.YtinieljgcenemaaDoor
namespace Go.Proofs.YtinieljgcenemaaDoor
open Go.RowKit Go.Own Go.Huf Go.Hin
set_option linter.unusedVariables false

theorem r3full_any (p : Nat) (h8 : p ≤ 8) (F : Nat) (hF : 2 ^ p - 1 = F) (w : World) : Calls Tryd.prog 73 #[.int .i64 (p : Int)] w fun e w' => e = .returned (.int .i64 (F : Int)) ∧ w = w' := by
  have HF := Lib.hid hF
  clear hF
  go_enter Tryd.func73, Tryd.ntmps73
  go_wp2
  go_loopg [3, 4] p (fun gh m i w' => ∃ (k : Nat), gh + k = p ∧ m = .int .i64 ((2 ^ k : Nat) : Int) ∧ i = .int .i64 k ∧ w = w')
  case atStart => exact ⟨0, by omega, rfl, rfl, rfl⟩
  case round =>
    obtain ⟨k, hk, rfl, rfl, rfl⟩ := hrel
    have hpl := two_pow_le k (by omega)
    have hpp := Nat.two_pow_pos k
    obtain ⟨q, hq⟩ : ∃ q, 2 ^ k = q := ⟨_, rfl⟩
    rw [hq] at hpl hpp ⊢
    have Hq := Lib.hid hq
    clear hq
    cases gk with
    | zero =>
      obtain rfl : k = p := by omega
      have e1 : (q : Int) - 1 = (F : Int) := by have := HF.out; rw [Hq.out] at this; omega
      go_wp2
      go_ret
      exact ⟨by rw [← e1]; rfl, rfl⟩
    | succ g1 =>
      have e1 : (q : Int) * 2 = ((2 ^ (k + 1) : Nat) : Int) := by rw [Nat.pow_succ, Hq.out]; omega
      obtain ⟨q2, hq2⟩ : ∃ q2, 2 ^ (k + 1) = q2 := ⟨_, rfl⟩
      rw [hq2] at e1
      have Hq2 := Lib.hid hq2
      clear hq2
      have hlt : (k : Int) < (p : Int) := by omega
      go_wp2
      go_roundg g1
      case measure => omega
      case rel => exact ⟨k + 1, by omega, by rw [Hq2.out], rfl, rfl⟩
set_option maxRecDepth 100000 in
set_option maxHeartbeats 2000000 in
theorem rPutInt_no (x m v : Int) (h : ¬ (1 ≤ m ∧ m ≤ 8) ∨ v < 0 ∨ 2147483647 < v) (w : World) :
    Calls Tryd.prog 57 #[.int .u8 x, .int .i64 m, .int .i64 v] w fun e w' => e = .returned (.tuple #[.string ⟨#[]⟩, .int .i64 1]) ∧ w = w' := by
  by_cases h1 : m < 1
  · go_enter Tryd.func57, Tryd.ntmps57
    go_wp2
    go_ret2
    exact ⟨rfl, rfl⟩
  by_cases h2 : 8 < m
  · go_enter Tryd.func57, Tryd.ntmps57
    go_wp2
    go_ret2
    exact ⟨rfl, rfl⟩
  by_cases h3 : v < 0
  · go_enter Tryd.func57, Tryd.ntmps57
    go_wp2
    go_ret2
    exact ⟨rfl, rfl⟩
  have h4 : 2147483647 < v := by omega
  · go_enter Tryd.func57, Tryd.ntmps57
    go_wp2
    go_ret2
    exact ⟨rfl, rfl⟩
set_option maxRecDepth 100000 in
set_option maxHeartbeats 2000000 in
theorem rPutInt_ok (x m v : Nat) (hx : x < 256) (h1 : 1 ≤ m) (h8 : m ≤ 8) (hv : v ≤ 2147483647) (L : List UInt8) (hL : putB (2 ^ m - 1) (topOf x m) v = L) (z : Int) (hz : z = (m : Int)) (zv : Int) (hzv : zv = (v : Int)) (w : World) :
    Calls Tryd.prog 57 #[.int .u8 (x : Int), .int .i64 z, .int .i64 zv] w fun e w' => e = .returned (.tuple #[.string (str L), .int .i64 0]) ∧ Below w.heap.size w w' := by
  subst hz hzv
  have hLl : L.length ≤ 6 := by rw [← hL]; exact putB_le _ _ _ hv
  have hpl := two_pow_le m h8
  have hpp := Nat.two_pow_pos m
  obtain ⟨F, hF⟩ : ∃ F, 2 ^ m - 1 = F := ⟨_, rfl⟩
  obtain ⟨Q, hQ⟩ : ∃ Q, 2 ^ m = Q := ⟨_, rfl⟩
  have hF255 : F ≤ 255 := by omega
  have hTl := topOf_lt x m hx h8
  unfold topOf at hTl hL
  have Hfull : Hid (∀ w, Calls Tryd.prog 73 #[.int .i64 (m : Int)] w fun e w' => e = .returned (.int .i64 (F : Int)) ∧ w = w') := r3full_any m h8 F hF
  rw [hF, hQ] at hL hTl
  rw [hQ] at hF hpl hpp
  have eQ : (F : Int) + 1 = (Q : Int) := by omega
  have eQ0 : ¬ (Q : Int) = 0 := by omega
  obtain ⟨y, hy⟩ : ∃ y, x / Q = y := ⟨_, rfl⟩
  obtain ⟨T, hT⟩ : ∃ T, y * Q = T := ⟨_, rfl⟩
  rw [hy, hT] at hL hTl
  have ey : (x : Int).tdiv (Q : Int) = (y : Int) := by rw [← hy]; simp
  have ey2 : (x : Int) / (Q : Int) = (y : Int) := by rw [← hy]; simp
  have eT : (y : Int) * (Q : Int) = (T : Int) := by rw [← hT]; simp
  have k1 : ¬ (m : Int) < 1 := by omega
  have k2 : ¬ (8 : Int) < (m : Int) := by omega
  have k3 : ¬ (v : Int) < 0 := by omega
  have k4 : ¬ (2147483647 : Int) < (v : Int) := by omega
  have hyl : y ≤ 255 := by have := Nat.div_le_self x Q; omega
  by_cases hc : v < F
  · have kb : decide (v < F) = true := decide_eq_true hc
    obtain ⟨S, hS⟩ : ∃ S, T + v = S := ⟨_, rfl⟩
    have eS : (T : Int) + (v : Int) = (S : Int) := by omega
    have hSl : S < 256 := by omega
    have hcv : ∀ w, _ := fun w => conv_lit1 w (S : Int) (UInt8.ofNat S) (by rw [ofn S hSl])
    have HL : Hid ([UInt8.ofNat S] = L) := by rw [putB, if_pos hc, hS] at hL; exact hL
    clear hL hF hQ hy hT hS hc
    go_enter Tryd.func57, Tryd.ntmps57
    go_wp2_with (first
      | (go_at_call 73; (with_reducible refine (Hfull.out _).mono ?_); rintro e w4 ⟨rfl, rfl⟩))
    go_ret2
    rw [HL.out]
    exact ⟨rfl, (Below.refl _ _).alloc (Nat.le_refl _) _⟩
  · have kb : decide (v < F) = false := decide_eq_false hc
    obtain ⟨S, hS⟩ : ∃ S, T + F = S := ⟨_, rfl⟩
    have eS : (T : Int) + (F : Int) = (S : Int) := by omega
    have hSl : S < 256 := by omega
    obtain ⟨d0, hd0⟩ : ∃ d0, v - F = d0 := ⟨_, rfl⟩
    have e0 : (v : Int) - (F : Int) = (d0 : Int) := by omega
    have HL : Hid ([UInt8.ofNat S] ++ grp d0 = L) := by rw [putB, if_neg hc, hS, hd0] at hL; exact hL
    have hdl : d0 ≤ 2147483647 := by omega
    have hbv : Value.int .u8 (S : Int) = BV (UInt8.ofNat S) := by rw [BV, ofn S hSl]
    have Hbv := Lib.hid hbv
    clear hL hF hQ hy hT hS hc hbv hd0
    go_enter Tryd.func57, Tryd.ntmps57
    go_wp2_with (first
      | (go_at_call 73; (with_reducible refine (Hfull.out _).mono ?_); rintro e w4 ⟨rfl, rfl⟩))
    go_loopg [10, 2] d0 (fun gh o r w' => ∃ (d : Nat) (A : Option Addr) (n c : Nat) (acc : List UInt8), d ≤ gh ∧ o = .slice A n c ∧ r = .int .i64 d ∧ d ≤ 2147483647 ∧ acc ++ grp d = L ∧ w'.ownsRow w.heap.size 5 1 (.slice A n c) n (acc.map BV) ∧ Below w.heap.size w w')
    case atStart =>
      refine ⟨d0, _, _, _, [UInt8.ofNat S], Nat.le_refl _, rfl, rfl, hdl, HL.out, ?_, (Below.refl _ _).alloc (Nat.le_refl _) _⟩
      have := own_lit w (UInt8.ofNat S)
      rwa [show Value.int .u8 ((UInt8.ofNat S).toNat : Int) = .int .u8 (S : Int) from Hbv.out.symm] at this
    case round =>
      obtain ⟨d, A, n, c, acc, hdg, rfl, rfl, hd, hg, how, hb⟩ := hrel
      have hnl : acc.length = n := by have := how.1; simpa using this
      have hgl : acc.length + (grp d).length = L.length := by rw [← hg, List.length_append]
      have hn6 : n ≤ 6 := by omega
      have Hg := Lib.hid hg
      have Ho := Lib.hid how
      have Hb := Lib.hid hb
      have Hnl := Lib.hid hnl
      clear hg how hb HL hgl hnl
      by_cases h128 : d < 128
      · have k2 : ¬ (128 : Int) ≤ (d : Int) := by omega
        have hg := Hg.out
        rw [grp_small h128] at hg
        have Hg2 := Lib.hid hg
        have hcd : (d : Int) % 256 = (d : Int) := by omega
        have hbd : Value.int .u8 (d : Int) = BV (UInt8.ofNat d) := by rw [BV, ofn d (by omega)]
        have Hbd := Lib.hid hbd
        clear hg Hg hbd
        go_wp2_with (first
          | (at_builtin
             refine wpList_append_rd rfl (.tmp 63) (.tmp 66) 29 rfl E31 (.slice A n c) n (acc.map BV) rfl (own_alloc Ho.out _) (some ⟨wr.heap.size, 0, none⟩) 1 1 _ rfl (rd_lit1 wr 5 _) (one_lit1 _ _) (by omega) (by unfold maxLen; omega) (by have := Hb.out.size; simp; omega) ?_
             intro A' c' w6 ho6 hf6 ho2
             have hr6 := Rd.of_own ho6
             rw [Hbd.out, show acc.map BV ++ [BV (UInt8.ofNat d)] = L.map BV by rw [← Hg2.out]; simp] at hr6
             have hcv := conv_str (c := c') hr6
             have HF6 := Lib.hid hf6
             clear ho6 hf6 ho2 hr6))
        go_ret2
        exact ⟨rfl, (Hb.out.alloc Hb.out.size _).trans (HF6.out.below (by have := Hb.out.size; simp; omega) (fun i _ e => (Ho.out.lt i e.symm).1))⟩
      · have k2 : (128 : Int) ≤ (d : Int) := by omega
        have hg := Hg.out
        rw [grp_big h128] at hg
        have Hg2 := Lib.hid hg
        obtain ⟨r, hr⟩ : ∃ r, d % 128 = r := ⟨_, rfl⟩
        have hrl : r < 128 := by omega
        have e1 : (d : Int) % 128 = (r : Int) := by omega
        obtain ⟨y2, hy⟩ : ∃ y, r + 128 = y := ⟨_, rfl⟩
        have e2 : (r : Int) + 128 = (y2 : Int) := by omega
        have hy2l : y2 < 256 := by omega
        obtain ⟨d', hd'⟩ : ∃ d', d / 128 = d' := ⟨_, rfl⟩
        have e3 : (d : Int) / 128 = (d' : Int) := by omega
        have Hr := Lib.hid hr
        have Hy := Lib.hid hy
        have Hd' := Lib.hid hd'
        clear hg Hg hr hy hd'
        obtain ⟨g1, rfl⟩ : ∃ g1, gk = g1 + 1 := ⟨gk - 1, by omega⟩
        go_wp2_with (first
          | (at_builtin
             refine wpList_append_rd rfl (.tmp 54) (.tmp 59) 29 rfl E31 (.slice A n c) n (acc.map BV) rfl (own_alloc Ho.out _) (some ⟨wr.heap.size, 0, none⟩) 1 1 _ rfl (rd_lit1 wr 5 _) (one_lit1 _ _) (by omega) (by unfold maxLen; omega) (by have := Hb.out.size; simp; omega) ?_
             intro A' c' w6 ho6 hf6 ho2
             have H6 := Lib.hid ho6
             have HF6 := Lib.hid hf6
             clear ho6 hf6 ho2))
        go_roundg g1
        case measure => omega
        case rel =>
          refine ⟨d', A', n + 1, c', acc ++ [UInt8.ofNat y2], by have := Hd'.out; omega, rfl, rfl, by have := Hd'.out; omega, ?_, ?_, (Hb.out.alloc Hb.out.size _).trans (HF6.out.below (by have := Hb.out.size; simp; omega) (fun i _ e => (Ho.out.lt i e.symm).1))⟩
          · rw [← Hg2.out, Hr.out, Hy.out, Hd'.out, List.append_assoc]; rfl
          · have := H6.out
            rw [List.map_append]
            rwa [show Value.int .u8 (y2 : Int) = BV (UInt8.ofNat y2) by rw [BV, ofn y2 hy2l]] at this

set_option maxRecDepth 100000 in
set_option maxHeartbeats 4000000 in
theorem rGetInt_any (xs : List UInt8) (n0 : Nat) (hn0 : xs.length = n0) (hn : n0 ≤ 4611686018427387904) (m : Int) (R0 : G) (hR : getI xs m = R0) (w : World) :
    Calls Tryd.prog 63 #[.string (str xs), .int .i64 m] w fun e w' => e = .returned (getV R0) ∧ w = w' := by
  obtain ⟨s, hs⟩ : ∃ s, str xs = s := ⟨_, rfl⟩
  have hsz : s.size = n0 := by rw [← hs, str_size, hn0]
  rw [hs]
  have Hs := Lib.hid hs
  have Hn0 := Lib.hid hn0
  clear hs hn0
  by_cases hm : 1 ≤ m ∧ m ≤ 8
  · obtain ⟨m', rfl⟩ := Int.eq_ofNat_of_zero_le (show 0 ≤ m by omega)
    have hm1 : 1 ≤ m' := by omega
    have hm8 : m' ≤ 8 := by omega
    rw [getI, if_pos hm] at hR
    have k1 : ¬ (m' : Int) < 1 := by omega
    have k2 : ¬ (8 : Int) < (m' : Int) := by omega
    clear hm
    by_cases h0 : n0 = 0
    · subst h0
      have hx0 : xs = [] := List.eq_nil_of_length_eq_zero Hn0.out
      subst hx0
      rw [show getN (m' : Int).toNat [] = G.more from rfl] at hR
      have HR := Lib.hid hR
      clear hR
      go_enter Tryd.func63, Tryd.ntmps63
      go_wp2
      go_ret3
      exact ⟨by rw [← HR.out]; rfl, rfl⟩
    · have hkx : 0 < xs.length := by rw [Hn0.out]; omega
      obtain ⟨x, r, rfl⟩ : ∃ x r, xs = x :: r := by
        cases xs with
        | nil => simp at hkx
        | cons x r => exact ⟨x, r, rfl⟩
      have hki : 0 < s.size := by rw [hsz]; omega
      have hsx : s[0]'hki = x := by
        have := str_get (x :: r) 0 x rfl (by rw [Hs.out]; exact hki)
        simpa [Hs.out] using this
      have hnb : ((n0 : Int) == 0) = false := by simp; omega
      have hxl := x.toNat_lt
      have hpl := two_pow_le m' hm8
      have hpp := Nat.two_pow_pos m'
      rw [show (m' : Int).toNat = m' from rfl, getN] at hR
      obtain ⟨F, hF⟩ : ∃ F, 2 ^ m' - 1 = F := ⟨_, rfl⟩
      obtain ⟨Q, hQ⟩ : ∃ Q, 2 ^ m' = Q := ⟨_, rfl⟩
      have Hfull : Hid (∀ w, Calls Tryd.prog 73 #[.int .i64 (m' : Int)] w fun e w' => e = .returned (.int .i64 (F : Int)) ∧ w = w') := r3full_any m' hm8 F hF
      rw [hF, hQ] at hR
      rw [hQ] at hF hpl hpp
      obtain ⟨H, hH⟩ : ∃ H, x.toNat % Q = H := ⟨_, rfl⟩
      have hHl : H < Q := by rw [← hH]; exact Nat.mod_lt _ hpp
      rw [hH] at hR
      have eQ : (F : Int) + 1 = (Q : Int) := by omega
      have eQ0 : ¬ (Q : Int) = 0 := by omega
      have hF255 : F ≤ 255 := by omega
      have eH : (x.toNat : Int) % (Q : Int) = (H : Int) := by rw [← hH]; simp
      have eH2 : (x.toNat : Int).tmod (Q : Int) = (H : Int) := by rw [Int.tmod_eq_emod_of_nonneg (by omega)]; exact eH
      clear hQ hH hF
      by_cases hc : H < F
      · have kb : decide (H < F) = true := decide_eq_true hc
        rw [if_pos hc] at hR
        have HR := Lib.hid hR
        clear hR hc
        go_enter Tryd.func63, Tryd.ntmps63
        go_wp2_with (first
          | (go_at_call 73; (with_reducible refine (Hfull.out _).mono ?_); rintro e w4 ⟨rfl, rfl⟩))
        go_ret3
        exact ⟨by rw [← HR.out]; rfl, rfl⟩
      · have kb : decide (H < F) = false := decide_eq_false hc
        rw [if_neg hc] at hR
        obtain rfl : H = F := by omega
        have HR : Hid (gbeh 0 H ((x :: r).drop 1) = R0) := hR
        clear hR hc kb
        go_enter Tryd.func63, Tryd.ntmps63
        go_wp2_with (first
          | (go_at_call 73; (with_reducible refine (Hfull.out _).mono ?_); rintro e w4 ⟨rfl, rfl⟩))
        go_loopg [8, 9, 10] (n0 - 1) (fun gh v u i w' => ∃ (j acc U : Nat), gh + (1 + j) = n0 ∧ v = .int .i64 acc ∧ u = .int .i64 U ∧ i = .int .i64 ((1 + j : Nat) : Int) ∧ Hid (128 ^ j = U) ∧ j ≤ 5 ∧ acc ≤ 2147483647 ∧ gbeh j acc ((x :: r).drop (1 + j)) = R0 ∧ w = w')
        case atStart => exact ⟨0, H, 1, by omega, rfl, rfl, rfl, rfl, by omega, by omega, HR.out, rfl⟩
        case round =>
          obtain ⟨j, acc, U, hj, rfl, rfl, rfl, hU, hj5, hacc, hg, rfl⟩ := hrel
          have Hg := Lib.hid hg
          clear hg HR hsx hki
          obtain ⟨K, hK⟩ : ∃ K, 1 + j = K := ⟨_, rfl⟩
          rw [hK]
          have HK := Lib.hid hK
          have hUl : U ≤ 34359738368 := by
            rw [← hU.out]
            have := Nat.pow_le_pow_right (n := 128) (by omega) hj5
            omega
          cases gk with
          | zero =>
            have hKn : K = n0 := by omega
            subst hKn
            have hg := Hg.out
            rw [hK, List.drop_eq_nil_of_le (by rw [Hn0.out]; exact Nat.le_refl _), gbeh] at hg
            have Hg2 := Lib.hid hg
            clear hg Hg hK hj
            go_wp2
            go_ret3
            exact ⟨by rw [← Hg2.out]; rfl, rfl⟩
          | succ g1 =>
            have hlt : K < n0 := by omega
            have hkx : K < (x :: r).length := by rw [Hn0.out]; exact hlt
            obtain ⟨y, hy⟩ : ∃ y, (x :: r)[K]? = some y := ⟨_, List.getElem?_eq_getElem hkx⟩
            have hki : K < s.size := by rw [hsz]; exact hlt
            have hsx : s[K]'hki = y := by
              have := str_get (x :: r) K y hy (by rw [Hs.out]; exact hki)
              simpa [Hs.out] using this
            have hyl := y.toNat_lt
            have hd : (x :: r).drop K = y :: (x :: r).drop (1 + (j + 1)) := by
              obtain ⟨hi, rfl⟩ := List.getElem?_eq_some_iff.1 hy
              rw [show 1 + (j + 1) = K + 1 by omega]
              exact List.drop_eq_getElem_cons hi
            have hg := Hg.out
            rw [hK, hd, gbeh] at hg
            by_cases h5 : j = 5
            · subst h5
              rw [if_pos rfl] at hg
              have Hg2 := Lib.hid hg
              obtain rfl : K = 6 := by omega
              clear hg Hg hK hd hy hkx HK
              go_wp2
              go_ret3
              exact ⟨by rw [← Hg2.out]; rfl, rfl⟩
            · rw [if_neg h5] at hg
              have h6b : ((K : Int) == 6) = false := by simp; omega
              obtain ⟨q, hq⟩ : ∃ q, y.toNat % 128 * U = q := ⟨_, rfl⟩
              obtain ⟨sm, hsm⟩ : ∃ sm, acc + q = sm := ⟨_, rfl⟩
              have hql : q ≤ 34091302912 := by
                have h1 : U ≤ 128 ^ 4 := by rw [← hU.out]; exact Nat.pow_le_pow_right (by omega) (by omega)
                have h2 : y.toNat % 128 * U ≤ 127 * 128 ^ 4 := Nat.mul_le_mul (by omega) h1
                omega
              obtain ⟨z, hz⟩ : ∃ z, y.toNat % 128 = z := ⟨_, rfl⟩
              have ez : (y.toNat : Int) % 128 = (z : Int) := by omega
              have e1 : (z : Int) * (U : Int) = (q : Int) := by rw [← hq, hz]; simp
              have e2 : (acc : Int) + (q : Int) = (sm : Int) := by omega
              obtain ⟨U2, hU2⟩ : ∃ U2, U * 128 = U2 := ⟨_, rfl⟩
              have e3 : (U : Int) * 128 = (U2 : Int) := by omega
              have HU2 : Hid (128 ^ (j + 1) = U2) := by rw [← hU2, ← hU.out, pow128, Nat.mul_comm]; rfl
              rw [hU.out, hq, hsm] at hg
              have hzl : z < 128 := by omega
              have Hg2 := Lib.hid hg
              have Hsm := Lib.hid hsm
              clear hg Hg hq hsm hz hd hy hkx hU2
              by_cases hM : 2147483647 < sm
              · have hg := Hg2.out
                rw [if_pos hM] at hg
                have Hg := Lib.hid hg
                have k1 : (2147483647 : Int) < (sm : Int) := by omega
                clear hg Hg2 hM
                go_wp2
                go_ret3
                exact ⟨by rw [← Hg.out]; rfl, rfl⟩
              · have hg := Hg2.out
                rw [if_neg hM] at hg
                have Hg := Lib.hid hg
                have k1 : ¬ (2147483647 : Int) < (sm : Int) := by omega
                clear hg Hg2
                by_cases h128 : y.toNat < 128
                · have hg := Hg.out
                  rw [if_pos h128] at hg
                  have Hg2 := Lib.hid hg
                  have k2 : (y.toNat : Int) < 128 := by omega
                  have eK : (K : Int) + 1 = ((j + 2 : Nat) : Int) := by omega
                  clear hg Hg h128 hM hK
                  go_wp2
                  go_ret3
                  exact ⟨by rw [← Hg2.out]; rfl, rfl⟩
                · have hg := Hg.out
                  rw [if_neg h128] at hg
                  have Hg2 := Lib.hid hg
                  have k2 : ¬ (y.toNat : Int) < 128 := by omega
                  obtain ⟨K2, hK2⟩ : ∃ K2, 1 + (j + 1) = K2 := ⟨_, rfl⟩
                  have eK : (K : Int) + 1 = (K2 : Int) := by omega
                  have HK2 := Lib.hid hK2
                  clear hg Hg h128 hK hK2
                  go_wp2
                  go_roundg g1
                  case measure => omega
                  case rel => exact ⟨j + 1, sm, U2, by have := HK.out; omega, rfl, rfl, by rw [HK2.out], HU2, by omega, by omega, Hg2.out, rfl⟩
  · rw [getI, if_neg hm] at hR
    subst hR
    by_cases h1 : m < 1
    · go_enter Tryd.func63, Tryd.ntmps63
      go_wp2
      go_ret3
      exact ⟨rfl, rfl⟩
    · have h2 : 8 < m := by omega
      go_enter Tryd.func63, Tryd.ntmps63
      go_wp2
      go_ret3
      exact ⟨rfl, rfl⟩
end Go.Proofs.YtinieljgcenemaaDoor
namespace Go.Proofs.YtinieljgcenemaaDoor
open Go.RowKit Go.Own Go.Huf Go.Hin
set_option linter.unusedVariables false

theorem rPutInt_n (x m v : Nat) (hx : x < 256) (h1 : 1 ≤ m) (h8 : m ≤ 8) (hv : v ≤ 2147483647) (L : List UInt8) (hL : putB (2 ^ m - 1) (topOf x m) v = L) (T : ByteArray) (hT : str L = T) (zx : Int) (hzx : zx = (x : Int)) (z : Int) (hz : z = (m : Int)) (zv : Int) (hzv : zv = (v : Int)) (w : World) :
    Calls Tryd.prog 57 #[.int .u8 zx, .int .i64 z, .int .i64 zv] w fun e w' => e = .returned (.tuple #[.string T, .int .i64 0]) ∧ Below w.heap.size w w' := by
  subst hzx hT
  exact rPutInt_ok x m v hx h1 h8 hv L hL z hz zv hzv w
theorem rEncode_s (s : ByteArray) (ys : List UInt8) (hp : Pk (enc s.data.toList) ys) (T : ByteArray) (hT : str ys = T) (w : World) (hs : s.size ≤ 1048576) : Calls Tryd.prog 91 #[.string s] w fun e w' => e = .returned (.string T) ∧ Below w.heap.size w w' := by
  subst hT
  exact rEncode_any s ys hp w hs
set_option maxRecDepth 100000 in
set_option maxHeartbeats 4000000 in
theorem rPutText_any (s : ByteArray) (ys : List UInt8) (hp : Pk (enc s.data.toList) ys) (hs : s.size ≤ 1048576) (L : List UInt8) (hL : putT s.data.toList ys = L) (T : ByteArray) (hT : str L = T) (w : World) :
    Calls Tryd.prog 74 #[.string s] w fun e w' => e = .returned (.string T) ∧ Below w.heap.size w w' := by
  have hsl : s.data.toList.length = s.size := by simp
  obtain ⟨K, hK⟩ : ∃ K, ys.length = K := ⟨_, rfl⟩
  obtain ⟨Y, hY⟩ : ∃ Y, str ys = Y := ⟨_, rfl⟩
  have hYs : Y.size = K := by rw [← hY, str_size, hK]
  have hst : str s.data.toList = s := str_self s
  have hsz : s.size ≤ 9223372036854775807 := by omega
  unfold putT at hL
  rw [hK, hsl] at hL
  have Hp := Lib.hid hp
  have HY := Lib.hid hY
  clear hp
  by_cases hc : K < s.size
  · rw [if_pos hc] at hL
    have kb : decide (K < s.size) = true := decide_eq_true hc
    obtain ⟨P0, hP0⟩ : ∃ P0, putB (2 ^ 7 - 1) (topOf 128 7) K = P0 := ⟨_, rfl⟩
    obtain ⟨P1, hP1⟩ : ∃ P1, str P0 = P1 := ⟨_, rfl⟩
    rw [hP0] at hL
    have hKl : K ≤ 2147483647 := by omega
    have hcat : P1 ++ Y = T := by rw [← hP1, ← hY, str_append, hL, hT]
    have hpl : P0.length ≤ 6 := by rw [← hP0]; exact putB_le _ _ _ hKl
    have hPs : P1.size ≤ 6 := by rw [← hP1, str_size]; exact hpl
    have HP0 := Lib.hid hP0
    have HP1 := Lib.hid hP1
    clear hL hT hP0 hP1 hK hY hsl hst hc
    go_enter Tryd.func74, Tryd.ntmps74
    go_wp2_with (first
      | (go_at_call 91; (with_reducible refine (rEncode_s s ys Hp.out Y HY.out _ hs).mono ?_); rintro e w1 ⟨rfl, hb1⟩; have H1 := Lib.hid hb1; clear hb1)
      | (go_at_call 57; (with_reducible refine (rPutInt_n 128 7 K (by omega) (by omega) (by omega) hKl P0 HP0.out P1 HP1.out 128 rfl 7 rfl _ rfl _).mono ?_); rintro e w2 ⟨rfl, hb2⟩; have H2 := Lib.hid (H1.out.trans (hb2.mono H1.out.size)); clear hb2))
    go_ret
    exact ⟨rfl, H2.out⟩
  · rw [if_neg hc] at hL
    have kb : decide (K < s.size) = false := decide_eq_false hc
    obtain ⟨P0, hP0⟩ : ∃ P0, putB (2 ^ 7 - 1) (topOf 0 7) s.size = P0 := ⟨_, rfl⟩
    obtain ⟨P1, hP1⟩ : ∃ P1, str P0 = P1 := ⟨_, rfl⟩
    rw [hP0] at hL
    have hKl : s.size ≤ 2147483647 := by omega
    have hcat : P1 ++ s = T := by rw [← hP1, ← hT, ← hL, ← str_append, hst]
    have hpl : P0.length ≤ 6 := by rw [← hP0]; exact putB_le _ _ _ hKl
    have hPs : P1.size ≤ 6 := by rw [← hP1, str_size]; exact hpl
    have HP0 := Lib.hid hP0
    have HP1 := Lib.hid hP1
    clear hL hT hP0 hP1 hK hY hsl hst hc
    go_enter Tryd.func74, Tryd.ntmps74
    go_wp2_with (first
      | (go_at_call 91; (with_reducible refine (rEncode_s s ys Hp.out Y HY.out _ hs).mono ?_); rintro e w1 ⟨rfl, hb1⟩; have H1 := Lib.hid hb1; clear hb1)
      | (go_at_call 57; (with_reducible refine (rPutInt_n 0 7 s.size (by omega) (by omega) (by omega) hKl P0 HP0.out P1 HP1.out 0 rfl 7 rfl _ rfl _).mono ?_); rintro e w2 ⟨rfl, hb2⟩; have H2 := Lib.hid (H1.out.trans (hb2.mono H1.out.size)); clear hb2))
    go_ret
    exact ⟨rfl, H2.out⟩
theorem rGetInt_7 (xs : List UInt8) (S : ByteArray) (hS : str xs = S) (n0 : Nat) (hn0 : xs.length = n0) (hn : n0 ≤ 1000) (R0 : G) (hR : getN 7 xs = R0) (v : Value) (hv : getV R0 = v) (w : World) :
    Calls Tryd.prog 63 #[.string S, .int .i64 7] w fun e w' => e = .returned v ∧ w = w' := by
  subst hv hS
  exact rGetInt_any xs n0 hn0 (by omega) 7 R0 hR w
theorem rDecode_s (xs : List UInt8) (S : ByteArray) (hS : str xs = S) (n0 : Nat) (hn0 : xs.length = n0) (hn : n0 ≤ 1000) (most : Int) (R0 : R) (hR0 : dec (bits8 xs) most = R0) (v : Value) (hv : resV R0 = v) (w : World) :
    Calls Tryd.prog 106 #[.string S, .int .i64 most] w fun e w' => e = .returned v ∧ Below w.heap.size w w' := by
  subst hv hS
  exact rDecode_any xs n0 hn0 hn most R0 hR0 w
theorem str_extract (xs : List UInt8) (a b : Nat) : (str xs).extract a b = str ((xs.drop a).take (b - a)) := by
  apply ByteArray.ext
  apply Array.toList_inj.1
  simp [str]
set_option maxRecDepth 100000 in
set_option maxHeartbeats 4000000 in
theorem rGetText_any (xs : List UInt8) (n0 : Nat) (hn0 : xs.length = n0) (hn : n0 ≤ 1000) (R0 : T) (hR : getT 2147483647 xs = R0) (S : ByteArray) (hS : str xs = S) (w : World) :
    Calls Tryd.prog 97 #[.string S] w fun e w' => e = .returned (textV R0) ∧ Below w.heap.size w w' := by
  have hSs : S.size = n0 := by rw [← hS, str_size, hn0]
  have HS := Lib.hid hS
  have Hn0 := Lib.hid hn0
  obtain ⟨R1, hR1⟩ : ∃ R1, getN 7 xs = R1 := ⟨_, rfl⟩
  have HR1 := Lib.hid hR1
  rcases R1 with ⟨size, n⟩ | _ | _ | _
  · rw [getT_ok hR1, hn0] at hR
    obtain ⟨x, r, hxr, n1, n2, n6, q4⟩ := getN_least hR1
    rw [hn0] at n2
    obtain ⟨ns, hns⟩ : ∃ ns, n + size = ns := ⟨_, rfl⟩
    have e1 : (n : Int) + (size : Int) = (ns : Int) := by omega
    have hx0 : xs[0]? = some x := by rw [hxr]; rfl
    have hki : 0 < S.size := by rw [hSs]; omega
    have hsx : S[0]'hki = x := by
      have := str_get xs 0 x hx0 (by rw [HS.out]; exact hki)
      simpa [HS.out] using this
    have hxl := x.toNat_lt
    have hhd : xs.headD 0 = x := by rw [hxr]; rfl
    rw [hhd, hns] at hR
    obtain ⟨ys, hys⟩ : ∃ ys, (xs.drop n).take size = ys := ⟨_, rfl⟩
    obtain ⟨Y, hY⟩ : ∃ Y, str ys = Y := ⟨_, rfl⟩
    rw [hys] at hR
    have hext : S.extract n ns = Y := by rw [← hS, str_extract, ← hY, ← hys, show ns - n = size by omega]
    have hyl : ys.length ≤ 1000 := by rw [← hys, List.length_take, List.length_drop, hn0]; omega
    have HY := Lib.hid hY
    have en : (n0 : Int) - (n : Int) = ((n0 - n : Nat) : Int) := by omega
    have e3 : (n : Int) ≤ (ns : Int) := by omega
    clear hS hn0 hR1 hxr hx0 hhd hys hY
    by_cases hc : n0 < ns
    · rw [if_pos hc] at hR
      subst hR
      have k1 : ((n0 - n : Nat) : Int) < (size : Int) := by omega
      go_enter Tryd.func97, Tryd.ntmps97
      go_wp2_with (first
        | (go_at_call 63; (with_reducible refine (rGetInt_7 xs S HS.out n0 Hn0.out hn _ HR1.out (.tuple #[.int .i64 (size : Int), .int .i64 (n : Int), .int .i64 0]) rfl _).mono ?_); rintro e w1 ⟨rfl, rfl⟩))
      go_ret3
      exact ⟨rfl, Below.refl _ _⟩
    · rw [if_neg hc] at hR
      have k1 : ¬ ((n0 - n : Nat) : Int) < (size : Int) := by omega
      have e4 : (ns : Int) ≤ (n0 : Int) := by omega
      by_cases h128 : x.toNat < 128
      · rw [if_pos h128] at hR
        subst hR
        have k2 : (x.toNat : Int) < 128 := by omega
        go_enter Tryd.func97, Tryd.ntmps97
        go_wp2_with (first
          | (go_at_call 63; (with_reducible refine (rGetInt_7 xs S HS.out n0 Hn0.out hn _ HR1.out (.tuple #[.int .i64 (size : Int), .int .i64 (n : Int), .int .i64 0]) rfl _).mono ?_); rintro e w1 ⟨rfl, rfl⟩))
        go_ret3
        exact ⟨by rw [← HY.out]; rfl, Below.refl _ _⟩
      · rw [if_neg h128] at hR
        have k2 : ¬ (x.toNat : Int) < 128 := by omega
        obtain ⟨R2, hR2⟩ : ∃ R2, dec (bits8 ys) 2147483647 = R2 := ⟨_, rfl⟩
        rw [hR2] at hR
        subst hR
        have HR2 := Lib.hid hR2
        obtain ⟨yl, hyl2⟩ : ∃ yl, ys.length = yl := ⟨_, rfl⟩
        rw [hyl2] at hyl
        have Hyl := Lib.hid hyl2
        clear hR2 hyl2
        rcases R2 with t | _ | _
        · go_enter Tryd.func97, Tryd.ntmps97
          go_wp2_with (first
            | (go_at_call 63; (with_reducible refine (rGetInt_7 xs S HS.out n0 Hn0.out hn _ HR1.out (.tuple #[.int .i64 (size : Int), .int .i64 (n : Int), .int .i64 0]) rfl _).mono ?_); rintro e w1 ⟨rfl, rfl⟩)
            | (go_at_call 106; (with_reducible refine (rDecode_s ys Y HY.out yl Hyl.out hyl _ _ HR2.out (.tuple #[.string (str t), .int .i64 0]) rfl _).mono ?_); rintro e w2 ⟨rfl, hb2⟩; have H2 := Lib.hid hb2; clear hb2))
          go_ret3
          exact ⟨rfl, H2.out⟩
        · go_enter Tryd.func97, Tryd.ntmps97
          go_wp2_with (first
            | (go_at_call 63; (with_reducible refine (rGetInt_7 xs S HS.out n0 Hn0.out hn _ HR1.out (.tuple #[.int .i64 (size : Int), .int .i64 (n : Int), .int .i64 0]) rfl _).mono ?_); rintro e w1 ⟨rfl, rfl⟩)
            | (go_at_call 106; (with_reducible refine (rDecode_s ys Y HY.out yl Hyl.out hyl _ _ HR2.out (.tuple #[.string ⟨#[]⟩, .int .i64 3]) rfl _).mono ?_); rintro e w2 ⟨rfl, hb2⟩; have H2 := Lib.hid hb2; clear hb2))
          go_ret3
          exact ⟨rfl, H2.out⟩
        · go_enter Tryd.func97, Tryd.ntmps97
          go_wp2_with (first
            | (go_at_call 63; (with_reducible refine (rGetInt_7 xs S HS.out n0 Hn0.out hn _ HR1.out (.tuple #[.int .i64 (size : Int), .int .i64 (n : Int), .int .i64 0]) rfl _).mono ?_); rintro e w1 ⟨rfl, rfl⟩)
            | (go_at_call 106; (with_reducible refine (rDecode_s ys Y HY.out yl Hyl.out hyl _ _ HR2.out (.tuple #[.string ⟨#[]⟩, .int .i64 4]) rfl _).mono ?_); rintro e w2 ⟨rfl, hb2⟩; have H2 := Lib.hid hb2; clear hb2))
          go_ret3
          exact ⟨rfl, H2.out⟩
  · exact absurd HR1.out (getN_arg 7 xs)
  · rw [getT_more hR1] at hR
    subst hR
    clear hS hn0 hR1
    go_enter Tryd.func97, Tryd.ntmps97
    go_wp2_with (first
      | (go_at_call 63; (with_reducible refine (rGetInt_7 xs S HS.out n0 Hn0.out hn _ HR1.out (.tuple #[.int .i64 0, .int .i64 0, .int .i64 2]) rfl _).mono ?_); rintro e w1 ⟨rfl, rfl⟩))
    go_ret3
    exact ⟨rfl, Below.refl _ _⟩
  · rw [getT_form hR1] at hR
    subst hR
    clear hS hn0 hR1
    go_enter Tryd.func97, Tryd.ntmps97
    go_wp2_with (first
      | (go_at_call 63; (with_reducible refine (rGetInt_7 xs S HS.out n0 Hn0.out hn _ HR1.out (.tuple #[.int .i64 0, .int .i64 0, .int .i64 3]) rfl _).mono ?_); rintro e w1 ⟨rfl, rfl⟩))
    go_ret3
    exact ⟨rfl, Below.refl _ _⟩
end Go.Proofs.YtinieljgcenemaaDoor
namespace Go.Proofs.YtinieljgcenemaaDoor
open Go.RowKit Go.Own Go.Tbl Go.Huf Go.Hin
set_option linter.unusedVariables false
set_option maxRecDepth 100000

theorem cInt : CInt := fun x m v hx h1 h8 hv T hT zx hzx z hz zv hzv w => rPutInt_n x m v hx h1 h8 hv _ rfl T hT zx hzx z hz zv hzv w
theorem cTxt : CTxt := fun s hs T hT w => rPutText_any s _ (packT_pk _) hs _ rfl T hT w
end Go.Proofs.YtinieljgcenemaaDoor
