/- The contracts of the document's answer: begins, next. -/
import Derived.Test.YtdmheinepkeglaaDoorSpelt
namespace Go.Proofs.YtdmheinepkeglaaDoor
open Go.RowKit Go.Own Go.Huf
set_option linter.unusedVariables false

/-- the bits r begin with the code of s -/
def beg (s : Nat) (r : List Bool) : Bool := (cbits s).isPrefixOf r
theorem beg_iff (s : Nat) (r : List Bool) : beg s r = true ↔ cbits s <+: r := List.isPrefixOf_iff_prefix
/-- a piece of a text of bits -/
theorem slice_beg (bs c : List Bool) (i n : Nat) (hc : c.length = n) (hle : i + n ≤ bs.length) :
    ((((bs.drop i).take n) == c) = c.isPrefixOf (bs.drop i)) := by
  rw [Bool.eq_iff_iff, beq_iff_eq, List.isPrefixOf_iff_prefix]
  constructor
  · intro h; rw [← h]; exact List.take_prefix _ _
  · rintro ⟨r, h⟩; rw [← h, List.take_append_of_le_length (by omega), List.take_of_length_le (by omega)]

theorem ext_eq (bs c : List Bool) (i n : Nat) : ((((bstr bs).extract i (i + n)).toList == (bstr c).toList)) = (((bs.drop i).take n) == c) := by
  have e1 : ((bstr bs).extract i (i + n)).toList = chs ((bs.drop i).take n) := by
    rw [ByteArray.toList_eq]
    simp [bstr, str, chs, List.map_take, List.map_drop]
  have e2 : (bstr c).toList = chs c := by rw [ByteArray.toList_eq, bstr, str_data]
  rw [e1, e2, Bool.eq_iff_iff, beq_iff_eq, beq_iff_eq]
  exact ⟨chs_inj, fun h => by rw [h]⟩
theorem not_beg (bs c : List Bool) (i n : Nat) (hc : c.length = n) (hi : i ≤ bs.length) (hle : ¬ i + n ≤ bs.length) : c.isPrefixOf (bs.drop i) = false := by
  rw [Bool.eq_false_iff]
  intro h
  rw [List.isPrefixOf_iff_prefix] at h
  have := h.length_le
  rw [List.length_drop] at this
  omega

set_option maxRecDepth 100000 in
set_option maxHeartbeats 4000000 in
theorem rBegins_any (bs c : List Bool) (i n B : Nat) (hn : c.length = n) (hB : bs.length = B) (h0 : 0 < n) (hn30 : n ≤ 30) (hi : i ≤ B) (hb : B ≤ 1048576) (r : Bool) (hr : c.isPrefixOf (bs.drop i) = r) (w : World) :
    Calls Tryd.prog 48 #[.string (bstr bs), .int .i64 (i : Int), .string (bstr c)] w fun e w' => e = .returned (.bool r) ∧ w = w' := by
  obtain ⟨T, hT⟩ : ∃ T, bstr bs = T := ⟨_, rfl⟩
  obtain ⟨S, hS⟩ : ∃ S, bstr c = S := ⟨_, rfl⟩
  have hTs : T.size = B := by rw [← hT, bstr_size, hB]
  have hSs : S.size = n := by rw [← hS, bstr_size, hn]
  rw [hT, hS]
  have HT := Lib.hid hT
  have HS := Lib.hid hS
  have Hr := Lib.hid hr
  have Hn := Lib.hid hn
  have HB := Lib.hid hB
  clear hT hS hr hn hB
  by_cases hle : i + n ≤ B
  · have hle2 : (n : Int) ≤ (B : Int) - (i : Int) := by omega
    go_enter Tryd.func48, Tryd.ntmps48
    go_wp2
    go_ret
    refine ⟨ret_bool ?_, rfl⟩
    rw [← HT.out, ← HS.out, ext_eq, slice_beg bs c i n Hn.out (by rw [HB.out]; exact hle), Hr.out]
  · have hle2 : ¬ (n : Int) ≤ (B : Int) - (i : Int) := by omega
    go_enter Tryd.func48, Tryd.ntmps48
    go_wp2
    go_ret
    refine ⟨ret_bool ?_, rfl⟩
    rw [← Hr.out, not_beg bs c i n Hn.out (by rw [HB.out]; exact hi) (by rw [HB.out]; exact hle)]

/-- the first symbol with whose code the bits begin -/
def nextS (r : List Bool) : Nat → Option Nat
  | 0 => none
  | k + 1 => if beg (257 - (k + 1)) r then some (257 - (k + 1)) else nextS r k
theorem nextS_none {r : List Bool} : ∀ k, k ≤ 257 → nextS r k = none → ∀ s, 257 - k ≤ s → s < 257 → ¬ cbits s <+: r
  | 0, _, _, s, h1, h2 => by omega
  | k + 1, hk, h, s, h1, h2 => by
    rw [nextS] at h
    split at h
    · cases h
    · rename_i hb
      by_cases e : s = 257 - (k + 1)
      · subst e
        rw [← beg_iff]
        exact hb
      · exact nextS_none k (by omega) h s (by omega) h2
theorem nextS_some {r : List Bool} {s : Nat} : ∀ k, k ≤ 257 → nextS r k = some s → s < 257 ∧ cbits s <+: r
  | k + 1, hk, h => by
    rw [nextS] at h
    split at h
    · rename_i hb
      injection h with h
      subst h
      exact ⟨by omega, (beg_iff _ _).1 hb⟩
    · exact nextS_some k (by omega) h
/-- its number; -1: none -/
def nextI (r : List Bool) (k : Nat) : Int := match nextS r k with
  | some s => s
  | none => -1

set_option maxRecDepth 100000 in
set_option maxHeartbeats 4000000 in
theorem rNext_any (bs : List Bool) (i B g c : Nat) (hB : bs.length = B) (hi : i ≤ B) (hb : B ≤ 1048576) (hc : 257 ≤ c) (q : Int) (hq : nextI (bs.drop i) 257 = q) (w : World) (hC : CodesAt w g) :
    Calls Tryd.prog 40 #[.string (bstr bs), .int .i64 (i : Int), .slice (some ⟨g, 0, none⟩) 257 c] w fun e w' => e = .returned (.int .i64 q) ∧ w = w' := by
  have HB := Lib.hid hB
  have Hq := Lib.hid hq
  have HC := Lib.hid hC
  clear hB hq hC
  go_enter Tryd.func40, Tryd.ntmps40
  go_wp2
  go_loopg [7] 257 (fun gh s w' => ∃ k : Nat, gh + k = 257 ∧ s = .int .i64 (k : Int) ∧ nextI (bs.drop i) gh = q ∧ w = w')
  case atStart => exact ⟨0, by omega, rfl, Hq.out, rfl⟩
  case round =>
    obtain ⟨k, hk, rfl, hn, rfl⟩ := hrel
    have Hn := Lib.hid hn
    clear hn
    cases gk with
    | succ g1 =>
      have hk257 : k < 257 := by omega
      have hcell := HC.out k hk257
      have hcs := code_sym k hk257
      obtain ⟨m, hm⟩ : ∃ m, (cbits k).length = m := ⟨_, rfl⟩
      have hm1 : 0 < m := by rw [← hm, cbits_length]; omega
      have hm30 : m ≤ 30 := by rw [← hm, cbits_length]; omega
      obtain ⟨r, hr⟩ : ∃ r, (cbits k).isPrefixOf (bs.drop i) = r := ⟨_, rfl⟩
      have hn := Hn.out
      rw [nextI, nextS, show 257 - (g1 + 1) = k by omega, beg, hr] at hn
      have Hm := Lib.hid hm
      have Hr := Lib.hid hr
      have Hn2 := Lib.hid hn
      clear hcs hm hr hn
      cases r with
      | true =>
        have hqk : q = (k : Int) := by have := Hn2.out; simpa using this.symm
        subst hqk
        go_wp2_with (first
          | (go_at_call 48; (with_reducible refine (rBegins_any bs (cbits k) i m B Hm.out HB.out hm1 hm30 hi hb true Hr.out _).mono ?_); rintro e w' ⟨rfl, rfl⟩))
        go_ret
        exact ⟨rfl, rfl⟩
      | false =>
        go_wp2_with (first
          | (go_at_call 48; (with_reducible refine (rBegins_any bs (cbits k) i m B Hm.out HB.out hm1 hm30 hi hb false Hr.out _).mono ?_); rintro e w' ⟨rfl, rfl⟩))
        go_roundg g1
        case measure => omega
        case rel => exact ⟨k + 1, by omega, by go_num, by have := Hn2.out; simpa [nextI] using this, rfl⟩
    | zero =>
      obtain rfl : k = 257 := by omega
      have hq1 : q = -1 := by have := Hn.out; simpa [nextI, nextS] using this.symm
      subst hq1
      go_wp2
      go_ret
      exact ⟨rfl, rfl⟩
end Go.Proofs.YtdmheinepkeglaaDoor
