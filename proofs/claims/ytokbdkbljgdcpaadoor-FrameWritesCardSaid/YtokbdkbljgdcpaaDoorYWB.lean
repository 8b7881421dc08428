/- Several texts in one: RfA, RfB, RfC, RfG, RfI, RfJ. -/
import Derived.Test.YtokbdkbljgdcpaaDoorY3
import Derived.Test.YtokbdkbljgdcpaaDoorY2
import Derived.Deep.LoopGhost
import Derived.Test.YtokbdkbljgdcpaaDoorY1
import Derived.Test.YtokbdkbljgdcpaaDoorY48
import Derived.Test.YtokbdkbljgdcpaaDoorY24
/- The document's small answers of layer 6: named, stray, low, Has, in. -/
namespace Go.Proofs.YtokbdkbljgdcpaaDoor
open Go.RowKit Go.Own Go.Frm
set_option linter.unusedVariables false
set_option maxRecDepth 100000
/-- must a stream of this kind be one, none, or either -/
def nmP (k : Nat) : Int := bif onS k then 1 else bif onC k then -1 else 0
theorem named_c (k : Nat) (w : World) : Calls Tryd.prog 67 #[.int .i64 (k : Int)] w fun e w' => e = .returned (.int .i64 (nmP k)) ∧ w' = w := by
  rcases kinds k with rfl | rfl | rfl | rfl | rfl | rfl | rfl | rfl | rfl | rfl | hk
  rotate_right 1
  · have n0 : nmP k = 0 := by
      obtain ⟨_, _, _, _, _, _, _, _, _, _, _, _, h1, h2, _⟩ := hi_letters k hk
      unfold nmP; rw [h1, h2]; rfl
    rw [n0]
    have e0 : ((k : Int) == 0) = false := by simp; omega
    have e1 : ((k : Int) == 1) = false := by simp; omega
    have e2 : ((k : Int) == 2) = false := by simp; omega
    have e3 : ((k : Int) == 3) = false := by simp; omega
    have e4 : ((k : Int) == 4) = false := by simp; omega
    have e5 : ((k : Int) == 5) = false := by simp; omega
    have e6 : ((k : Int) == 6) = false := by simp; omega
    have e7 : ((k : Int) == 7) = false := by simp; omega
    have e9 : ((k : Int) == 9) = false := by simp; omega
    clear n0
    go_enter Tryd.func67, Tryd.ntmps67
    go_wp2
    go_ret
    exact ⟨rfl, rfl⟩
  all_goals
    go_enter Tryd.func67, Tryd.ntmps67
    go_wp2
    go_ret
    exact ⟨rfl, rfl⟩
theorem nm_stray (k : Nat) (s : Int) : stray k s = ((nmP k == 1 && s == 0) || (nmP k == -1 && s != 0)) := by
  unfold stray nmP
  rcases kinds k with rfl | rfl | rfl | rfl | rfl | rfl | rfl | rfl | rfl | rfl | hk
  rotate_right 1
  · obtain ⟨_, _, _, _, _, _, _, _, _, _, _, _, h1, h2, _⟩ := hi_letters k hk
    rw [h1, h2]; rfl
  all_goals (cases (s == 0) <;> simp [onS, onC, bne])
theorem nm_ways (k : Nat) : nmP k = 1 ∨ nmP k = -1 ∨ nmP k = 0 := by
  unfold nmP
  cases onS k
  · cases onC k
    · exact .inr (.inr rfl)
    · exact .inr (.inl rfl)
  · exact .inl rfl
theorem stray_c (k : Nat) (s : Int) (w : World) : Calls Tryd.prog 45 #[.int .i64 (k : Int), .int .i64 s] w fun e w' => e = .returned (.bool (stray k s)) ∧ w' = w := by
  rw [nm_stray]
  rcases nm_ways k with h | h | h
  · by_cases hs : s = 0
    · subst hs
      rw [h]
      have HH := Lib.hid h
      clear h
      go_enter Tryd.func45, Tryd.ntmps45
      go_wp2_with (first
        | (go_at_call 67; (with_reducible refine (named_c k _).mono ?_); rintro e w1 ⟨rfl, rfl⟩; rw [HH.out]))
      go_ret
      exact ⟨rfl, rfl⟩
    · have e : (s == 0) = false := by simpa using hs
      have e2 : (s != 0) = true := by simpa using hs
      rw [h, e, e2]
      have HH := Lib.hid h
      clear h hs
      go_enter Tryd.func45, Tryd.ntmps45
      go_wp2_with (first
        | (go_at_call 67; (with_reducible refine (named_c k _).mono ?_); rintro e w1 ⟨rfl, rfl⟩; rw [HH.out]))
      go_ret
      exact ⟨rfl, rfl⟩
  · by_cases hs : s = 0
    · subst hs
      rw [h]
      have HH := Lib.hid h
      clear h
      go_enter Tryd.func45, Tryd.ntmps45
      go_wp2_with (first
        | (go_at_call 67; (with_reducible refine (named_c k _).mono ?_); rintro e w1 ⟨rfl, rfl⟩; rw [HH.out]))
      go_ret
      exact ⟨rfl, rfl⟩
    · have e : (s == 0) = false := by simpa using hs
      have e2 : (s != 0) = true := by simpa using hs
      rw [h, e, e2]
      have HH := Lib.hid h
      clear h hs
      go_enter Tryd.func45, Tryd.ntmps45
      go_wp2_with (first
        | (go_at_call 67; (with_reducible refine (named_c k _).mono ?_); rintro e w1 ⟨rfl, rfl⟩; rw [HH.out]))
      go_ret
      exact ⟨rfl, rfl⟩
  · rw [h]
    have HH := Lib.hid h
    clear h
    go_enter Tryd.func45, Tryd.ntmps45
    go_wp2_with (first
      | (go_at_call 67; (with_reducible refine (named_c k _).mono ?_); rintro e w1 ⟨rfl, rfl⟩; rw [HH.out]))
    go_ret
    exact ⟨rfl, rfl⟩
/-- what a kind has, in letters -/
def letS (k : Nat) : List UInt8 :=
  if k = 0 then [101, 112, 98] else if k = 1 then [101, 104, 112, 114, 98] else if k = 2 then [119] else if k = 3 then [99] else if k = 4 then [97, 108] else if k = 5 then [104, 112, 116, 98] else if k = 6 then [97, 98] else if k = 7 then [116, 99, 98] else if k = 8 then [105] else if k = 9 then [104, 98] else [102, 98]
set_option maxHeartbeats 2000000 in
theorem has_c (k : Nat) (w : World) : Calls Tryd.prog 48 #[.int .i64 (k : Int)] w fun e w' => e = .returned (.string ⟨(letS k).toArray⟩) ∧ Below w.heap.size w w' := by
  rcases kinds k with rfl | rfl | rfl | rfl | rfl | rfl | rfl | rfl | rfl | rfl | hk
  rotate_right 1
  · have n0 : letS k = [102, 98] := by
      unfold letS
      repeat rw [if_neg (by omega)]
    rw [n0]
    have e0 : ¬ (k : Int) ≤ 9 := by omega
    have e1 : (9 : Int) < (k : Int) := by omega
    have e2 : (0 : Int) ≤ (k : Int) := by omega
    clear n0
    go_enter Tryd.func48, Tryd.ntmps48
    go_wp2
    go_ret
    exact ⟨rfl, Below.refl _ _⟩
  all_goals
    go_enter Tryd.func48, Tryd.ntmps48
    go_wp2
    go_ret
    exact ⟨rfl, (Below.refl _ _).alloc (Nat.le_refl _) _⟩
theorem in_c (xs : List UInt8) (c : UInt8) (hx : xs.length ≤ 1000) (w : World) : Calls Tryd.prog 47 #[.string ⟨xs.toArray⟩, .int .u8 (c.toNat : Int)] w fun e w' => e = .returned (.bool (xs.contains c)) ∧ w' = w := by
  have HX := Lib.hid hx
  have H0 : Hid (∀ j, j < 0 → xs[j]? ≠ some c) := fun j hj => by omega
  clear hx
  go_enter Tryd.func47, Tryd.ntmps47
  go_wp2
  go_loopg [5] xs.length (fun gh t w' => ∃ j : Nat, gh + j = xs.length ∧ t = .int .i64 (j : Int) ∧ (∀ i, i < j → xs[i]? ≠ some c) ∧ w' = w)
  case atStart => exact ⟨0, by omega, rfl, H0.out, rfl⟩
  case round =>
    obtain ⟨j, hj, rfl, hno, rfl⟩ := hrel
    have HNO := Lib.hid hno
    have HJ := Lib.hid hj
    clear hno
    cases gk with
    | zero =>
      have k1 : ¬ j < xs.length := by omega
      have HJL : Hid (j = xs.length) := by show j = xs.length; omega
      clear hj
      go_wp2
      go_ret
      refine ⟨?_, rfl⟩
      have h : xs.contains c = false := by
        rw [Bool.eq_false_iff]
        intro h
        have hm : c ∈ xs := by simpa using h
        obtain ⟨i, hi, he⟩ := List.getElem_of_mem hm
        exact HNO.out i (by rw [HJL.out]; exact hi) (by rw [List.getElem?_eq_getElem hi, he])
      rw [h]; rfl
    | succ g1 =>
      have k1 : j < xs.length := by omega
      obtain ⟨x, hx⟩ : ∃ x, xs[j]? = some x := ⟨_, List.getElem?_eq_getElem k1⟩
      have hel : ∀ h, (({ data := xs.toArray } : ByteArray)[j]'h) = x := fun h => by
        have h2 : xs[j]'k1 = x := (List.getElem?_eq_some_iff.1 hx).2
        rw [← h2]
        simp [ByteArray.getElem_eq_getElem_data]
      obtain ⟨j1, hj1⟩ : ∃ y, j + 1 = y := ⟨_, rfl⟩
      have wj : IntKind.i64.wrap ((j : Int) + 1) = (j1 : Int) := by have := HX.out; rw [IntKind.wrap_i64]; omega
      have HJ1 := Lib.hid hj1
      have HXJ := Lib.hid hx
      clear hj hj1 hx
      by_cases he : x = c
      · subst he
        have hb : ((x.toNat : Int) == (x.toNat : Int)) = true := by simp
        go_wp2
        go_ret
        refine ⟨?_, rfl⟩
        have h : xs.contains x = true := by
          have := List.mem_of_getElem? HXJ.out
          simpa using this
        rw [h]; rfl
      · have hb : ((x.toNat : Int) == (c.toNat : Int)) = false := by
          rw [beq_eq_false_iff_ne]
          intro h
          exact he (UInt8.toNat_inj.1 (by omega))
        have HE := Lib.hid he
        clear he
        go_wp2
        go_roundg g1
        case measure => omega
        case rel =>
          have h1 := HJ.out
          have h2 := HJ1.out
          exact ⟨j1, by omega, rfl, fun i hi => by
            by_cases h : i = j
            · subst h
              rw [HXJ.out]
              intro h
              injection h with h
              exact HE.out h
            · exact HNO.out i (by omega), rfl⟩
theorem low_c (n : Nat) (hn : n < 18446744073709551616) (w : World) : Calls Tryd.prog 43 #[.int .u64 (n : Int)] w fun e w' => e = .returned (.int .i64 ((low n : Nat) : Int)) ∧ w' = w := by
  obtain ⟨r, hr⟩ : ∃ r, low n = r := ⟨_, rfl⟩
  have hr2 : r < 2147483648 := by rw [← hr]; exact Nat.mod_lt _ (by omega)
  have e1 : (n : Int) % 2147483648 = (r : Int) := by rw [← hr]; show _ = ((n % 2147483648 : Nat) : Int); omega
  have e2 : (n : Int).tmod 2147483648 = (r : Int) := by rw [Int.tmod_eq_emod_of_nonneg (by omega)]; exact e1
  rw [hr]
  clear hr
  go_enter Tryd.func43, Tryd.ntmps43
  go_wp2
  go_ret
  exact ⟨rfl, rfl⟩
end Go.Proofs.YtokbdkbljgdcpaaDoor

/- The document's small answers of layer 6: number. -/
namespace Go.Proofs.YtokbdkbljgdcpaaDoor
open Go.RowKit Go.Own Go.Frm
set_option linter.unusedVariables false
set_option maxRecDepth 100000
theorem be_get : ∀ (n v j : Nat), j < n → (be v n)[j]? = some (UInt8.ofNat (v / 256 ^ (n - 1 - j)))
  | 0, _, _, h => absurd h (by omega)
  | n + 1, v, 0, _ => by rw [be_succ]; simp
  | n + 1, v, j + 1, h => by
    rw [be_succ, List.getElem?_cons_succ, be_get n v j (by omega), show n + 1 - 1 - (j + 1) = n - 1 - j by omega]
theorem own_lit0' (w : World) : (w.alloc (.cells #[] 5)).ownsRow w.heap.size 5 1 (.slice (some ⟨w.heap.size, 0, none⟩) 0 0) 0 [] := by
  have h := own_of_blk (n := 0) (size := 1) (cap := 0) (Blk.new w 5 []) (by simp) (Nat.le_refl _) (by unfold maxLen; omega)
  rw [List.take_nil] at h
  refine ⟨h.1, ?_⟩
  rcases h.2 with hn | ⟨g, cap, cur, hv, hb, rest⟩
  · exact .inl hn
  · refine .inr ⟨g, cap, cur, hv, ?_, rest⟩
    cases hv
    exact Nat.le_refl _
theorem u8_one (z : Int) : ∀ v ∈ [Value.int .u8 z], v.oneCell' = true := by
  intro v hv
  simp at hv; subst hv; rfl
theorem bvn' (x : Nat) (y : Int) (h : y = ((x % 256 : Nat) : Int)) : BV (UInt8.ofNat x) = .int .u8 y := by
  subst h
  show Value.int .u8 _ = _
  simp
set_option maxHeartbeats 1000000 in
theorem number_r (v n : Nat) (hv : v < 18446744073709551616) (hn : n ≤ 8) (w : World) : Calls Tryd.prog 36 #[.int .u64 (v : Int), .int .i64 (n : Int)] w fun e w' => e = .returned (.string ⟨(be v n).toArray⟩) ∧ Below w.heap.size w w' := by
  have wn : IntKind.i64.wrap ((n : Int) - 1) = (n : Int) - 1 := by rw [IntKind.wrap_i64]; omega
  go_enter Tryd.func36, Tryd.ntmps36
  go_wp2
  go_loopg [5, 6] n (fun gh o t w' => ∃ (A : Option Addr) (m c : Nat), gh + m = n ∧ t = .int .i64 ((gh : Int) - 1) ∧ o = .slice A m c ∧ w'.ownsRow w.heap.size 5 1 (.slice A m c) m (((be v n).take m).map BV) ∧ Below w.heap.size w w')
  case atStart => exact ⟨some ⟨w.heap.size, 0, none⟩, 0, 0, by omega, rfl, rfl, own_lit0' w, (Below.refl _ _).alloc (Nat.le_refl _) _⟩
  case round =>
    obtain ⟨A, m, c, hm, rfl, rfl, how, hb⟩ := hrel
    cases gk with
    | zero =>
      have HB := Lib.hid hb
      obtain rfl : m = n := by omega
      rw [List.take_of_length_le (by rw [be_length]; omega)] at how
      have cv := run_conv_bytes (src := 22) (dst := 9) (c := c) Tryd.underlying22 Tryd.underlying5 Tryd.underlying9 (Rd.of_own how)
      clear how hb hm
      go_wp2
      go_ret
      exact ⟨rfl, HB.out⟩
    | succ g =>
      have k1 : (0 : Int) ≤ ((g + 1 : Nat) : Int) - 1 := by omega
      have e0 : (((g + 1 : Nat) : Int) - 1) = (g : Int) := by omega
      rw [e0]
      have hlt : m < n := by omega
      have hbv : BV (UInt8.ofNat (v / 256 ^ g)) = .int .u8 ((v : Int) / 2 ^ (8 * g) % 256) := bvn' _ _ (by
        have e : (256 : Nat) ^ g = 2 ^ (8 * g) := by rw [Nat.pow_mul]
        rw [e]
        have h2 : ((v / 2 ^ (8 * g) : Nat) : Int) = (v : Int) / 2 ^ (8 * g) := by simp
        rw [Int.natCast_emod, h2]
        rfl)
      have hsn : (be v n).take (m + 1) = (be v n).take m ++ [UInt8.ofNat (v / 256 ^ g)] := by
        have h := be_get n v m hlt
        rw [show n - 1 - m = g by omega] at h
        rw [List.take_add_one, h]
        rfl
      have hal : Fr (fun _ => False) wr (wr.alloc (.cells #[.int .u8 ((v : Int) / 2 ^ (8 * g) % 256)] 5)) := (Fr.refl _ _).alloc _
      have O4 := Lib.hid (own_fr (S := fun _ => False) how hal (fun _ _ h => h))
      have X4 : Hid (Rd (wr.alloc (.cells #[.int .u8 ((v : Int) / 2 ^ (8 * g) % 256)] 5)) 1 (some ⟨wr.heap.size, 0, none⟩) 1 [.int .u8 ((v : Int) / 2 ^ (8 * g) % 256)]) := Rd.of_blk (n := 1) (size := 1) (Blk.new wr 5 [.int .u8 ((v : Int) / 2 ^ (8 * g) % 256)]) (by simp)
      have B4 := Lib.hid (hb.alloc hb.size (.cells #[.int .u8 ((v : Int) / 2 ^ (8 * g) % 256)] 5))
      have hs4 : Hid (w.heap.size ≤ (wr.alloc (.cells #[.int .u8 ((v : Int) / 2 ^ (8 * g) % 256)] 5)).heap.size) := B4.out.size
      have HSN := Lib.hid hsn
      have HBV := Lib.hid hbv
      have HM := Lib.hid hm
      have hg7 : g ≤ 7 := by omega
      clear hal how hb hsn hbv hm
      go_wp2_with (first
        | (at_builtin
           refine wpList_append_rd rfl (.tmp 14) (.tmp 21) 22 rfl EB (.slice A m c) m (((be v n).take m).map BV) rfl O4.out (some ⟨wr.heap.size, 0, none⟩) 1 1 [.int .u8 ((v : Int) / 2 ^ (8 * g) % 256)] rfl X4.out (u8_one _) (by omega) (by unfold maxLen; omega) hs4.out ?_
           intro A6 c6 w6 ho6 hf6 h26
           have e6 : ((be v n).take m).map BV ++ [.int .u8 ((v : Int) / 2 ^ (8 * g) % 256)] = ((be v n).take (m + 1)).map BV := by rw [HSN.out, List.map_append, ← HBV.out]; rfl
           rw [e6] at ho6
           have O6 := Lib.hid ho6
           have B6 := Lib.hid (B4.out.trans (hf6.below hs4.out (fun i _ e => (O4.out.lt i e.symm).1)))
           clear ho6 hf6 h26 e6))
      go_roundg g
      case measure => omega
      case rel => exact ⟨A6, m + 1, c6, by have := HM.out; omega, by go_num, rfl, O6.out, B6.out⟩
end Go.Proofs.YtokbdkbljgdcpaaDoor

/- The document's small answers of layer 6: flags. -/
namespace Go.Proofs.YtokbdkbljgdcpaaDoor
open Go.RowKit Go.Own Go.Frm
set_option linter.unusedVariables false
set_option maxRecDepth 100000
set_option maxHeartbeats 4000000 in
theorem flags_r (f : Fm) (h0 : 0 ≤ f.flags) (h1 : f.flags ≤ 255) (pv lv : Value) (w : World) : Calls Tryd.prog 37 #[frV f pv lv] w fun e w' => e = .returned (.int .i64 ((flagsN f : Nat) : Int)) ∧ Below w.heap.size w w' := by
  obtain ⟨kind, stream, fin, eh, ack, prio, pay, flags, pad, depend, excl, weight, code, list, last, inc⟩ := f
  simp only at h0 h1
  obtain ⟨n, rfl⟩ : ∃ n : Nat, flags = (n : Int) := ⟨flags.toNat, by omega⟩
  have hf : ∀ b1 b2 b3 b4 : Bool, flagsN ⟨kind, stream, b1, b2, b3, b4, pay, (n : Int), pad, depend, excl, weight, code, list, last, inc⟩ = n + (bif b1 || b3 then 1 else 0) + (bif b2 then 4 else 0) + (bif decide (0 < pad) then 8 else 0) + (bif b4 then 32 else 0) := fun _ _ _ _ => rfl
  rw [hf]
  have hn : n ≤ 255 := by omega
  by_cases hp : 0 < pad
  · rw [decide_eq_true hp]
    clear hf h0 h1
    cases fin <;> cases ack <;> cases eh <;> cases prio
    all_goals
      go_enter Tryd.func37, Tryd.ntmps37
      go_wp2
      go_ret
      refine ⟨congrArg (fun z => Ending.returned (Value.int .i64 z)) ?_, (Below.refl _ _).alloc (Nat.le_refl _) _⟩
      first | rfl | omega | (simp; done) | (simp; omega)
  · rw [decide_eq_false hp]
    clear hf h0 h1
    cases fin <;> cases ack <;> cases eh <;> cases prio
    all_goals
      go_enter Tryd.func37, Tryd.ntmps37
      go_wp2
      go_ret
      refine ⟨congrArg (fun z => Ending.returned (Value.int .i64 z)) ?_, (Below.refl _ _).alloc (Nat.le_refl _) _⟩
      first | rfl | omega | (simp; done) | (simp; omega)
end Go.Proofs.YtokbdkbljgdcpaaDoor

/- The document's parser: least. -/
namespace Go.Proofs.YtokbdkbljgdcpaaDoor
open Go.RowKit Go.Own Go.Frm
set_option linter.unusedVariables false
set_option maxRecDepth 100000
theorem let_p (k : Nat) : (letS k).contains 112 = hP k := by
  rcases kinds k with rfl | rfl | rfl | rfl | rfl | rfl | rfl | rfl | rfl | rfl | hk
  rotate_right 1
  · have n0 : letS k = [102, 98] := by
      unfold letS
      repeat rw [if_neg (by omega)]
    obtain ⟨_, h2, _⟩ := hi_letters k hk
    rw [n0, h2]; rfl
  all_goals rfl
theorem letS_len (k : Nat) : (letS k).length ≤ 1000 := by
  unfold letS
  repeat' split
  all_goals (simp)
theorem in_k (k : Nat) (c : UInt8) (b : Bool) (h : (letS k).contains c = b) (z : Int) (hz : z = (c.toNat : Int)) (w : World) : Calls Tryd.prog 47 #[.string ⟨(letS k).toArray⟩, .int .u8 z] w fun e w' => e = .returned (.bool b) ∧ w' = w := by
  subst hz h
  exact in_c (letS k) c (letS_len k) w
theorem has_k (k : Nat) (z : Int) (hz : z = (k : Int)) (w : World) : Calls Tryd.prog 48 #[.int .i64 z] w fun e w' => e = .returned (.string ⟨(letS k).toArray⟩) ∧ Below w.heap.size w w' := by
  subst hz
  exact has_c k w
set_option maxHeartbeats 8000000 in
theorem least_c (k fl : Nat) (hk : k < 256) (hfl : fl < 256) (w : World) : Calls Tryd.prog 46 #[.int .i64 (k : Int), .int .i64 (fl : Int)] w fun e w' => e = .returned (.tuple #[.int .i64 ((must k fl : Nat) : Int), .bool (just k)]) ∧ Below w.heap.size w w' := by
  have b8 : (bits .and .i64 (fl : Int) 8 != 0) = fl.testBit 3 := and_pow fl 3 (by omega) (by omega)
  have b32 : (bits .and .i64 (fl : Int) 32 != 0) = fl.testBit 5 := and_pow fl 5 (by omega) (by omega)
  obtain ⟨t3, h3⟩ : ∃ b, fl.testBit 3 = b := ⟨_, rfl⟩
  obtain ⟨t5, h5⟩ : ∃ b, fl.testBit 5 = b := ⟨_, rfl⟩
  rw [h3] at b8
  rw [h5] at b32
  have hm : must k fl = base k + (bif hP k && t3 then 1 else 0) + (bif hR k && t5 then 5 else 0) := by unfold must padded withP; rw [h3, h5]
  rw [hm]
  clear hm h3 h5
  rcases kinds k with rfl | rfl | rfl | rfl | rfl | rfl | rfl | rfl | rfl | rfl | hk10
  · cases t3 <;> cases t5
    · have LP : Hid ((letS 0).contains 112 = true) := (let_p 0)
      have LZ : Hid ((112 : Int) = ((112 : UInt8).toNat : Int)) := rfl
      go_enter Tryd.func46, Tryd.ntmps46
      go_wp2_with (first
        | (go_at_call 48; (with_reducible refine (has_k 0 0 rfl _).mono ?_); rintro e w1 ⟨rfl, hb⟩
           have HB := Lib.hid hb
           clear hb)
        | (go_at_call 47; (with_reducible refine (in_k 0 112 true LP.out 112 LZ.out _).mono ?_); rintro e w2 ⟨rfl, rfl⟩))
      refine bodyPost_ret (v := .tuple #[.int .i64 0, .bool false]) (by simp [results, Tryd.results46, go_sem]) rfl ⟨rfl, HB.out⟩
    · have LP : Hid ((letS 0).contains 112 = true) := (let_p 0)
      have LZ : Hid ((112 : Int) = ((112 : UInt8).toNat : Int)) := rfl
      go_enter Tryd.func46, Tryd.ntmps46
      go_wp2_with (first
        | (go_at_call 48; (with_reducible refine (has_k 0 0 rfl _).mono ?_); rintro e w1 ⟨rfl, hb⟩
           have HB := Lib.hid hb
           clear hb)
        | (go_at_call 47; (with_reducible refine (in_k 0 112 true LP.out 112 LZ.out _).mono ?_); rintro e w2 ⟨rfl, rfl⟩))
      refine bodyPost_ret (v := .tuple #[.int .i64 0, .bool false]) (by simp [results, Tryd.results46, go_sem]) rfl ⟨rfl, HB.out⟩
    · have LP : Hid ((letS 0).contains 112 = true) := (let_p 0)
      have LZ : Hid ((112 : Int) = ((112 : UInt8).toNat : Int)) := rfl
      go_enter Tryd.func46, Tryd.ntmps46
      go_wp2_with (first
        | (go_at_call 48; (with_reducible refine (has_k 0 0 rfl _).mono ?_); rintro e w1 ⟨rfl, hb⟩
           have HB := Lib.hid hb
           clear hb)
        | (go_at_call 47; (with_reducible refine (in_k 0 112 true LP.out 112 LZ.out _).mono ?_); rintro e w2 ⟨rfl, rfl⟩))
      refine bodyPost_ret (v := .tuple #[.int .i64 1, .bool false]) (by simp [results, Tryd.results46, go_sem]) rfl ⟨rfl, HB.out⟩
    · have LP : Hid ((letS 0).contains 112 = true) := (let_p 0)
      have LZ : Hid ((112 : Int) = ((112 : UInt8).toNat : Int)) := rfl
      go_enter Tryd.func46, Tryd.ntmps46
      go_wp2_with (first
        | (go_at_call 48; (with_reducible refine (has_k 0 0 rfl _).mono ?_); rintro e w1 ⟨rfl, hb⟩
           have HB := Lib.hid hb
           clear hb)
        | (go_at_call 47; (with_reducible refine (in_k 0 112 true LP.out 112 LZ.out _).mono ?_); rintro e w2 ⟨rfl, rfl⟩))
      refine bodyPost_ret (v := .tuple #[.int .i64 1, .bool false]) (by simp [results, Tryd.results46, go_sem]) rfl ⟨rfl, HB.out⟩
  · cases t3 <;> cases t5
    · have LP : Hid ((letS 1).contains 112 = true) := (let_p 1)
      have LZ : Hid ((112 : Int) = ((112 : UInt8).toNat : Int)) := rfl
      go_enter Tryd.func46, Tryd.ntmps46
      go_wp2_with (first
        | (go_at_call 48; (with_reducible refine (has_k 1 1 rfl _).mono ?_); rintro e w1 ⟨rfl, hb⟩
           have HB := Lib.hid hb
           clear hb)
        | (go_at_call 47; (with_reducible refine (in_k 1 112 true LP.out 112 LZ.out _).mono ?_); rintro e w2 ⟨rfl, rfl⟩))
      refine bodyPost_ret (v := .tuple #[.int .i64 0, .bool false]) (by simp [results, Tryd.results46, go_sem]) rfl ⟨rfl, HB.out⟩
    · have LP : Hid ((letS 1).contains 112 = true) := (let_p 1)
      have LZ : Hid ((112 : Int) = ((112 : UInt8).toNat : Int)) := rfl
      go_enter Tryd.func46, Tryd.ntmps46
      go_wp2_with (first
        | (go_at_call 48; (with_reducible refine (has_k 1 1 rfl _).mono ?_); rintro e w1 ⟨rfl, hb⟩
           have HB := Lib.hid hb
           clear hb)
        | (go_at_call 47; (with_reducible refine (in_k 1 112 true LP.out 112 LZ.out _).mono ?_); rintro e w2 ⟨rfl, rfl⟩))
      refine bodyPost_ret (v := .tuple #[.int .i64 5, .bool false]) (by simp [results, Tryd.results46, go_sem]) rfl ⟨rfl, HB.out⟩
    · have LP : Hid ((letS 1).contains 112 = true) := (let_p 1)
      have LZ : Hid ((112 : Int) = ((112 : UInt8).toNat : Int)) := rfl
      go_enter Tryd.func46, Tryd.ntmps46
      go_wp2_with (first
        | (go_at_call 48; (with_reducible refine (has_k 1 1 rfl _).mono ?_); rintro e w1 ⟨rfl, hb⟩
           have HB := Lib.hid hb
           clear hb)
        | (go_at_call 47; (with_reducible refine (in_k 1 112 true LP.out 112 LZ.out _).mono ?_); rintro e w2 ⟨rfl, rfl⟩))
      refine bodyPost_ret (v := .tuple #[.int .i64 1, .bool false]) (by simp [results, Tryd.results46, go_sem]) rfl ⟨rfl, HB.out⟩
    · have LP : Hid ((letS 1).contains 112 = true) := (let_p 1)
      have LZ : Hid ((112 : Int) = ((112 : UInt8).toNat : Int)) := rfl
      go_enter Tryd.func46, Tryd.ntmps46
      go_wp2_with (first
        | (go_at_call 48; (with_reducible refine (has_k 1 1 rfl _).mono ?_); rintro e w1 ⟨rfl, hb⟩
           have HB := Lib.hid hb
           clear hb)
        | (go_at_call 47; (with_reducible refine (in_k 1 112 true LP.out 112 LZ.out _).mono ?_); rintro e w2 ⟨rfl, rfl⟩))
      refine bodyPost_ret (v := .tuple #[.int .i64 6, .bool false]) (by simp [results, Tryd.results46, go_sem]) rfl ⟨rfl, HB.out⟩
  · cases t3 <;> cases t5
    · have LP : Hid ((letS 2).contains 112 = false) := (let_p 2)
      have LZ : Hid ((112 : Int) = ((112 : UInt8).toNat : Int)) := rfl
      go_enter Tryd.func46, Tryd.ntmps46
      go_wp2_with (first
        | (go_at_call 48; (with_reducible refine (has_k 2 2 rfl _).mono ?_); rintro e w1 ⟨rfl, hb⟩
           have HB := Lib.hid hb
           clear hb)
        | (go_at_call 47; (with_reducible refine (in_k 2 112 false LP.out 112 LZ.out _).mono ?_); rintro e w2 ⟨rfl, rfl⟩))
      refine bodyPost_ret (v := .tuple #[.int .i64 5, .bool true]) (by simp [results, Tryd.results46, go_sem]) rfl ⟨rfl, HB.out⟩
    · have LP : Hid ((letS 2).contains 112 = false) := (let_p 2)
      have LZ : Hid ((112 : Int) = ((112 : UInt8).toNat : Int)) := rfl
      go_enter Tryd.func46, Tryd.ntmps46
      go_wp2_with (first
        | (go_at_call 48; (with_reducible refine (has_k 2 2 rfl _).mono ?_); rintro e w1 ⟨rfl, hb⟩
           have HB := Lib.hid hb
           clear hb)
        | (go_at_call 47; (with_reducible refine (in_k 2 112 false LP.out 112 LZ.out _).mono ?_); rintro e w2 ⟨rfl, rfl⟩))
      refine bodyPost_ret (v := .tuple #[.int .i64 5, .bool true]) (by simp [results, Tryd.results46, go_sem]) rfl ⟨rfl, HB.out⟩
    · have LP : Hid ((letS 2).contains 112 = false) := (let_p 2)
      have LZ : Hid ((112 : Int) = ((112 : UInt8).toNat : Int)) := rfl
      go_enter Tryd.func46, Tryd.ntmps46
      go_wp2_with (first
        | (go_at_call 48; (with_reducible refine (has_k 2 2 rfl _).mono ?_); rintro e w1 ⟨rfl, hb⟩
           have HB := Lib.hid hb
           clear hb)
        | (go_at_call 47; (with_reducible refine (in_k 2 112 false LP.out 112 LZ.out _).mono ?_); rintro e w2 ⟨rfl, rfl⟩))
      refine bodyPost_ret (v := .tuple #[.int .i64 5, .bool true]) (by simp [results, Tryd.results46, go_sem]) rfl ⟨rfl, HB.out⟩
    · have LP : Hid ((letS 2).contains 112 = false) := (let_p 2)
      have LZ : Hid ((112 : Int) = ((112 : UInt8).toNat : Int)) := rfl
      go_enter Tryd.func46, Tryd.ntmps46
      go_wp2_with (first
        | (go_at_call 48; (with_reducible refine (has_k 2 2 rfl _).mono ?_); rintro e w1 ⟨rfl, hb⟩
           have HB := Lib.hid hb
           clear hb)
        | (go_at_call 47; (with_reducible refine (in_k 2 112 false LP.out 112 LZ.out _).mono ?_); rintro e w2 ⟨rfl, rfl⟩))
      refine bodyPost_ret (v := .tuple #[.int .i64 5, .bool true]) (by simp [results, Tryd.results46, go_sem]) rfl ⟨rfl, HB.out⟩
  · cases t3 <;> cases t5
    · have LP : Hid ((letS 3).contains 112 = false) := (let_p 3)
      have LZ : Hid ((112 : Int) = ((112 : UInt8).toNat : Int)) := rfl
      go_enter Tryd.func46, Tryd.ntmps46
      go_wp2_with (first
        | (go_at_call 48; (with_reducible refine (has_k 3 3 rfl _).mono ?_); rintro e w1 ⟨rfl, hb⟩
           have HB := Lib.hid hb
           clear hb)
        | (go_at_call 47; (with_reducible refine (in_k 3 112 false LP.out 112 LZ.out _).mono ?_); rintro e w2 ⟨rfl, rfl⟩))
      refine bodyPost_ret (v := .tuple #[.int .i64 4, .bool true]) (by simp [results, Tryd.results46, go_sem]) rfl ⟨rfl, HB.out⟩
    · have LP : Hid ((letS 3).contains 112 = false) := (let_p 3)
      have LZ : Hid ((112 : Int) = ((112 : UInt8).toNat : Int)) := rfl
      go_enter Tryd.func46, Tryd.ntmps46
      go_wp2_with (first
        | (go_at_call 48; (with_reducible refine (has_k 3 3 rfl _).mono ?_); rintro e w1 ⟨rfl, hb⟩
           have HB := Lib.hid hb
           clear hb)
        | (go_at_call 47; (with_reducible refine (in_k 3 112 false LP.out 112 LZ.out _).mono ?_); rintro e w2 ⟨rfl, rfl⟩))
      refine bodyPost_ret (v := .tuple #[.int .i64 4, .bool true]) (by simp [results, Tryd.results46, go_sem]) rfl ⟨rfl, HB.out⟩
    · have LP : Hid ((letS 3).contains 112 = false) := (let_p 3)
      have LZ : Hid ((112 : Int) = ((112 : UInt8).toNat : Int)) := rfl
      go_enter Tryd.func46, Tryd.ntmps46
      go_wp2_with (first
        | (go_at_call 48; (with_reducible refine (has_k 3 3 rfl _).mono ?_); rintro e w1 ⟨rfl, hb⟩
           have HB := Lib.hid hb
           clear hb)
        | (go_at_call 47; (with_reducible refine (in_k 3 112 false LP.out 112 LZ.out _).mono ?_); rintro e w2 ⟨rfl, rfl⟩))
      refine bodyPost_ret (v := .tuple #[.int .i64 4, .bool true]) (by simp [results, Tryd.results46, go_sem]) rfl ⟨rfl, HB.out⟩
    · have LP : Hid ((letS 3).contains 112 = false) := (let_p 3)
      have LZ : Hid ((112 : Int) = ((112 : UInt8).toNat : Int)) := rfl
      go_enter Tryd.func46, Tryd.ntmps46
      go_wp2_with (first
        | (go_at_call 48; (with_reducible refine (has_k 3 3 rfl _).mono ?_); rintro e w1 ⟨rfl, hb⟩
           have HB := Lib.hid hb
           clear hb)
        | (go_at_call 47; (with_reducible refine (in_k 3 112 false LP.out 112 LZ.out _).mono ?_); rintro e w2 ⟨rfl, rfl⟩))
      refine bodyPost_ret (v := .tuple #[.int .i64 4, .bool true]) (by simp [results, Tryd.results46, go_sem]) rfl ⟨rfl, HB.out⟩
  · cases t3 <;> cases t5
    · have LP : Hid ((letS 4).contains 112 = false) := (let_p 4)
      have LZ : Hid ((112 : Int) = ((112 : UInt8).toNat : Int)) := rfl
      go_enter Tryd.func46, Tryd.ntmps46
      go_wp2_with (first
        | (go_at_call 48; (with_reducible refine (has_k 4 4 rfl _).mono ?_); rintro e w1 ⟨rfl, hb⟩
           have HB := Lib.hid hb
           clear hb)
        | (go_at_call 47; (with_reducible refine (in_k 4 112 false LP.out 112 LZ.out _).mono ?_); rintro e w2 ⟨rfl, rfl⟩))
      refine bodyPost_ret (v := .tuple #[.int .i64 0, .bool false]) (by simp [results, Tryd.results46, go_sem]) rfl ⟨rfl, HB.out⟩
    · have LP : Hid ((letS 4).contains 112 = false) := (let_p 4)
      have LZ : Hid ((112 : Int) = ((112 : UInt8).toNat : Int)) := rfl
      go_enter Tryd.func46, Tryd.ntmps46
      go_wp2_with (first
        | (go_at_call 48; (with_reducible refine (has_k 4 4 rfl _).mono ?_); rintro e w1 ⟨rfl, hb⟩
           have HB := Lib.hid hb
           clear hb)
        | (go_at_call 47; (with_reducible refine (in_k 4 112 false LP.out 112 LZ.out _).mono ?_); rintro e w2 ⟨rfl, rfl⟩))
      refine bodyPost_ret (v := .tuple #[.int .i64 0, .bool false]) (by simp [results, Tryd.results46, go_sem]) rfl ⟨rfl, HB.out⟩
    · have LP : Hid ((letS 4).contains 112 = false) := (let_p 4)
      have LZ : Hid ((112 : Int) = ((112 : UInt8).toNat : Int)) := rfl
      go_enter Tryd.func46, Tryd.ntmps46
      go_wp2_with (first
        | (go_at_call 48; (with_reducible refine (has_k 4 4 rfl _).mono ?_); rintro e w1 ⟨rfl, hb⟩
           have HB := Lib.hid hb
           clear hb)
        | (go_at_call 47; (with_reducible refine (in_k 4 112 false LP.out 112 LZ.out _).mono ?_); rintro e w2 ⟨rfl, rfl⟩))
      refine bodyPost_ret (v := .tuple #[.int .i64 0, .bool false]) (by simp [results, Tryd.results46, go_sem]) rfl ⟨rfl, HB.out⟩
    · have LP : Hid ((letS 4).contains 112 = false) := (let_p 4)
      have LZ : Hid ((112 : Int) = ((112 : UInt8).toNat : Int)) := rfl
      go_enter Tryd.func46, Tryd.ntmps46
      go_wp2_with (first
        | (go_at_call 48; (with_reducible refine (has_k 4 4 rfl _).mono ?_); rintro e w1 ⟨rfl, hb⟩
           have HB := Lib.hid hb
           clear hb)
        | (go_at_call 47; (with_reducible refine (in_k 4 112 false LP.out 112 LZ.out _).mono ?_); rintro e w2 ⟨rfl, rfl⟩))
      refine bodyPost_ret (v := .tuple #[.int .i64 0, .bool false]) (by simp [results, Tryd.results46, go_sem]) rfl ⟨rfl, HB.out⟩
  · cases t3 <;> cases t5
    · have LP : Hid ((letS 5).contains 112 = true) := (let_p 5)
      have LZ : Hid ((112 : Int) = ((112 : UInt8).toNat : Int)) := rfl
      go_enter Tryd.func46, Tryd.ntmps46
      go_wp2_with (first
        | (go_at_call 48; (with_reducible refine (has_k 5 5 rfl _).mono ?_); rintro e w1 ⟨rfl, hb⟩
           have HB := Lib.hid hb
           clear hb)
        | (go_at_call 47; (with_reducible refine (in_k 5 112 true LP.out 112 LZ.out _).mono ?_); rintro e w2 ⟨rfl, rfl⟩))
      refine bodyPost_ret (v := .tuple #[.int .i64 4, .bool false]) (by simp [results, Tryd.results46, go_sem]) rfl ⟨rfl, HB.out⟩
    · have LP : Hid ((letS 5).contains 112 = true) := (let_p 5)
      have LZ : Hid ((112 : Int) = ((112 : UInt8).toNat : Int)) := rfl
      go_enter Tryd.func46, Tryd.ntmps46
      go_wp2_with (first
        | (go_at_call 48; (with_reducible refine (has_k 5 5 rfl _).mono ?_); rintro e w1 ⟨rfl, hb⟩
           have HB := Lib.hid hb
           clear hb)
        | (go_at_call 47; (with_reducible refine (in_k 5 112 true LP.out 112 LZ.out _).mono ?_); rintro e w2 ⟨rfl, rfl⟩))
      refine bodyPost_ret (v := .tuple #[.int .i64 4, .bool false]) (by simp [results, Tryd.results46, go_sem]) rfl ⟨rfl, HB.out⟩
    · have LP : Hid ((letS 5).contains 112 = true) := (let_p 5)
      have LZ : Hid ((112 : Int) = ((112 : UInt8).toNat : Int)) := rfl
      go_enter Tryd.func46, Tryd.ntmps46
      go_wp2_with (first
        | (go_at_call 48; (with_reducible refine (has_k 5 5 rfl _).mono ?_); rintro e w1 ⟨rfl, hb⟩
           have HB := Lib.hid hb
           clear hb)
        | (go_at_call 47; (with_reducible refine (in_k 5 112 true LP.out 112 LZ.out _).mono ?_); rintro e w2 ⟨rfl, rfl⟩))
      refine bodyPost_ret (v := .tuple #[.int .i64 5, .bool false]) (by simp [results, Tryd.results46, go_sem]) rfl ⟨rfl, HB.out⟩
    · have LP : Hid ((letS 5).contains 112 = true) := (let_p 5)
      have LZ : Hid ((112 : Int) = ((112 : UInt8).toNat : Int)) := rfl
      go_enter Tryd.func46, Tryd.ntmps46
      go_wp2_with (first
        | (go_at_call 48; (with_reducible refine (has_k 5 5 rfl _).mono ?_); rintro e w1 ⟨rfl, hb⟩
           have HB := Lib.hid hb
           clear hb)
        | (go_at_call 47; (with_reducible refine (in_k 5 112 true LP.out 112 LZ.out _).mono ?_); rintro e w2 ⟨rfl, rfl⟩))
      refine bodyPost_ret (v := .tuple #[.int .i64 5, .bool false]) (by simp [results, Tryd.results46, go_sem]) rfl ⟨rfl, HB.out⟩
  · cases t3 <;> cases t5
    · have LP : Hid ((letS 6).contains 112 = false) := (let_p 6)
      have LZ : Hid ((112 : Int) = ((112 : UInt8).toNat : Int)) := rfl
      go_enter Tryd.func46, Tryd.ntmps46
      go_wp2_with (first
        | (go_at_call 48; (with_reducible refine (has_k 6 6 rfl _).mono ?_); rintro e w1 ⟨rfl, hb⟩
           have HB := Lib.hid hb
           clear hb)
        | (go_at_call 47; (with_reducible refine (in_k 6 112 false LP.out 112 LZ.out _).mono ?_); rintro e w2 ⟨rfl, rfl⟩))
      refine bodyPost_ret (v := .tuple #[.int .i64 8, .bool true]) (by simp [results, Tryd.results46, go_sem]) rfl ⟨rfl, HB.out⟩
    · have LP : Hid ((letS 6).contains 112 = false) := (let_p 6)
      have LZ : Hid ((112 : Int) = ((112 : UInt8).toNat : Int)) := rfl
      go_enter Tryd.func46, Tryd.ntmps46
      go_wp2_with (first
        | (go_at_call 48; (with_reducible refine (has_k 6 6 rfl _).mono ?_); rintro e w1 ⟨rfl, hb⟩
           have HB := Lib.hid hb
           clear hb)
        | (go_at_call 47; (with_reducible refine (in_k 6 112 false LP.out 112 LZ.out _).mono ?_); rintro e w2 ⟨rfl, rfl⟩))
      refine bodyPost_ret (v := .tuple #[.int .i64 8, .bool true]) (by simp [results, Tryd.results46, go_sem]) rfl ⟨rfl, HB.out⟩
    · have LP : Hid ((letS 6).contains 112 = false) := (let_p 6)
      have LZ : Hid ((112 : Int) = ((112 : UInt8).toNat : Int)) := rfl
      go_enter Tryd.func46, Tryd.ntmps46
      go_wp2_with (first
        | (go_at_call 48; (with_reducible refine (has_k 6 6 rfl _).mono ?_); rintro e w1 ⟨rfl, hb⟩
           have HB := Lib.hid hb
           clear hb)
        | (go_at_call 47; (with_reducible refine (in_k 6 112 false LP.out 112 LZ.out _).mono ?_); rintro e w2 ⟨rfl, rfl⟩))
      refine bodyPost_ret (v := .tuple #[.int .i64 8, .bool true]) (by simp [results, Tryd.results46, go_sem]) rfl ⟨rfl, HB.out⟩
    · have LP : Hid ((letS 6).contains 112 = false) := (let_p 6)
      have LZ : Hid ((112 : Int) = ((112 : UInt8).toNat : Int)) := rfl
      go_enter Tryd.func46, Tryd.ntmps46
      go_wp2_with (first
        | (go_at_call 48; (with_reducible refine (has_k 6 6 rfl _).mono ?_); rintro e w1 ⟨rfl, hb⟩
           have HB := Lib.hid hb
           clear hb)
        | (go_at_call 47; (with_reducible refine (in_k 6 112 false LP.out 112 LZ.out _).mono ?_); rintro e w2 ⟨rfl, rfl⟩))
      refine bodyPost_ret (v := .tuple #[.int .i64 8, .bool true]) (by simp [results, Tryd.results46, go_sem]) rfl ⟨rfl, HB.out⟩
  · cases t3 <;> cases t5
    · have LP : Hid ((letS 7).contains 112 = false) := (let_p 7)
      have LZ : Hid ((112 : Int) = ((112 : UInt8).toNat : Int)) := rfl
      go_enter Tryd.func46, Tryd.ntmps46
      go_wp2_with (first
        | (go_at_call 48; (with_reducible refine (has_k 7 7 rfl _).mono ?_); rintro e w1 ⟨rfl, hb⟩
           have HB := Lib.hid hb
           clear hb)
        | (go_at_call 47; (with_reducible refine (in_k 7 112 false LP.out 112 LZ.out _).mono ?_); rintro e w2 ⟨rfl, rfl⟩))
      refine bodyPost_ret (v := .tuple #[.int .i64 8, .bool false]) (by simp [results, Tryd.results46, go_sem]) rfl ⟨rfl, HB.out⟩
    · have LP : Hid ((letS 7).contains 112 = false) := (let_p 7)
      have LZ : Hid ((112 : Int) = ((112 : UInt8).toNat : Int)) := rfl
      go_enter Tryd.func46, Tryd.ntmps46
      go_wp2_with (first
        | (go_at_call 48; (with_reducible refine (has_k 7 7 rfl _).mono ?_); rintro e w1 ⟨rfl, hb⟩
           have HB := Lib.hid hb
           clear hb)
        | (go_at_call 47; (with_reducible refine (in_k 7 112 false LP.out 112 LZ.out _).mono ?_); rintro e w2 ⟨rfl, rfl⟩))
      refine bodyPost_ret (v := .tuple #[.int .i64 8, .bool false]) (by simp [results, Tryd.results46, go_sem]) rfl ⟨rfl, HB.out⟩
    · have LP : Hid ((letS 7).contains 112 = false) := (let_p 7)
      have LZ : Hid ((112 : Int) = ((112 : UInt8).toNat : Int)) := rfl
      go_enter Tryd.func46, Tryd.ntmps46
      go_wp2_with (first
        | (go_at_call 48; (with_reducible refine (has_k 7 7 rfl _).mono ?_); rintro e w1 ⟨rfl, hb⟩
           have HB := Lib.hid hb
           clear hb)
        | (go_at_call 47; (with_reducible refine (in_k 7 112 false LP.out 112 LZ.out _).mono ?_); rintro e w2 ⟨rfl, rfl⟩))
      refine bodyPost_ret (v := .tuple #[.int .i64 8, .bool false]) (by simp [results, Tryd.results46, go_sem]) rfl ⟨rfl, HB.out⟩
    · have LP : Hid ((letS 7).contains 112 = false) := (let_p 7)
      have LZ : Hid ((112 : Int) = ((112 : UInt8).toNat : Int)) := rfl
      go_enter Tryd.func46, Tryd.ntmps46
      go_wp2_with (first
        | (go_at_call 48; (with_reducible refine (has_k 7 7 rfl _).mono ?_); rintro e w1 ⟨rfl, hb⟩
           have HB := Lib.hid hb
           clear hb)
        | (go_at_call 47; (with_reducible refine (in_k 7 112 false LP.out 112 LZ.out _).mono ?_); rintro e w2 ⟨rfl, rfl⟩))
      refine bodyPost_ret (v := .tuple #[.int .i64 8, .bool false]) (by simp [results, Tryd.results46, go_sem]) rfl ⟨rfl, HB.out⟩
  · cases t3 <;> cases t5
    · have LP : Hid ((letS 8).contains 112 = false) := (let_p 8)
      have LZ : Hid ((112 : Int) = ((112 : UInt8).toNat : Int)) := rfl
      go_enter Tryd.func46, Tryd.ntmps46
      go_wp2_with (first
        | (go_at_call 48; (with_reducible refine (has_k 8 8 rfl _).mono ?_); rintro e w1 ⟨rfl, hb⟩
           have HB := Lib.hid hb
           clear hb)
        | (go_at_call 47; (with_reducible refine (in_k 8 112 false LP.out 112 LZ.out _).mono ?_); rintro e w2 ⟨rfl, rfl⟩))
      refine bodyPost_ret (v := .tuple #[.int .i64 4, .bool true]) (by simp [results, Tryd.results46, go_sem]) rfl ⟨rfl, HB.out⟩
    · have LP : Hid ((letS 8).contains 112 = false) := (let_p 8)
      have LZ : Hid ((112 : Int) = ((112 : UInt8).toNat : Int)) := rfl
      go_enter Tryd.func46, Tryd.ntmps46
      go_wp2_with (first
        | (go_at_call 48; (with_reducible refine (has_k 8 8 rfl _).mono ?_); rintro e w1 ⟨rfl, hb⟩
           have HB := Lib.hid hb
           clear hb)
        | (go_at_call 47; (with_reducible refine (in_k 8 112 false LP.out 112 LZ.out _).mono ?_); rintro e w2 ⟨rfl, rfl⟩))
      refine bodyPost_ret (v := .tuple #[.int .i64 4, .bool true]) (by simp [results, Tryd.results46, go_sem]) rfl ⟨rfl, HB.out⟩
    · have LP : Hid ((letS 8).contains 112 = false) := (let_p 8)
      have LZ : Hid ((112 : Int) = ((112 : UInt8).toNat : Int)) := rfl
      go_enter Tryd.func46, Tryd.ntmps46
      go_wp2_with (first
        | (go_at_call 48; (with_reducible refine (has_k 8 8 rfl _).mono ?_); rintro e w1 ⟨rfl, hb⟩
           have HB := Lib.hid hb
           clear hb)
        | (go_at_call 47; (with_reducible refine (in_k 8 112 false LP.out 112 LZ.out _).mono ?_); rintro e w2 ⟨rfl, rfl⟩))
      refine bodyPost_ret (v := .tuple #[.int .i64 4, .bool true]) (by simp [results, Tryd.results46, go_sem]) rfl ⟨rfl, HB.out⟩
    · have LP : Hid ((letS 8).contains 112 = false) := (let_p 8)
      have LZ : Hid ((112 : Int) = ((112 : UInt8).toNat : Int)) := rfl
      go_enter Tryd.func46, Tryd.ntmps46
      go_wp2_with (first
        | (go_at_call 48; (with_reducible refine (has_k 8 8 rfl _).mono ?_); rintro e w1 ⟨rfl, hb⟩
           have HB := Lib.hid hb
           clear hb)
        | (go_at_call 47; (with_reducible refine (in_k 8 112 false LP.out 112 LZ.out _).mono ?_); rintro e w2 ⟨rfl, rfl⟩))
      refine bodyPost_ret (v := .tuple #[.int .i64 4, .bool true]) (by simp [results, Tryd.results46, go_sem]) rfl ⟨rfl, HB.out⟩
  · cases t3 <;> cases t5
    · have LP : Hid ((letS 9).contains 112 = false) := (let_p 9)
      have LZ : Hid ((112 : Int) = ((112 : UInt8).toNat : Int)) := rfl
      go_enter Tryd.func46, Tryd.ntmps46
      go_wp2_with (first
        | (go_at_call 48; (with_reducible refine (has_k 9 9 rfl _).mono ?_); rintro e w1 ⟨rfl, hb⟩
           have HB := Lib.hid hb
           clear hb)
        | (go_at_call 47; (with_reducible refine (in_k 9 112 false LP.out 112 LZ.out _).mono ?_); rintro e w2 ⟨rfl, rfl⟩))
      refine bodyPost_ret (v := .tuple #[.int .i64 0, .bool false]) (by simp [results, Tryd.results46, go_sem]) rfl ⟨rfl, HB.out⟩
    · have LP : Hid ((letS 9).contains 112 = false) := (let_p 9)
      have LZ : Hid ((112 : Int) = ((112 : UInt8).toNat : Int)) := rfl
      go_enter Tryd.func46, Tryd.ntmps46
      go_wp2_with (first
        | (go_at_call 48; (with_reducible refine (has_k 9 9 rfl _).mono ?_); rintro e w1 ⟨rfl, hb⟩
           have HB := Lib.hid hb
           clear hb)
        | (go_at_call 47; (with_reducible refine (in_k 9 112 false LP.out 112 LZ.out _).mono ?_); rintro e w2 ⟨rfl, rfl⟩))
      refine bodyPost_ret (v := .tuple #[.int .i64 0, .bool false]) (by simp [results, Tryd.results46, go_sem]) rfl ⟨rfl, HB.out⟩
    · have LP : Hid ((letS 9).contains 112 = false) := (let_p 9)
      have LZ : Hid ((112 : Int) = ((112 : UInt8).toNat : Int)) := rfl
      go_enter Tryd.func46, Tryd.ntmps46
      go_wp2_with (first
        | (go_at_call 48; (with_reducible refine (has_k 9 9 rfl _).mono ?_); rintro e w1 ⟨rfl, hb⟩
           have HB := Lib.hid hb
           clear hb)
        | (go_at_call 47; (with_reducible refine (in_k 9 112 false LP.out 112 LZ.out _).mono ?_); rintro e w2 ⟨rfl, rfl⟩))
      refine bodyPost_ret (v := .tuple #[.int .i64 0, .bool false]) (by simp [results, Tryd.results46, go_sem]) rfl ⟨rfl, HB.out⟩
    · have LP : Hid ((letS 9).contains 112 = false) := (let_p 9)
      have LZ : Hid ((112 : Int) = ((112 : UInt8).toNat : Int)) := rfl
      go_enter Tryd.func46, Tryd.ntmps46
      go_wp2_with (first
        | (go_at_call 48; (with_reducible refine (has_k 9 9 rfl _).mono ?_); rintro e w1 ⟨rfl, hb⟩
           have HB := Lib.hid hb
           clear hb)
        | (go_at_call 47; (with_reducible refine (in_k 9 112 false LP.out 112 LZ.out _).mono ?_); rintro e w2 ⟨rfl, rfl⟩))
      refine bodyPost_ret (v := .tuple #[.int .i64 0, .bool false]) (by simp [results, Tryd.results46, go_sem]) rfl ⟨rfl, HB.out⟩
  · have e0 : ((k : Int) == 0) = false := by simp; omega
    have e1 : ((k : Int) == 1) = false := by simp; omega
    have e2 : ((k : Int) == 2) = false := by simp; omega
    have e3 : ((k : Int) == 3) = false := by simp; omega
    have e4 : ((k : Int) == 4) = false := by simp; omega
    have e5 : ((k : Int) == 5) = false := by simp; omega
    have e6 : ((k : Int) == 6) = false := by simp; omega
    have e7 : ((k : Int) == 7) = false := by simp; omega
    have e8 : ((k : Int) == 8) = false := by simp; omega
    have e9 : ((k : Int) == 9) = false := by simp; omega
    have b0 : base k = 0 := by
      unfold base
      repeat rw [if_neg (by omega)]
    have hj : just k = false := by simp [just]; omega
    obtain ⟨_, hP0, _, hR0, _⟩ := hi_letters k hk10
    rw [b0, hj, hP0, hR0]
    have HP0 := Lib.hid hP0
    clear b0 hj hP0 hR0 e0
    cases t3 <;> cases t5
    · have LP : Hid ((letS k).contains 112 = false) := ((let_p k).trans HP0.out)
      have LZ : Hid ((112 : Int) = ((112 : UInt8).toNat : Int)) := rfl
      go_enter Tryd.func46, Tryd.ntmps46
      go_wp2_with (first
        | (go_at_call 48; (with_reducible refine (has_k k _ rfl _).mono ?_); rintro e w1 ⟨rfl, hb⟩
           have HB := Lib.hid hb
           clear hb)
        | (go_at_call 47; (with_reducible refine (in_k k 112 false LP.out 112 LZ.out _).mono ?_); rintro e w2 ⟨rfl, rfl⟩))
      refine bodyPost_ret (v := .tuple #[.int .i64 0, .bool false]) (by simp [results, Tryd.results46, go_sem]) rfl ⟨rfl, HB.out⟩
    · have LP : Hid ((letS k).contains 112 = false) := ((let_p k).trans HP0.out)
      have LZ : Hid ((112 : Int) = ((112 : UInt8).toNat : Int)) := rfl
      go_enter Tryd.func46, Tryd.ntmps46
      go_wp2_with (first
        | (go_at_call 48; (with_reducible refine (has_k k _ rfl _).mono ?_); rintro e w1 ⟨rfl, hb⟩
           have HB := Lib.hid hb
           clear hb)
        | (go_at_call 47; (with_reducible refine (in_k k 112 false LP.out 112 LZ.out _).mono ?_); rintro e w2 ⟨rfl, rfl⟩))
      refine bodyPost_ret (v := .tuple #[.int .i64 0, .bool false]) (by simp [results, Tryd.results46, go_sem]) rfl ⟨rfl, HB.out⟩
    · have LP : Hid ((letS k).contains 112 = false) := ((let_p k).trans HP0.out)
      have LZ : Hid ((112 : Int) = ((112 : UInt8).toNat : Int)) := rfl
      go_enter Tryd.func46, Tryd.ntmps46
      go_wp2_with (first
        | (go_at_call 48; (with_reducible refine (has_k k _ rfl _).mono ?_); rintro e w1 ⟨rfl, hb⟩
           have HB := Lib.hid hb
           clear hb)
        | (go_at_call 47; (with_reducible refine (in_k k 112 false LP.out 112 LZ.out _).mono ?_); rintro e w2 ⟨rfl, rfl⟩))
      refine bodyPost_ret (v := .tuple #[.int .i64 0, .bool false]) (by simp [results, Tryd.results46, go_sem]) rfl ⟨rfl, HB.out⟩
    · have LP : Hid ((letS k).contains 112 = false) := ((let_p k).trans HP0.out)
      have LZ : Hid ((112 : Int) = ((112 : UInt8).toNat : Int)) := rfl
      go_enter Tryd.func46, Tryd.ntmps46
      go_wp2_with (first
        | (go_at_call 48; (with_reducible refine (has_k k _ rfl _).mono ?_); rintro e w1 ⟨rfl, hb⟩
           have HB := Lib.hid hb
           clear hb)
        | (go_at_call 47; (with_reducible refine (in_k k 112 false LP.out 112 LZ.out _).mono ?_); rintro e w2 ⟨rfl, rfl⟩))
      refine bodyPost_ret (v := .tuple #[.int .i64 0, .bool false]) (by simp [results, Tryd.results46, go_sem]) rfl ⟨rfl, HB.out⟩
end Go.Proofs.YtokbdkbljgdcpaaDoor

/- The letters of a kind, in the document's spelling. -/
namespace Go.Proofs.YtokbdkbljgdcpaaDoor
open Go.RowKit Go.Own Go.Frm
set_option linter.unusedVariables false
theorem letS_hi (k : Nat) (hk : 10 ≤ k) : letS k = [102, 98] := by
  unfold letS
  repeat rw [if_neg (by omega)]
theorem let_e (k : Nat) : (letS k).contains 101 = hE k := by
  rcases kinds k with rfl | rfl | rfl | rfl | rfl | rfl | rfl | rfl | rfl | rfl | hk
  rotate_right 1
  · rw [letS_hi k hk]
    have e : hE k = false := by simp [hE]; try omega
    rw [e]; rfl
  all_goals rfl
theorem let_h (k : Nat) : (letS k).contains 104 = hH k := by
  rcases kinds k with rfl | rfl | rfl | rfl | rfl | rfl | rfl | rfl | rfl | rfl | hk
  rotate_right 1
  · rw [letS_hi k hk]
    have e : hH k = false := by simp [hH]; try omega
    rw [e]; rfl
  all_goals rfl
theorem let_a (k : Nat) : (letS k).contains 97 = hA k := by
  rcases kinds k with rfl | rfl | rfl | rfl | rfl | rfl | rfl | rfl | rfl | rfl | hk
  rotate_right 1
  · rw [letS_hi k hk]
    have e : hA k = false := by simp [hA]; try omega
    rw [e]; rfl
  all_goals rfl
theorem let_r (k : Nat) : (letS k).contains 114 = hR k := by
  rcases kinds k with rfl | rfl | rfl | rfl | rfl | rfl | rfl | rfl | rfl | rfl | hk
  rotate_right 1
  · rw [letS_hi k hk]
    have e : hR k = false := by simp [hR]; try omega
    rw [e]; rfl
  all_goals rfl
theorem let_b (k : Nat) : (letS k).contains 98 = hB k := by
  rcases kinds k with rfl | rfl | rfl | rfl | rfl | rfl | rfl | rfl | rfl | rfl | hk
  rotate_right 1
  · rw [letS_hi k hk]
    have e : hB k = true := by simp [hB]; try omega
    rw [e]; rfl
  all_goals rfl
theorem let_f (k : Nat) : (letS k).contains 102 = hF k := by
  rcases kinds k with rfl | rfl | rfl | rfl | rfl | rfl | rfl | rfl | rfl | rfl | hk
  rotate_right 1
  · rw [letS_hi k hk]
    have e : hF k = true := by simp [hF]; try omega
    rw [e]; rfl
  all_goals rfl
theorem let_c (k : Nat) : (letS k).contains 99 = hC k := by
  rcases kinds k with rfl | rfl | rfl | rfl | rfl | rfl | rfl | rfl | rfl | rfl | hk
  rotate_right 1
  · rw [letS_hi k hk]
    have e : hC k = false := by simp [hC]; try omega
    rw [e]; rfl
  all_goals rfl
theorem let_l (k : Nat) : (letS k).contains 108 = hL k := by
  rcases kinds k with rfl | rfl | rfl | rfl | rfl | rfl | rfl | rfl | rfl | rfl | hk
  rotate_right 1
  · rw [letS_hi k hk]
    have e : hL k = false := by simp [hL]; try omega
    rw [e]; rfl
  all_goals rfl
theorem let_t (k : Nat) : (letS k).contains 116 = hT k := by
  rcases kinds k with rfl | rfl | rfl | rfl | rfl | rfl | rfl | rfl | rfl | rfl | hk
  rotate_right 1
  · rw [letS_hi k hk]
    have e : hT k = false := by simp [hT]; try omega
    rw [e]; rfl
  all_goals rfl
theorem let_i (k : Nat) : (letS k).contains 105 = hI k := by
  rcases kinds k with rfl | rfl | rfl | rfl | rfl | rfl | rfl | rfl | rfl | rfl | hk
  rotate_right 1
  · rw [letS_hi k hk]
    have e : hI k = false := by simp [hI]; try omega
    rw [e]; rfl
  all_goals rfl
theorem let_w (k : Nat) : (letS k).contains 119 = hW k := by
  rcases kinds k with rfl | rfl | rfl | rfl | rfl | rfl | rfl | rfl | rfl | rfl | hk
  rotate_right 1
  · rw [letS_hi k hk]
    have e : hW k = false := by simp [hW]; try omega
    rw [e]; rfl
  all_goals rfl
end Go.Proofs.YtokbdkbljgdcpaaDoor

/- The document's May: pure facts, and each letter's call. -/
namespace Go.Frm
set_option linter.unusedVariables false
variable {f : Fm} {k : Nat}
theorem may_no (h : ¬ Parts f) : mayB f = false := by
  cases hm : mayB f with
  | false => rfl
  | true => exact absurd ((may_iff f).1 hm) h
theorem no5 (hk : f.k = k) (h : ((((f.fin && !hE k) || (f.eh && !hH k)) || (f.ack && !hA k)) || (f.prio && !hR k)) = true) : mayB f = false := by
  refine may_no fun P => ?_
  subst hk
  simp only [Bool.or_eq_true, Bool.and_eq_true, Bool.not_eq_true'] at h
  rcases h with ((⟨h, g⟩ | ⟨h, g⟩) | ⟨h, g⟩) | ⟨h, g⟩
  · rw [P.e h] at g; cases g
  · rw [P.h h] at g; cases g
  · rw [P.a h] at g; cases g
  · rw [P.r h] at g; cases g
/-- a test: on which side it lies -/
def Tst (x : Bool) (p : Prop) : Prop := (x = true ∧ p) ∨ (x = false ∧ ¬ p)
theorem Tst.mk (p : Prop) [Decidable p] : ∃ x, Tst x p := by
  by_cases h : p
  · exact ⟨true, .inl ⟨rfl, h⟩⟩
  · exact ⟨false, .inr ⟨rfl, h⟩⟩
theorem Tst.yes {x : Bool} {p : Prop} (h : Tst x p) (hx : x = true) : p := by
  rcases h with ⟨_, h⟩ | ⟨h, _⟩
  · exact h
  · rw [hx] at h; cases h
theorem Tst.not {x : Bool} {p : Prop} (h : Tst x p) (hx : x = false) : ¬ p := by
  rcases h with ⟨h, _⟩ | ⟨_, h⟩
  · rw [hx] at h; cases h
  · exact h
theorem no7 (hk : f.k = k) {a b c d e : Bool} (ha : Tst a (0 < f.pay.length)) (hb : Tst b (f.flags ≠ 0)) (hc : Tst c (f.pad ≠ 0)) (hd : Tst d (f.code ≠ 0)) (he : Tst e (0 < f.list.length))
    (h : (((((a && !hB k) || (b && !hF k)) || (c && !hP k)) || (d && !hC k)) || (e && !hL k)) = true) : mayB f = false := by
  refine may_no fun P => ?_
  subst hk
  simp only [Bool.or_eq_true, Bool.and_eq_true, Bool.not_eq_true'] at h
  rcases h with (((⟨h, g⟩ | ⟨h, g⟩) | ⟨h, g⟩) | ⟨h, g⟩) | ⟨h, g⟩
  · rcases P.b with q | q
    · have := ha.yes h; rw [q] at this; simp at this
    · rw [q] at g; cases g
  · rcases P.f' with q | q
    · exact hb.yes h q
    · rw [q] at g; cases g
  · rcases P.p with q | q
    · exact hc.yes h q
    · rw [q] at g; cases g
  · rcases P.c with q | q
    · exact hd.yes h q
    · rw [q] at g; cases g
  · rcases P.l with q | q
    · have := he.yes h; rw [q] at this; simp at this
    · rw [q] at g; cases g
theorem no9 (hk : f.k = k) {a b c d : Bool} (ha : Tst a (f.last ≠ 0)) (hb : Tst b (f.inc ≠ 0)) (hc : Tst c (f.depend ≠ 0)) (hd : Tst d (f.weight ≠ 0))
    (h : (((a && !hT k) || (b && !hI k)) || (!(hW k || hR k && f.prio) && ((c || f.excl) || d))) = true) : mayB f = false := by
  refine may_no fun P => ?_
  subst hk
  simp only [Bool.or_eq_true, Bool.and_eq_true, Bool.not_eq_true'] at h
  rcases h with (⟨h, g⟩ | ⟨h, g⟩) | ⟨h, g⟩
  · rcases P.t with q | q
    · exact ha.yes h q
    · rw [q] at g; cases g
  · rcases P.i with q | q
    · exact hb.yes h q
    · rw [q] at g; cases g
  · rcases P.w with q | ⟨q1, q2, q3⟩
    · unfold Fm.weighed at q; rw [q] at h; cases h
    · rcases g with (g | g) | g
      · exact hc.yes g q1
      · rw [q2] at g; cases g
      · exact hd.yes g q3
theorem no11 (hk : f.k = k) {a b c d : Bool} (ha : Tst a (f.pad < 0 ∨ 256 < f.pad)) (hb : Tst b (f.flags < 0 ∨ 255 < f.flags)) (hc : Tst c (f.last < 0 ∨ 2147483647 < f.last)) (hd : Tst d (k = 5 ∧ f.last = 0))
    (h : (((a || b) || c) || d) = true) : mayB f = false := by
  refine may_no fun P => ?_
  subst hk
  simp only [Bool.or_eq_true] at h
  have h1 := P.p0
  have h2 := P.p1
  have h3 := P.f0
  have h4 := P.f1
  have h5 := P.l0
  have h6 := P.l1
  rcases h with ((h | h) | h) | h
  · have := ha.yes h; omega
  · have := hb.yes h; omega
  · have := hc.yes h; omega
  · have := hd.yes h
    rcases P.l5 with q | q
    · exact q this.1
    · exact q this.2
theorem no13 (hk : f.k = k) {a : Bool} (ha : Tst a (f.depend < 0 ∨ 2147483647 < f.depend ∨ f.weight < 1 ∨ 256 < f.weight)) (h : ((hW k || hR k && f.prio) && a) = true) : mayB f = false := by
  refine may_no fun P => ?_
  subst hk
  rw [Bool.and_eq_true] at h
  rcases P.wb with q | q
  · unfold Fm.weighed at q; rw [q] at h; cases h.1
  · have := ha.yes h.2; omega
theorem no17 {j : Nat} {s : Int × Nat} (hs : f.list[j]? = some s) (h : s.1 < 0 ∨ 65535 < s.1) : mayB f = false := by
  refine may_no fun P => ?_
  have := P.ids s (List.mem_of_getElem? hs)
  omega
theorem no20 (hk : f.k = k) {a b : Bool} (ha : Tst a (0 < f.list.length)) (hb : Tst b (k = 6 ∧ f.pay.length ≠ 8)) (h : ((f.ack && a) || b) = true) : mayB f = false := by
  refine may_no fun P => ?_
  subst hk
  simp only [Bool.or_eq_true, Bool.and_eq_true] at h
  rcases h with ⟨h, g⟩ | h
  · rcases P.al with q | q
    · rw [q] at h; cases h
    · have := ha.yes g; rw [q] at this; simp at this
  · have := hb.yes h
    rcases P.k6 with q | q
    · exact q this.1
    · exact this.2 q
theorem no22 (hk : f.k = k) (h8 : k = 8) (h : f.inc < 1 ∨ 2147483647 < f.inc) : mayB f = false := by
  refine may_no fun P => ?_
  subst hk
  rcases P.k8 with q | q
  · exact q h8
  · omega
theorem or_no {x v : Bool} (h : (x && !v) = false) (hx : x = true) : v = true := by
  rw [hx] at h; cases v
  · cases h
  · rfl
theorem tst_no {x v : Bool} {p : Prop} [Decidable p] (hx : Tst x p) (h : (x && !v) = false) : ¬ p ∨ v = true := by
  by_cases g : p
  · right
    rcases hx with ⟨rfl, _⟩ | ⟨_, h1⟩
    · exact or_no h rfl
    · exact absurd g h1
  · exact .inl g
theorem yes (hk : f.k = k) (k0 : 0 ≤ f.kind) (k1 : f.kind ≤ 255) (s0 : 0 ≤ f.stream) (s1 : f.stream ≤ 2147483647) (hst : stray k f.stream = false)
    (h5 : ((((f.fin && !hE k) || (f.eh && !hH k)) || (f.ack && !hA k)) || (f.prio && !hR k)) = false)
    {a b c d e : Bool} (ha : Tst a (0 < f.pay.length)) (hb : Tst b (f.flags ≠ 0)) (hc : Tst c (f.pad ≠ 0)) (hd : Tst d (f.code ≠ 0)) (he : Tst e (0 < f.list.length))
    (h7 : (((((a && !hB k) || (b && !hF k)) || (c && !hP k)) || (d && !hC k)) || (e && !hL k)) = false)
    {a9 b9 c9 d9 : Bool} (ha9 : Tst a9 (f.last ≠ 0)) (hb9 : Tst b9 (f.inc ≠ 0)) (hc9 : Tst c9 (f.depend ≠ 0)) (hd9 : Tst d9 (f.weight ≠ 0))
    (h9 : (((a9 && !hT k) || (b9 && !hI k)) || (!(hW k || hR k && f.prio) && ((c9 || f.excl) || d9))) = false)
    {a1 b1 c1 d1 : Bool} (ha1 : Tst a1 (f.pad < 0 ∨ 256 < f.pad)) (hb1 : Tst b1 (f.flags < 0 ∨ 255 < f.flags)) (hc1 : Tst c1 (f.last < 0 ∨ 2147483647 < f.last)) (hd1 : Tst d1 (k = 5 ∧ f.last = 0))
    (h11 : (((a1 || b1) || c1) || d1) = false)
    {a3 : Bool} (ha3 : Tst a3 (f.depend < 0 ∨ 2147483647 < f.depend ∨ f.weight < 1 ∨ 256 < f.weight)) (h13 : ((hW k || hR k && f.prio) && a3) = false)
    (hids : ∀ (j : Nat) (s : Int × Nat), f.list[j]? = some s → 0 ≤ s.1 ∧ s.1 ≤ 65535)
    {b2 : Bool} (hb2 : Tst b2 (k = 6 ∧ f.pay.length ≠ 8)) (h20 : ((f.ack && e) || b2) = false) (h22 : k ≠ 8 ∨ (1 ≤ f.inc ∧ f.inc ≤ 2147483647)) : mayB f = true := by
  subst hk
  simp only [Bool.or_eq_false_iff] at h5 h7 h11 h20
  obtain ⟨⟨⟨e1, e2⟩, e3⟩, e4⟩ := h5
  obtain ⟨⟨⟨⟨f1, f2⟩, f3⟩, f4⟩, f5⟩ := h7
  rw [Bool.or_eq_false_iff, Bool.or_eq_false_iff] at h9
  obtain ⟨⟨g1, g2⟩, g3⟩ := h9
  obtain ⟨⟨⟨i1, i2⟩, i3⟩, i4⟩ := h11
  obtain ⟨j1, j2⟩ := h20
  have q1 := ha1.not i1
  have q2 := hb1.not i2
  have q3 := hc1.not i3
  have q4 := hd1.not i4
  have q5 := hb2.not j2
  have el : ∀ {α : Type} {l : List α}, ¬ 0 < l.length → l = [] := fun h => List.eq_nil_of_length_eq_zero (by omega)
  refine (may_iff f).2 ⟨k0, k1, s0, s1, hst, or_no e1, or_no e2, or_no e3, or_no e4, (tst_no ha f1).imp el id, (tst_no hb f2).imp (fun h => by simpa using h) id, (tst_no hc f3).imp (fun h => by simpa using h) id,
    (tst_no hd f4).imp (fun h => by simpa using h) id, (tst_no he f5).imp el id, (tst_no ha9 g1).imp (fun h => by simpa using h) id, (tst_no hb9 g2).imp (fun h => by simpa using h) id, ?_, by omega, by omega, by omega, by omega, by omega, by omega, ?_, ?_,
    fun s hs => by obtain ⟨j, hj, rfl⟩ := List.getElem_of_mem hs; exact hids j _ (List.getElem?_eq_getElem hj), ?_, ?_, h22⟩
  · show f.weighed = true ∨ _
    cases hw : f.weighed with
    | true => exact .inl rfl
    | false =>
      right
      unfold Fm.weighed at hw
      rw [hw] at g3
      simp only [Bool.not_false, Bool.true_and, Bool.or_eq_false_iff] at g3
      obtain ⟨⟨r1, r2⟩, r3⟩ := g3
      exact ⟨by have := hc9.not r1; simpa using this, r2, by have := hd9.not r3; simpa using this⟩
  · by_cases h : f.k = 5
    · exact .inr (fun h2 => q4 ⟨h, h2⟩)
    · exact .inl h
  · cases hw : f.weighed with
    | false => exact .inl rfl
    | true =>
      right
      unfold Fm.weighed at hw
      rw [hw, Bool.true_and] at h13
      have := ha3.not h13
      omega
  · cases hk : f.ack with
    | false => exact .inl rfl
    | true =>
      right
      rw [hk, Bool.true_and] at j1
      exact el (he.not j1)
  · by_cases h : f.k = 6
    · right
      by_cases h2 : f.pay.length = 8
      · exact h2
      · exact absurd ⟨h, h2⟩ q5
    · exact .inl h
end Go.Frm
namespace Go.Proofs.YtokbdkbljgdcpaaDoor
open Go.RowKit Go.Own Go.Frm
set_option linter.unusedVariables false
theorem ltr_e (k : Nat) (b : Bool) (h : hE k = b) (w : World) : Calls Tryd.prog 47 #[.string ⟨(letS k).toArray⟩, .int .u8 101] w fun e w' => e = .returned (.bool b) ∧ w' = w :=
  in_k k 101 b ((let_e k).trans h) 101 rfl w
theorem ltr_h (k : Nat) (b : Bool) (h : hH k = b) (w : World) : Calls Tryd.prog 47 #[.string ⟨(letS k).toArray⟩, .int .u8 104] w fun e w' => e = .returned (.bool b) ∧ w' = w :=
  in_k k 104 b ((let_h k).trans h) 104 rfl w
theorem ltr_a (k : Nat) (b : Bool) (h : hA k = b) (w : World) : Calls Tryd.prog 47 #[.string ⟨(letS k).toArray⟩, .int .u8 97] w fun e w' => e = .returned (.bool b) ∧ w' = w :=
  in_k k 97 b ((let_a k).trans h) 97 rfl w
theorem ltr_r (k : Nat) (b : Bool) (h : hR k = b) (w : World) : Calls Tryd.prog 47 #[.string ⟨(letS k).toArray⟩, .int .u8 114] w fun e w' => e = .returned (.bool b) ∧ w' = w :=
  in_k k 114 b ((let_r k).trans h) 114 rfl w
theorem ltr_b (k : Nat) (b : Bool) (h : hB k = b) (w : World) : Calls Tryd.prog 47 #[.string ⟨(letS k).toArray⟩, .int .u8 98] w fun e w' => e = .returned (.bool b) ∧ w' = w :=
  in_k k 98 b ((let_b k).trans h) 98 rfl w
theorem ltr_f (k : Nat) (b : Bool) (h : hF k = b) (w : World) : Calls Tryd.prog 47 #[.string ⟨(letS k).toArray⟩, .int .u8 102] w fun e w' => e = .returned (.bool b) ∧ w' = w :=
  in_k k 102 b ((let_f k).trans h) 102 rfl w
theorem ltr_p (k : Nat) (b : Bool) (h : hP k = b) (w : World) : Calls Tryd.prog 47 #[.string ⟨(letS k).toArray⟩, .int .u8 112] w fun e w' => e = .returned (.bool b) ∧ w' = w :=
  in_k k 112 b ((let_p k).trans h) 112 rfl w
theorem ltr_c (k : Nat) (b : Bool) (h : hC k = b) (w : World) : Calls Tryd.prog 47 #[.string ⟨(letS k).toArray⟩, .int .u8 99] w fun e w' => e = .returned (.bool b) ∧ w' = w :=
  in_k k 99 b ((let_c k).trans h) 99 rfl w
theorem ltr_l (k : Nat) (b : Bool) (h : hL k = b) (w : World) : Calls Tryd.prog 47 #[.string ⟨(letS k).toArray⟩, .int .u8 108] w fun e w' => e = .returned (.bool b) ∧ w' = w :=
  in_k k 108 b ((let_l k).trans h) 108 rfl w
theorem ltr_t (k : Nat) (b : Bool) (h : hT k = b) (w : World) : Calls Tryd.prog 47 #[.string ⟨(letS k).toArray⟩, .int .u8 116] w fun e w' => e = .returned (.bool b) ∧ w' = w :=
  in_k k 116 b ((let_t k).trans h) 116 rfl w
theorem ltr_i (k : Nat) (b : Bool) (h : hI k = b) (w : World) : Calls Tryd.prog 47 #[.string ⟨(letS k).toArray⟩, .int .u8 105] w fun e w' => e = .returned (.bool b) ∧ w' = w :=
  in_k k 105 b ((let_i k).trans h) 105 rfl w
theorem ltr_w (k : Nat) (b : Bool) (h : hW k = b) (w : World) : Calls Tryd.prog 47 #[.string ⟨(letS k).toArray⟩, .int .u8 119] w fun e w' => e = .returned (.bool b) ∧ w' = w :=
  in_k k 119 b ((let_w k).trans h) 119 rfl w
theorem stray_n (k : Nat) (s : Int) (b : Bool) (h : stray k s = b) (w : World) : Calls Tryd.prog 45 #[.int .i64 (k : Int), .int .i64 s] w fun e w' => e = .returned (.bool b) ∧ w' = w := by
  subst h
  exact stray_c k s w
theorem ways2 (c x : Bool) : (c = false ∧ x = false) ∨ (c = false ∧ x = true) ∨ c = true := by cases c <;> cases x <;> simp
theorem waysT {x : Bool} {p : Prop} (h : Tst x p) (c : Bool) : (c = false ∧ x = false ∧ ¬ p) ∨ (c = false ∧ x = true ∧ p) ∨ c = true := by
  cases c
  · rcases h with h | h
    · exact .inr (.inl ⟨rfl, h⟩)
    · exact .inl ⟨rfl, h⟩
  · exact .inr (.inr rfl)
theorem ways9 {x y : Bool} {p q : Prop} (h : Tst x p) (g : Tst y q) (c v e : Bool) : c = true ∨ (c = false ∧ v = true) ∨ (c = false ∧ v = false ∧ x = true ∧ p) ∨ (c = false ∧ v = false ∧ x = false ∧ ¬ p ∧ e = true) ∨
    (c = false ∧ v = false ∧ x = false ∧ ¬ p ∧ e = false ∧ y = true ∧ q) ∨ (c = false ∧ v = false ∧ x = false ∧ ¬ p ∧ e = false ∧ y = false ∧ ¬ q) := by
  rcases h with ⟨rfl, h⟩ | ⟨rfl, h⟩ <;> rcases g with ⟨rfl, g⟩ | ⟨rfl, g⟩ <;> cases c <;> cases v <;> cases e <;> simp [h, g]
theorem waysR {x : Bool} {z lo hi : Int} (h : Tst x (z < lo ∨ hi < z)) (c : Bool) : c = true ∨ (c = false ∧ x = true ∧ z < lo) ∨ (c = false ∧ x = true ∧ ¬ z < lo ∧ hi < z) ∨ (c = false ∧ x = false ∧ ¬ z < lo ∧ ¬ hi < z) := by
  cases c
  · rcases h with ⟨rfl, h⟩ | ⟨rfl, h⟩
    · by_cases g : z < lo
      · exact .inr (.inl ⟨rfl, rfl, g⟩)
      · exact .inr (.inr (.inl ⟨rfl, rfl, g, h.resolve_left g⟩))
    · exact .inr (.inr (.inr ⟨rfl, rfl, fun g => h (.inl g), fun g => h (.inr g)⟩))
  · exact .inl rfl
theorem waysA {x : Bool} {p q : Prop} (h : Tst x (p ∧ q)) (c : Bool) : c = true ∨ (c = false ∧ x = false ∧ ¬ p) ∨ (c = false ∧ x = false ∧ p ∧ ¬ q) ∨ (c = false ∧ x = true ∧ p ∧ q) := by
  cases c
  · rcases h with ⟨rfl, h⟩ | ⟨rfl, h⟩
    · exact .inr (.inr (.inr ⟨rfl, rfl, h⟩))
    · by_cases g : p
      · exact .inr (.inr (.inl ⟨rfl, rfl, g, fun q => h ⟨g, q⟩⟩))
      · exact .inr (.inl ⟨rfl, rfl, g⟩)
  · exact .inl rfl
theorem ways13 {x : Bool} {z y : Int} (h : Tst x (z < 0 ∨ 2147483647 < z ∨ y < 1 ∨ 256 < y)) (v : Bool) : v = false ∨ (v = true ∧ x = true ∧ z < 0) ∨ (v = true ∧ x = true ∧ ¬ z < 0 ∧ 2147483647 < z) ∨ (v = true ∧ x = true ∧ ¬ z < 0 ∧ ¬ 2147483647 < z ∧ y < 1) ∨
    (v = true ∧ x = true ∧ ¬ z < 0 ∧ ¬ 2147483647 < z ∧ ¬ y < 1 ∧ 256 < y) ∨ (v = true ∧ x = false ∧ ¬ z < 0 ∧ ¬ 2147483647 < z ∧ ¬ y < 1 ∧ ¬ 256 < y) := by
  cases v
  · exact .inl rfl
  · right
    rcases h with ⟨rfl, h⟩ | ⟨rfl, h⟩
    · by_cases g : z < 0
      · exact .inl ⟨rfl, rfl, g⟩
      · by_cases g2 : 2147483647 < z
        · exact .inr (.inl ⟨rfl, rfl, g, g2⟩)
        · by_cases g3 : y < 1
          · exact .inr (.inr (.inl ⟨rfl, rfl, g, g2, g3⟩))
          · exact .inr (.inr (.inr (.inl ⟨rfl, rfl, g, g2, g3, by omega⟩)))
    · exact .inr (.inr (.inr (.inr ⟨rfl, rfl, by omega, by omega, by omega, by omega⟩)))
theorem wpList_end {P : Program} {ops : Array Oper} {Q : Exit → Act → World → Prop} {a : Act} {w : World} (h : Q .normal a w) : wpList P ops Q [] a w := h
end Go.Proofs.YtokbdkbljgdcpaaDoor
