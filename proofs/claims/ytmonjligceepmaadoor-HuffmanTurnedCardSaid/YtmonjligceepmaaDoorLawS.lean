/- HuffmanSizes' walk: whatever the two texts, true. -/
import Derived.Test.YtmonjligceepmaaDoorLawB
namespace Go.Proofs.YtmonjligceepmaaDoor
open Go.RowKit Go.Own Go.Huf
set_option linter.unusedVariables false

theorem Code_n2 (s c n : Nat) (hs : s < 257) (hc : code s = (c, n)) (w : World) (hC : Cnt w) : Calls Tryd.prog 12 #[.int .i64 (s : Int)] w fun e w' => e = .returned (.tuple #[.int .u32 (c : Int), .int .i64 (n : Int)]) ∧ Below w.heap.size w w' := by
  have := Code_yes s hs w hC
  rw [hc] at this
  exact this
/-- the lengths of the first k codes, and zeros -/
def nCells (k : Nat) : List Value := (List.range 256).map fun i => .int .i64 ((if i < k then (code i).2 else 0 : Nat) : Int)
theorem nCells_length (k : Nat) : (nCells k).length = 256 := by simp [nCells]
theorem nCells_set (k : Nat) (hk : k < 256) : (nCells k).set k (.int .i64 (((code k).2 : Nat) : Int)) = nCells (k + 1) := by
  apply List.ext_getElem (by simp [nCells])
  intro i h1 h2
  rw [List.getElem_set]
  simp only [nCells, List.getElem_map, List.getElem_range]
  by_cases e : k = i
  · subst e
    rw [if_pos rfl, if_pos (by omega)]
  · rw [if_neg e]
    have : (i < k + 1) ↔ (i < k) := by omega
    simp only [this]
theorem nCells_at (i : Nat) (hi : i < 256) : (nCells 256)[i]? = some (.int .i64 (((code i).2 : Nat) : Int)) := by
  rw [List.getElem?_eq_getElem (by rw [nCells_length]; exact hi)]
  simp only [nCells, List.getElem_map, List.getElem_range]
  rw [if_pos hi]
theorem zero_ints : (∀ w, (zeroValue 43).run Tryd.prog w = .ok (.agg (nCells 0).toArray) w) ∧ (Tryd.prog.info? 43).map (·.size) = some 256 := zero_of_info (by kernel_rfl)
theorem size_eq (s : ByteArray) : s.data.toList.length = s.size := by simp
theorem append_data (a b : ByteArray) : (a ++ b).data.toList = a.data.toList ++ b.data.toList := by simp

set_option maxRecDepth 100000 in
set_option maxHeartbeats 4000000 in
theorem sizes_walk {a b : ByteArray} {W : World} (ha : a.size ≤ maxLen) (hb : b.size ≤ maxLen) (hC : Cnt W) :
    Calls Tryd.prog 9 #[.string a, .string b] W fun e w' => e = .returned (.bool true) ∧ Below W.heap.size W w' := by
  unfold maxLen at ha hb
  have HC := Lib.hid hC
  clear hC
  by_cases hbig : 100000 < a.size
  · go_enter Tryd.func9, Tryd.ntmps9
    go_wp2_with (first
      | (go_at_call 11; (with_reducible refine (shown_any _ HC.out).mono ?_); rintro e w1 ⟨rfl, hb1⟩; have H1 := Lib.hid hb1; clear hb1))
    go_ret
    exact ⟨rfl, H1.out⟩
  · by_cases hbig2 : 100000 < b.size
    · go_enter Tryd.func9, Tryd.ntmps9
      go_wp2_with (first
        | (go_at_call 11; (with_reducible refine (shown_any _ HC.out).mono ?_); rintro e w1 ⟨rfl, hb1⟩; have H1 := Lib.hid hb1; clear hb1))
      go_ret
      exact ⟨rfl, H1.out⟩
    · obtain ⟨t, ht⟩ : ∃ t, a ++ b = t := ⟨_, rfl⟩
      have hts : t.size = a.size + b.size := by rw [← ht]; simp
      have hnov : ¬ 9223372036854775807 < a.size + b.size := by omega
      obtain ⟨X, hX⟩ : ∃ X, (enc a.data.toList).length = X := ⟨_, rfl⟩
      obtain ⟨Y, hY⟩ : ∃ Y, (enc b.data.toList).length = Y := ⟨_, rfl⟩
      have hZ : (enc t.data.toList).length = X + Y := by rw [← ht, append_data, enc_append, List.length_append, hX, hY]
      have hXl := enc_len_le a
      have hYl := enc_len_le b
      rw [hX] at hXl
      rw [hY] at hYl
      have sX := fun w hC => Size_n a ((X + 7) / 8) (by rw [hX]) w hC (by omega)
      have sY := fun w hC => Size_n b ((Y + 7) / 8) (by rw [hY]) w hC (by omega)
      have sZ := fun w hC => Size_n t ((X + Y + 7) / 8) (by rw [hZ]) w hC (by omega)
      obtain ⟨x8, hx8⟩ : ∃ x8, (X + 7) / 8 = x8 := ⟨_, rfl⟩
      obtain ⟨y8, hy8⟩ : ∃ y8, (Y + 7) / 8 = y8 := ⟨_, rfl⟩
      obtain ⟨z8, hz8⟩ : ∃ z8, (X + Y + 7) / 8 = z8 := ⟨_, rfl⟩
      rw [hx8] at sX
      rw [hy8] at sY
      rw [hz8] at sZ
      have SX := Lib.hid sX
      have SY := Lib.hid sY
      have SZ := Lib.hid sZ
      have HZ := Lib.hid hZ
      have i1 : z8 ≤ x8 + y8 := by omega
      have i2 : x8 + y8 ≤ z8 + 1 := by omega
      have k1 : x8 ≤ 1000000 := by omega
      have k2 : y8 ≤ 1000000 := by omega
      have Hz8 := Lib.hid hz8
      have hz := zero_ints.1
      have hXY : X + Y ≤ 6000000 := by omega
      clear ha hb hX hY hZ sX sY sZ hx8 hy8 hz8 hXl hYl
      go_enter Tryd.func9, Tryd.ntmps9
      go_wp2_with (first
        | (go_at_call 11; (with_reducible refine (shown_any _ HC.out).mono ?_); rintro e w1 ⟨rfl, hb1⟩; have H1 := Lib.hid hb1; clear hb1))
      clear hz
      go_loopg [9] 256 (fun gh i w' => ∃ k : Nat, gh + k = 256 ∧ i = .int .i64 (k : Int) ∧ Below W.heap.size W w' ∧ Blk w' w1.heap.size 43 (nCells k))
      case atStart => exact ⟨0, by omega, rfl, H1.out.alloc H1.out.size _, Blk.new w1 43 (nCells 0)⟩
      case round =>
        obtain ⟨k, hk, rfl, hb, hB⟩ := hrel
        have Hb := Lib.hid hb
        have HB := Lib.hid hB
        clear hb hB
        cases gk with
        | succ g1 =>
          have hk256 : k < 256 := by omega
          obtain ⟨c, n, hc⟩ : ∃ c n, code k = (c, n) := ⟨_, _, rfl⟩
          have Hc := Lib.hid hc
          clear hc
          go_wp2_with (first
            | (go_at_call 12; (with_reducible refine (Code_n2 k c n (by omega) Hc.out _ (HC.out.below Hb.out)).mono ?_); rintro e w4 ⟨rfl, hb4⟩; have Hb4 := Lib.hid (Hb.out.trans (hb4.mono Hb.out.size)); have HB4 := Lib.hid (HB.out.below hb4 HB.out.lt); have hf0 := HB4.out.frozen k; obtain ⟨ov, hov⟩ : ∃ v, w4.cell? ⟨w1.heap.size, k, none⟩ = some v := ⟨_, (HB4.out.cell k).trans (List.getElem?_eq_getElem (by rw [nCells_length]; exact hk256))⟩; clear hb4))
          go_roundg g1
          case measure => omega
          case rel =>
            have hf : Fr (· = w1.heap.size) w4 (w4.setCell ⟨w1.heap.size, k, none⟩ (.int .i64 (n : Int))) := (Fr.refl (· = w1.heap.size) w4).setCell (p := ⟨w1.heap.size, k, none⟩) (.inl rfl) _
            refine ⟨k + 1, by omega, by go_num, Hb4.out.trans (hf.below Hb4.out.size (fun i _ e => by have := H1.out.size; omega)), ?_⟩
            have := HB4.out.set_ k (.int .i64 (n : Int))
            have e := nCells_set k hk256
            rw [Hc.out] at e
            rw [e] at this
            exact this
        | zero =>
          obtain rfl : k = 256 := by omega
          have hw1 := H1.out.size
          go_wp2
          go_loopg [10, 6] t.size (fun gh i bt w' => ∃ k : Nat, gh + k = t.size ∧ i = .int .i64 (k : Int) ∧ bt = .int .i64 (((enc (t.data.toList.take k)).length : Nat) : Int) ∧ wr = w')
          case atStart => exact ⟨0, by omega, rfl, rfl, rfl⟩
          case round =>
            obtain ⟨k, hk, rfl, rfl, rfl⟩ := hrel
            have hle := enc_le (t.data.toList.take k)
            have hkl : (t.data.toList.take k).length ≤ k := List.length_take_le _ _
            cases gk with
            | succ g1 =>
              have hlt : k < t.size := by omega
              obtain ⟨x, hx⟩ : ∃ x : UInt8, t[k] = x := ⟨_, rfl⟩
              have he := enc_take_len t k hlt
              rw [hx] at he
              have He := Lib.hid he
              have hcd := code_bd x
              have hxl := x.toNat_lt
              have hcell := (HB.out.cell x.toNat).trans (nCells_at x.toNat (by omega))
              obtain ⟨m, hm⟩ : ∃ m, (code x.toNat).2 = m := ⟨_, rfl⟩
              rw [hm] at hcell hcd
              obtain ⟨L, hL⟩ : ∃ L, (enc (t.data.toList.take k)).length = L := ⟨_, rfl⟩
              rw [hL] at hle ⊢
              have hm1 := hcd.1
              have hm2 := hcd.2.1
              have Hm := Lib.hid hm
              have HL := Lib.hid hL
              have hx1 : (0 : Int) ≤ (x.toNat : Int) := by omega
              have hx2 : (x.toNat : Int) < 256 := by omega
              clear he hm hL hcd
              go_wp2
              go_roundg g1
              case measure => omega
              case rel => exact ⟨k + 1, by omega, by go_num, by rw [He.out, HL.out, Hm.out]; go_num, rfl⟩
            | zero =>
              obtain rfl : k = t.size := by omega
              have HT : Hid (t.data.toList.take t.size = t.data.toList) := List.take_of_length_le (by simp)
              rw [HT.out, HZ.out]
              have hzb : ((z8 : Int) == ((X : Int) + (Y : Int) + 7) / 8) = true := by
                have := Hz8.out
                simp; omega
              have j1 : (z8 : Int) ≤ (x8 : Int) + (y8 : Int) := by omega
              have j2 : (x8 : Int) + (y8 : Int) - 1 ≤ (z8 : Int) := by omega
              clear hle hkl
              go_wp2_with (first
                | (go_at_call 15; (with_reducible refine (SX.out _ (HC.out.below Hb.out)).mono ?_); rintro e w5 ⟨rfl, hb5⟩; have H5 := Lib.hid (Hb.out.trans (hb5.mono Hb.out.size)); clear hb5)
                | (go_at_call 15; (with_reducible refine (SY.out _ (HC.out.below H5.out)).mono ?_); rintro e w6 ⟨rfl, hb6⟩; have H6 := Lib.hid (H5.out.trans (hb6.mono H5.out.size)); clear hb6)
                | (go_at_call 15; (with_reducible refine (SZ.out _ (HC.out.below H6.out)).mono ?_); rintro e w7 ⟨rfl, hb7⟩; have H7 := Lib.hid (H6.out.trans (hb7.mono H6.out.size)); clear hb7))
              go_ret
              exact ⟨rfl, H7.out⟩
end Go.Proofs.YtmonjligceepmaaDoor
