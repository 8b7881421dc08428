/- The contracts of huffman's writers: size, Size, Encode. -/
import Derived.Test.YtdmheinepkeglaaDoorTab2
import Derived.RegionTactic
namespace Go.Proofs.YtdmheinepkeglaaDoor
open Go.RowKit Go.Own Go.Huf
set_option linter.unusedVariables false

theorem enc_take (s : ByteArray) (k : Nat) (h : k < s.size) : enc (s.data.toList.take (k + 1)) = enc (s.data.toList.take k) ++ cbits (s[k]).toNat := by
  rw [List.take_succ_eq_append_getElem (by simpa using h), enc_append]
  simp [enc]
  rfl
theorem enc_take_len (s : ByteArray) (k : Nat) (h : k < s.size) : (enc (s.data.toList.take (k + 1))).length = (enc (s.data.toList.take k)).length + (code (s[k]).toNat).2 := by
  rw [enc_take s k h, List.length_append, cbits_length]
theorem blk_code {w : World} {g : Nat} (hg : Blk w g 71 codeCells) (x : UInt8) :
    w.cell? ⟨g, x.toNat * 2, none⟩ = some (.int .u32 (((code x.toNat).1 : Nat) : Int)) ∧ w.cell? ⟨g, x.toNat * 2 + 1, none⟩ = some (.int .i64 (((code x.toNat).2 : Nat) : Int)) := by
  have hx := x.toNat_lt
  have h := cellsP_at codeL x.toNat _ (code_at x.toNat (by omega))
  exact ⟨(hg.cell _).trans h.1, (hg.cell _).trans h.2⟩
theorem code_bd (x : UInt8) : 5 ≤ (code x.toNat).2 ∧ (code x.toNat).2 ≤ 30 ∧ (code x.toNat).1 < 2 ^ (code x.toNat).2 := by
  have hx := x.toNat_lt
  have := code_sym x.toNat (by omega)
  exact ⟨this.2.2.2.1, this.2.2.2.2, code_lt _ (by omega)⟩

set_option maxRecDepth 100000 in
set_option maxHeartbeats 2000000 in
theorem size_any (s : ByteArray) (g : Nat) (w : World) (hg : Blk w g 71 codeCells) (hs : s.size ≤ 140737488355328) :
    Calls Tryd.prog 42 #[.string s, .pointer (some ⟨g, 0, none⟩)] w fun e w' => e = .returned (.int .i64 ((((enc s.data.toList).length + 7) / 8 : Nat) : Int)) ∧ ∃ k, w' = w.drewN k := by
  have Hg := Lib.hid hg
  clear hg
  go_enter Tryd.func42, Tryd.ntmps42
  go_wp2
  go_loopg [9, 5] s.size (fun gh i b w' => ∃ (k q : Nat), gh + k = s.size ∧ i = .int .i64 k ∧ b = .int .i64 ((enc (s.data.toList.take k)).length : Nat) ∧ w' = w.drewN q)
  case atStart => exact ⟨0, 0, by omega, rfl, rfl, rfl⟩
  case round =>
    obtain ⟨k, q, hk, rfl, rfl, rfl⟩ := hrel
    have hle := enc_le (s.data.toList.take k)
    have hkl : (s.data.toList.take k).length ≤ k := List.length_take_le _ _
    cases gk with
    | succ g1 =>
      have hlt : k < s.size := by omega
      obtain ⟨x, hx⟩ : ∃ x : UInt8, s[k] = x := ⟨_, rfl⟩
      have he := enc_take_len s k hlt
      rw [hx] at he
      have He := Lib.hid he
      have hb := code_bd x
      have hc := (blk_code Hg.out x).2
      obtain ⟨L, hL⟩ : ∃ L, (enc (s.data.toList.take k)).length = L := ⟨_, rfl⟩
      rw [hL] at hle ⊢
      have HL := Lib.hid hL
      obtain ⟨m, hm⟩ : ∃ m, (code x.toNat).2 = m := ⟨_, rfl⟩
      rw [hm] at hb hc
      have Hm := Lib.hid hm
      have hxl := x.toNat_lt
      have hx1 : (0 : Int) ≤ (x.toNat : Int) := by omega
      have hx2 : (x.toNat : Int) < 257 := by omega
      have hw : IntKind.i64.wrap ((L : Int) + m) = (L : Int) + m := by rw [IntKind.wrap_i64]; omega
      clear he hL hm
      go_wp2
      go_quiet (fail)
      go_wp2
      go_roundg g1
      case measure => omega
      case rel => exact ⟨k + 1, _, by omega, by go_num, by rw [He.out, HL.out, Hm.out]; go_num, rfl⟩
    | zero =>
      obtain rfl : k = s.size := by omega
      have HL : Hid (s.data.toList.take s.size = s.data.toList) := List.take_of_length_le (by simp)
      rw [HL.out] at hle hkl ⊢
      obtain ⟨L, hL⟩ : ∃ L, (enc s.data.toList).length = L := ⟨_, rfl⟩
      rw [hL] at hle ⊢
      have HL2 := Lib.hid hL
      clear hL HL
      go_wp2
      go_ret
      exact ⟨ret_int (by have := HL2.out; omega), q, rfl⟩

set_option maxRecDepth 100000 in
set_option maxHeartbeats 2000000 in
theorem Size_any (s : ByteArray) (w : World) (hC : Cnt w) (hs : s.size ≤ 140737488355328) :
    Calls Tryd.prog 29 #[.string s] w fun e w' => e = .returned (.int .i64 ((((enc s.data.toList).length + 7) / 8 : Nat) : Int)) ∧ Below w.heap.size w w' := by
  have hz := zero_codes.1
  go_enter Tryd.func29, Tryd.ntmps29
  go_wp2_with (first
    | (go_at_call 41; (with_reducible refine (codes_any _ hC).mono ?_); rintro e w1 ⟨rfl, hb1⟩; have Hb1 := Lib.hid hb1; clear hb1)
    | (refine wpList_store_codes rfl _ _ rfl _ rfl (outP 0) codeL (outP_length 0) codeL_length rfl (Blk.new _ _ _) ?_; intro w2 hb2 hf2; have HB2 := Lib.hid hb2; have Hf2 := Lib.hid hf2; clear hb2 hf2)
    | (go_at_call 42; (with_reducible refine (size_any s _ _ HB2.out hs).mono ?_); rintro e w' ⟨rfl, q, rfl⟩))
  go_ret
  exact ⟨rfl, below_drewN (Hb1.out.trans (((Below.refl _ _).alloc Hb1.out.size _).trans (Hf2.out.below (by simp; have := Hb1.out.size; omega) (fun i _ e => by have := Hb1.out.size; omega)))) _⟩
end Go.Proofs.YtdmheinepkeglaaDoor
