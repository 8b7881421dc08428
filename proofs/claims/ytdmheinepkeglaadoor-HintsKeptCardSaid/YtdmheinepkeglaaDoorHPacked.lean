/- The contract of HintsKept's 'packed'. -/
import Derived.Test.YtdmheinepkeglaaDoorHRef2
namespace Go.Proofs.YtdmheinepkeglaaDoor
open Go.RowKit Go.Own Go.Huf Go.Hin
set_option linter.unusedVariables false

set_option maxRecDepth 100000 in
set_option maxHeartbeats 4000000 in
theorem packed_any (s : ByteArray) (hs : s.size ≤ 140737488355328) (b : Bool) (hb : decide (((enc s.data.toList).length + 7) / 8 < s.size) = b) (w : World) :
    Calls Tryd.prog 18 #[.string s] w fun e w' => e = .returned (.bool b) ∧ Below w.heap.size w w' := by
  have HB := Lib.hid hb
  clear hb
  go_enter Tryd.func18, Tryd.ntmps18
  go_wp2_with (first
    | (go_at_call 32; (with_reducible refine (rLengths_any _).mono ?_); rintro e w1 ⟨g, rfl, hg, hge, hb1⟩; have Hg := Lib.hid hg; have H1 := Lib.hid hb1; clear hg hb1))
  go_loopg [5, 3] s.size (fun gh i b w' => ∃ (k q : Nat), gh + k = s.size ∧ i = .int .i64 k ∧ b = .int .i64 ((enc (s.data.toList.take k)).length : Nat) ∧ w' = w1.drewN q)
  case atStart => exact ⟨0, 0, by omega, rfl, rfl, rfl⟩
  case round =>
    obtain ⟨k, q, hk, rfl, rfl, rfl⟩ := hrel
    have hle := enc_le (s.data.toList.take k)
    have hkl : (s.data.toList.take k).length ≤ k := List.length_take_le _ _
    cases gk with
    | succ g1 =>
      have hlt : k < s.size := by omega
      obtain ⟨x, hx⟩ : ∃ x : UInt8, s[k] = x := ⟨_, rfl⟩
      have he := enc_take_len s k hlt
      rw [hx] at he
      have He := Lib.hid he
      have hb := code_bd x
      have hxl := x.toNat_lt
      have hc := (Hg.out.cell x.toNat).trans (lenCells_at x.toNat (by omega))
      obtain ⟨L, hL⟩ : ∃ L, (enc (s.data.toList.take k)).length = L := ⟨_, rfl⟩
      rw [hL] at hle ⊢
      have HL := Lib.hid hL
      obtain ⟨m, hm⟩ : ∃ m, (code x.toNat).2 = m := ⟨_, rfl⟩
      rw [hm] at hb hc
      have Hm := Lib.hid hm
      have hx1 : (0 : Int) ≤ (x.toNat : Int) := by omega
      have hx2 : (x.toNat : Int) < 257 := by omega
      have hw : IntKind.i64.wrap ((L : Int) + m) = (L : Int) + m := by rw [IntKind.wrap_i64]; omega
      clear he hL hm
      go_wp2
      (try go_quiet (fail))
      (try go_wp2)
      go_roundg g1
      case measure => omega
      case rel => exact ⟨k + 1, _, by omega, by go_num, by rw [He.out, HL.out, Hm.out]; go_num, rfl⟩
    | zero =>
      obtain rfl : k = s.size := by omega
      have HL : Hid (s.data.toList.take s.size = s.data.toList) := List.take_of_length_le (by simp)
      rw [HL.out] at hle hkl ⊢
      obtain ⟨L, hL⟩ : ∃ L, (enc s.data.toList).length = L := ⟨_, rfl⟩
      rw [hL] at hle ⊢
      have hb2 := HB.out
      rw [hL] at hb2
      have HB2 := Lib.hid hb2
      clear hL HL hb2
      go_wp2
      go_ret
      refine ⟨ret_bool ?_, below_drewN H1.out q⟩
      rw [← HB2.out]
      congr 1
      apply propext
      constructor <;> intro h <;> omega
end Go.Proofs.YtdmheinepkeglaaDoor
