/- Stage 8: Same of like lists. -/
import Derived.Test.YthdikinpociiaaaSeL
namespace Go.Proofs.Ythdikinpociiaaa
open Go.RowKit Go.Own Go.Set8
set_option linter.unusedVariables false
set_option maxRecDepth 100000
set_option maxHeartbeats 4000000 in
theorem same8_c (l : List (Int × Nat)) {w : World} {A B : Option Addr} {c d n : Nat} (hl : Rd w 2 A n (scells l)) (hl' : Rd w 2 B n (scells l)) (hn : n ≤ 9223372036854775807) :
    Calls Try.prog 12 #[.slice A n c, .slice B n d] w fun e w' => e = .returned (.bool true) ∧ ∃ k, w' = w.drewN k := by
  have HLL := Lib.hid (rd_set_len hl)
  have HL := Lib.hid hl
  have HL' := Lib.hid hl'
  clear hl hl'
  go_enter Try.func12, Try.ntmps12
  go_wp2
  go_loopg [5] n (fun gh i w' => ∃ j k : Nat, gh + j = n ∧ i = .int .i64 (j : Int) ∧ w' = w.drewN k)
  case atStart => exact ⟨0, 0, by omega, rfl, rfl⟩
  case round =>
    obtain ⟨j, k, hj, rfl, rfl⟩ := hrel
    cases gk with
    | succ g1 =>
      have k1 : (j : Int) < (n : Int) := by omega
      have hjl : j < l.length := by rw [HLL.out]; omega
      have hat : l[j]? = some l[j] := List.getElem?_eq_getElem hjl
      obtain ⟨⟨s1, s2⟩, hs⟩ : ∃ s, l[j] = s := ⟨_, rfl⟩
      rw [hs] at hat
      obtain ⟨b, o, rfl, c0, c1⟩ := rd_set HL.out hat
      obtain ⟨b', o', rfl, c0', c1'⟩ := rd_set HL'.out hat
      have neq := fun W => sett_neq s1 (s2 : Int) W
      have HJ := Lib.hid hj
      clear hat hs hj
      go_wp2
      go_quiet (fail)
      go_wp2
      go_roundg g1
      case measure => omega
      case rel => exact ⟨j + 1, _, by have := HJ.out; omega, by go_num, rfl⟩
    | zero =>
      obtain rfl : j = n := by omega
      go_wp2
      go_ret
      exact ⟨rfl, _, rfl⟩
end Go.Proofs.Ythdikinpociiaaa
