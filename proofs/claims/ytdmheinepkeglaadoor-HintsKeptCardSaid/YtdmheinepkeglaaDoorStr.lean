/- Texts of bits: what the document's answer is written in. -/
import Derived.Test.YtdmheinepkeglaaDoorBk
namespace Go.Proofs.YtdmheinepkeglaaDoor
open Go.RowKit Go.Own Go.Huf
set_option linter.unusedVariables false

def str (t : List UInt8) : ByteArray := ⟨t.toArray⟩
theorem str_data (t : List UInt8) : (str t).data.toList = t := by simp [str]
theorem str_size (t : List UInt8) : (str t).size = t.length := by
  have : (str t).data.toList.length = (str t).size := by simp
  rw [← this, str_data]
theorem str_append (a b : List UInt8) : str a ++ str b = str (a ++ b) := by
  apply ByteArray.ext
  simp [str]
def bch (b : Bool) : UInt8 := if b then 49 else 48
def chs (l : List Bool) : List UInt8 := l.map bch
def bstr (l : List Bool) : ByteArray := str (chs l)
theorem chs_length (l : List Bool) : (chs l).length = l.length := by simp [chs]
theorem bstr_size (l : List Bool) : (bstr l).size = l.length := by rw [bstr, str_size, chs_length]
theorem bch_inj {a b : Bool} (h : bch a = bch b) : a = b := by cases a <;> cases b <;> first | rfl | (exact absurd h (by decide))
theorem chs_inj : ∀ {a b : List Bool}, chs a = chs b → a = b
  | [], [], _ => rfl
  | [], _ :: _, h => by simp [chs] at h
  | _ :: _, [], h => by simp [chs] at h
  | x :: a, y :: b, h => by
    simp only [chs, List.map_cons, List.cons.injEq] at h
    rw [bch_inj h.1, chs_inj h.2]
theorem bit_ch (b : Nat) (h : b ≤ 1) : (48 + (b : Int)) = ((bch (b == 1)).toNat : Int) := by
  have : b = 0 ∨ b = 1 := by omega
  rcases this with rfl | rfl <;> rfl
theorem conv_lit1 (w : World) (z : Int) (c : UInt8) (hz : z = (c.toNat : Int)) : (convert 23 9 (.slice (some ⟨w.heap.size, 0, none⟩) 1 1)).run Tryd.prog (w.alloc (.cells #[.int .u8 z] 5)) = .ok (.string (str [c])) (w.alloc (.cells #[.int .u8 z] 5)) := by
  subst hz
  exact conv_rd (xs := [c]) (rd_lit1 w 5 _)

set_option maxRecDepth 100000 in
set_option maxHeartbeats 2000000 in
theorem rBits_any (x n : Nat) (w : World) (hx : x < 4294967296) (hn : n ≤ 32) :
    Calls Tryd.prog 38 #[.int .u32 (x : Int), .int .i64 (n : Int)] w fun e w' => e = .returned (.string (bstr (bitsN n x))) ∧ Below w.heap.size w w' := by
  go_enter Tryd.func38, Tryd.ntmps38
  go_wp2
  go_loopg [6, 5] n (fun gh i t w' => ∃ j : Nat, gh + j = n ∧ i = .int .i64 ((gh : Int) - 1) ∧ t = .string (bstr (bitsN j (x / 2 ^ gh))) ∧ Below w.heap.size w w')
  case atStart => exact ⟨0, by omega, rfl, rfl, Below.refl _ _⟩
  case round =>
    obtain ⟨j, hj, rfl, rfl, hb⟩ := hrel
    have HB := Lib.hid hb
    clear hb
    cases gk with
    | succ g =>
      have e : (((g + 1 : Nat) : Int) - 1) = (g : Int) := by omega
      rw [e]
      obtain ⟨bt, hbt⟩ : ∃ bt : Nat, x / 2 ^ g % 2 = bt := ⟨_, rfl⟩
      have hb1 : bt ≤ 1 := by omega
      have hand : Go.bits BinOp.and IntKind.u32 ((x : Int) / 2 ^ g) 1 = (bt : Int) := by
        have e : ((x : Int) / 2 ^ g) = ((x / 2 ^ g : Nat) : Int) := by simp
        have hle : x / 2 ^ g ≤ x := Nat.div_le_self _ _
        rw [e, show (1 : Int) = ((1 : Nat) : Int) from rfl, u32_and_nat _ _ (by omega) (by omega), Nat.and_one_is_mod, hbt]
      have hcv := conv_lit1 wr (48 + (bt : Int)) (bch (bt == 1)) (bit_ch bt hb1)
      have hnx : bitsN (j + 1) (x / 2 ^ g) = bitsN j (x / 2 ^ (g + 1)) ++ [bt == 1] := by
        rw [bitsN, hbt, Nat.div_div_eq_div_mul, Nat.pow_succ]
      obtain ⟨t0, ht0⟩ : ∃ t0, bitsN j (x / 2 ^ (g + 1)) = t0 := ⟨_, rfl⟩
      rw [ht0] at hnx ⊢
      have Hnx := Lib.hid hnx
      have hsz : (bstr t0).size ≤ 64 := by rw [bstr_size, ← ht0, bitsN_length]; omega
      have hmin : min g 32 = g := by omega
      have hnov : ¬ 9223372036854775807 < (bstr t0).size + (str [bch (bt == 1)]).size := by
        have : (str [bch (bt == 1)]).size = 1 := by rw [str_size]; rfl
        omega
      clear e hbt hnx ht0
      go_wp2
      go_roundg g
      case measure => omega
      case rel => exact ⟨j + 1, by omega, rfl, by rw [Hnx.out]; simp only [bstr, chs, List.map_append, ← str_append]; rfl, HB.out.alloc HB.out.size _⟩
    | zero =>
      go_wp2
      go_ret
      obtain rfl : j = n := by omega
      exact ⟨by simp, HB.out⟩
end Go.Proofs.YtdmheinepkeglaaDoor
