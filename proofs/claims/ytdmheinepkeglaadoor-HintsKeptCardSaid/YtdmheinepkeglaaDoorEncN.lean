/- Encode and Size with their numbers of octets said; a literal's octets. -/
import Derived.Test.YtdmheinepkeglaaDoorDec
namespace Go.Proofs.YtdmheinepkeglaaDoor
open Go.RowKit Go.Own Go.Huf
set_option linter.unusedVariables false

theorem conv_rd {W : World} {A : Option Addr} {n c : Nat} {xs : List UInt8} (h : Rd W 1 A n (xs.map BV)) : (convert 23 9 (.slice A n c)).run Tryd.prog W = .ok (.string ⟨xs.toArray⟩) W :=
  run_conv_bytes (P := Tryd.prog) Tryd.underlying23 Tryd.underlying5 Tryd.underlying9 h
/-- Encode, of a text whose octets are known -/
theorem Encode_is (s : ByteArray) (ys : List UInt8) (n : Nat) (hn : ys.length = n) (hp : Pk (enc s.data.toList) ys) (w : World) (hC : Cnt w) (hs : s.size ≤ 16777216) :
    Calls Tryd.prog 30 #[.string s] w fun e w' => ∃ A c, e = .returned (.slice A n c) ∧ w'.ownsRow w.heap.size 5 1 (.slice A n c) n (ys.map BV) ∧ Below w.heap.size w w' := by
  refine (Encode_any s w hC hs).mono ?_
  rintro e w' ⟨A, m, c, xs, rfl, ho, hk, hb⟩
  obtain rfl := hk.uniq hp
  have hl := ho.1
  simp at hl
  obtain rfl : m = n := by omega
  exact ⟨A, c, rfl, ho, hb⟩
/-- Encode, the number of octets said -/
theorem Encode_n (s : ByteArray) (N : Nat) (hN : ((enc s.data.toList).length + 7) / 8 = N) (w : World) (hC : Cnt w) (hs : s.size ≤ 16777216) :
    Calls Tryd.prog 30 #[.string s] w fun e w' => ∃ A c xs, e = .returned (.slice A N c) ∧ w'.ownsRow w.heap.size 5 1 (.slice A N c) N (xs.map BV) ∧ N ≤ c ∧ c ≤ 9223372036854775807 ∧ Pk (enc s.data.toList) xs ∧ Below w.heap.size w w' := by
  refine (Encode_any s w hC hs).mono ?_
  rintro e w' ⟨A, m, c, xs, rfl, ho, hk, hb⟩
  have hl := ho.1
  have hk2 := hk.len
  simp at hl
  obtain rfl : m = N := by omega
  obtain ⟨A', c', he, h1, h2, _⟩ := own_shape ho
  simp only [Value.slice.injEq] at he
  obtain ⟨_, _, rfl⟩ := he
  exact ⟨A, c, xs, rfl, ho, h1, h2, hk, hb⟩
theorem Size_n (s : ByteArray) (N : Nat) (hN : ((enc s.data.toList).length + 7) / 8 = N) (w : World) (hC : Cnt w) (hs : s.size ≤ 140737488355328) :
    Calls Tryd.prog 29 #[.string s] w fun e w' => e = .returned (.int .i64 (N : Int)) ∧ Below w.heap.size w w' := by
  have := Size_any s w hC hs
  rw [hN] at this
  exact this
theorem lit_rd (w : World) (ys : List UInt8) (n : Nat) (cs : Array Value) (hcs : cs = (ys.map BV).toArray) (hn : ys.length = n) : Rd (w.alloc (.cells cs 5)) 1 (some ⟨w.heap.size, 0, none⟩) n (ys.map BV) := by
  subst hcs
  have := Rd.of_blk (n := n) (size := 1) (Blk.new w 5 (ys.map BV)) (by simp; omega)
  rwa [Nat.mul_one, List.take_of_length_le (by simp; omega)] at this
end Go.Proofs.YtdmheinepkeglaaDoor
