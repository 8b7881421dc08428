/- The contract of the huffman laws' common case 'shown'. -/
import Derived.Test.YtmonjligceepmaaDoorDec
namespace Go.Proofs.YtmonjligceepmaaDoor
open Go.RowKit Go.Own Go.Huf
set_option linter.unusedVariables false

theorem conv_rd {W : World} {A : Option Addr} {n c : Nat} {xs : List UInt8} (h : Rd W 1 A n (xs.map BV)) : (convert 31 9 (.slice A n c)).run Tryd.prog W = .ok (.string ⟨xs.toArray⟩) W :=
  run_conv_bytes (P := Tryd.prog) Tryd.underlying31 Tryd.underlying5 Tryd.underlying9 h
/-- Encode, of a text whose octets are known -/
theorem Encode_is (s : ByteArray) (ys : List UInt8) (n : Nat) (hn : ys.length = n) (hp : Pk (enc s.data.toList) ys) (w : World) (hC : Cnt w) (hs : s.size ≤ 16777216) :
    Calls Tryd.prog 17 #[.string s] w fun e w' => ∃ A c, e = .returned (.slice A n c) ∧ w'.ownsRow w.heap.size 5 1 (.slice A n c) n (ys.map BV) ∧ Below w.heap.size w w' := by
  refine (Encode_any s w hC hs).mono ?_
  rintro e w' ⟨A, m, c, xs, rfl, ho, hk, hb⟩
  obtain rfl := hk.uniq hp
  have hl := ho.1
  simp at hl
  obtain rfl : m = n := by omega
  exact ⟨A, c, rfl, ho, hb⟩
/-- Encode, the number of octets said -/
theorem Encode_n (s : ByteArray) (N : Nat) (hN : ((enc s.data.toList).length + 7) / 8 = N) (w : World) (hC : Cnt w) (hs : s.size ≤ 16777216) :
    Calls Tryd.prog 17 #[.string s] w fun e w' => ∃ A c xs, e = .returned (.slice A N c) ∧ w'.ownsRow w.heap.size 5 1 (.slice A N c) N (xs.map BV) ∧ N ≤ c ∧ c ≤ 9223372036854775807 ∧ Pk (enc s.data.toList) xs ∧ Below w.heap.size w w' := by
  refine (Encode_any s w hC hs).mono ?_
  rintro e w' ⟨A, m, c, xs, rfl, ho, hk, hb⟩
  have hl := ho.1
  have hk2 := hk.len
  simp at hl
  obtain rfl : m = N := by omega
  obtain ⟨A', c', he, h1, h2, _⟩ := own_shape ho
  simp only [Value.slice.injEq] at he
  obtain ⟨_, _, rfl⟩ := he
  exact ⟨A, c, xs, rfl, ho, h1, h2, hk, hb⟩
theorem Size_n (s : ByteArray) (N : Nat) (hN : ((enc s.data.toList).length + 7) / 8 = N) (w : World) (hC : Cnt w) (hs : s.size ≤ 140737488355328) :
    Calls Tryd.prog 15 #[.string s] w fun e w' => e = .returned (.int .i64 (N : Int)) ∧ Below w.heap.size w w' := by
  have := Size_any s w hC hs
  rw [hN] at this
  exact this
theorem lit_rd (w : World) (ys : List UInt8) (n : Nat) (cs : Array Value) (hcs : cs = (ys.map BV).toArray) (hn : ys.length = n) : Rd (w.alloc (.cells cs 5)) 1 (some ⟨w.heap.size, 0, none⟩) n (ys.map BV) := by
  subst hcs
  have := Rd.of_blk (n := n) (size := 1) (Blk.new w 5 (ys.map BV)) (by simp; omega)
  rwa [Nat.mul_one, List.take_of_length_le (by simp; omega)] at this
theorem code_48 : code 48 = (0, 5) := by decide +kernel
theorem code_256 : code 256 = (1073741823, 30) := by decide +kernel
theorem dec_1f1 : dec (bits8 [31]) 1 = .ok [97] := by kernel_rfl
theorem dec_ff9 : dec (bits8 [255]) 9 = .form := by kernel_rfl
theorem dec_1f0 : dec (bits8 [31]) 0 = .long := by kernel_rfl
theorem pk_a : Pk (enc [97]) [31] := ⟨3, by omega, by decide +kernel⟩
theorem pk_www : Pk (enc [119, 119, 119, 46, 101, 120, 97, 109, 112, 108, 101, 46, 99, 111, 109]) [241, 227, 194, 229, 242, 58, 107, 160, 171, 144, 244, 255] := ⟨7, by omega, by decide +kernel⟩
theorem code48 (w : World) (hC : Cnt w) : Calls Tryd.prog 12 #[.int .i64 48] w fun e w' => e = .returned (.tuple #[.int .u32 0, .int .i64 5]) ∧ Below w.heap.size w w' := by
  have := Code_yes 48 (by omega) w hC
  rw [code_48] at this
  exact this
theorem code256 (w : World) (hC : Cnt w) : Calls Tryd.prog 12 #[.int .i64 256] w fun e w' => e = .returned (.tuple #[.int .u32 1073741823, .int .i64 30]) ∧ Below w.heap.size w w' := by
  have := Code_yes 256 (by omega) w hC
  rw [code_256] at this
  exact this
/-- Decode of one octet that the text lays -/
theorem decode1 (y : UInt8) (most : Int) (w : World) (hC : Cnt w) : Calls Tryd.prog 19 #[.slice (some ⟨w.heap.size, 0, none⟩) 1 1, .int .i64 most] (w.alloc (.cells #[.int .u8 (y.toNat : Int)] 5)) fun e w' =>
    e = .returned (resV (dec (bits8 [y]) most)) ∧ Below w.heap.size w w' := by
  refine (Decode_any (lit_rd w [y] 1 _ rfl rfl) (hC.fr ((Fr.refl (fun _ => False) _).alloc _) (fun h => h)) (by omega) (by omega) (by omega) most).mono ?_
  rintro e w' ⟨he, hb⟩
  exact ⟨he, ((Below.refl _ _).alloc (Nat.le_refl _) _).trans (hb.mono (by simp))⟩
theorem dec1f1 (w : World) (hC : Cnt w) : Calls Tryd.prog 19 #[.slice (some ⟨w.heap.size, 0, none⟩) 1 1, .int .i64 1] (w.alloc (.cells #[.int .u8 31] 5)) fun e w' => e = .returned (.tuple #[.string ⟨#[97]⟩, .int .i64 0]) ∧ Below w.heap.size w w' := by
  have := decode1 31 1 w hC
  rw [dec_1f1] at this
  exact this
theorem decff9 (w : World) (hC : Cnt w) : Calls Tryd.prog 19 #[.slice (some ⟨w.heap.size, 0, none⟩) 1 1, .int .i64 9] (w.alloc (.cells #[.int .u8 255] 5)) fun e w' => e = .returned (.tuple #[.string ⟨#[]⟩, .int .i64 3]) ∧ Below w.heap.size w w' := by
  have := decode1 255 9 w hC
  rw [dec_ff9] at this
  exact this
theorem dec1f0 (w : World) (hC : Cnt w) : Calls Tryd.prog 19 #[.slice (some ⟨w.heap.size, 0, none⟩) 1 1, .int .i64 0] (w.alloc (.cells #[.int .u8 31] 5)) fun e w' => e = .returned (.tuple #[.string ⟨#[]⟩, .int .i64 4]) ∧ Below w.heap.size w w' := by
  have := decode1 31 0 w hC
  rw [dec_1f0] at this
  exact this
theorem encwww (w : World) (hC : Cnt w) : Calls Tryd.prog 17 #[.string ⟨#[119, 119, 119, 46, 101, 120, 97, 109, 112, 108, 101, 46, 99, 111, 109]⟩] w fun e w' => ∃ A c, e = .returned (.slice A 12 c) ∧ Below w.heap.size w w' ∧
    (convert 31 9 (.slice A 12 c)).run Tryd.prog w' = .ok (.string ⟨#[241, 227, 194, 229, 242, 58, 107, 160, 171, 144, 244, 255]⟩) w' := by
  refine (Encode_is _ _ 12 rfl pk_www w hC (by decide)).mono ?_
  rintro e w' ⟨A, c, rfl, ho, hb⟩
  exact ⟨A, c, rfl, hb, conv_rd (Rd.of_own ho)⟩
theorem enca (w : World) (hC : Cnt w) : Calls Tryd.prog 17 #[.string ⟨#[97]⟩] w fun e w' => ∃ A c, e = .returned (.slice A 1 c) ∧ Below w.heap.size w w' ∧
    (convert 31 9 (.slice A 1 c)).run Tryd.prog w' = .ok (.string ⟨#[31]⟩) w' := by
  refine (Encode_is _ _ 1 rfl pk_a w hC (by decide)).mono ?_
  rintro e w' ⟨A, c, rfl, ho, hb⟩
  exact ⟨A, c, rfl, hb, conv_rd (Rd.of_own ho)⟩
theorem BC (w w' w2 : World) (h : Below w.heap.size w w') (h' : Below w'.heap.size w' w2) : Below w.heap.size w w2 := h.trans (h'.mono h.size)

set_option maxRecDepth 100000 in
set_option maxHeartbeats 2000000 in
theorem shown_any (w : World) (hC : Cnt w) : Calls Tryd.prog 11 #[] w fun e w' => e = .returned (.bool true) ∧ Below w.heap.size w w' := by
  have HC := Lib.hid hC
  clear hC
  go_enter Tryd.func11, Tryd.ntmps11
  go_wp2_with (first
    | (go_at_call 12; (with_reducible refine (code48 _ HC.out).mono ?_); rintro e w1 ⟨rfl, hb1⟩; have H1 := Lib.hid hb1; clear hb1)
    | (go_at_call 12; (with_reducible refine (code256 _ (HC.out.below H1.out)).mono ?_); rintro e w2 ⟨rfl, hb2⟩; have H2 := Lib.hid (H1.out.trans (hb2.mono H1.out.size)); clear hb2)
    | (go_at_call 19; (with_reducible refine (dec1f1 _ (HC.out.below H2.out)).mono ?_); rintro e w3 ⟨rfl, hb3⟩; have H3 := Lib.hid (H2.out.trans (hb3.mono H2.out.size)); clear hb3)
    | (go_at_call 19; (with_reducible refine (decff9 _ (HC.out.below H3.out)).mono ?_); rintro e w4 ⟨rfl, hb4⟩; have H4 := Lib.hid (H3.out.trans (hb4.mono H3.out.size)); clear hb4)
    | (go_at_call 19; (with_reducible refine (dec1f0 _ (HC.out.below H4.out)).mono ?_); rintro e w5 ⟨rfl, hb5⟩; have H5 := Lib.hid (H4.out.trans (hb5.mono H4.out.size)); clear hb5)
    | (go_at_call 17; (with_reducible refine (encwww _ (HC.out.below H5.out)).mono ?_); rintro e w6 ⟨A6, c6, rfl, hb6, hcv6⟩; have H6 := Lib.hid (H5.out.trans (hb6.mono H5.out.size)); clear hb6)
    | (go_at_call 17; (with_reducible refine (enca _ (HC.out.below H6.out)).mono ?_); rintro e w7 ⟨A7, c7, rfl, hb7, hcv7⟩; have H7 := Lib.hid (H6.out.trans (hb7.mono H6.out.size)); clear hb7))
  go_ret
  exact ⟨rfl, H7.out⟩
end Go.Proofs.YtmonjligceepmaaDoor
