/- Stage 8: Tell, the program's: the walk. -/
import Derived.Test.YthdikinpociiaaaSeG
namespace Go.Proofs.Ythdikinpociiaaa
open Go.RowKit Go.Own Go.Set8
set_option linter.unusedVariables false
set_option maxRecDepth 100000
section
variable {w : World}
theorem tell_step (was is : Va) (k : Nat) (N O : Int) (hN : num is k = N) (hO : num was k = O) : (N = O ∧ tellK was is (k + 1) = tellK was is k) ∨ (N ≠ O ∧ can N = false ∧ tellK was is (k + 1) = tellK was is k) ∨ (N ≠ O ∧ can N = true ∧ 0 ≤ N ∧ N ≤ 4294967295 ∧ tellK was is (k + 1) = tellK was is k ++ [((k : Int), N.toNat)]) := by
  rw [tellK, hN, hO]
  unfold tell1
  by_cases h : N = O
  · exact .inl ⟨h, by rw [if_neg (by simp [h]), List.append_nil]⟩
  · cases hc : can N with
    | false => exact .inr (.inl ⟨h, rfl, by rw [if_neg (by simp), List.append_nil]⟩)
    | true =>
      have h2 : 0 ≤ N ∧ N ≤ 4294967295 := by unfold can at hc; simpa using hc
      exact .inr (.inr ⟨h, rfl, h2.1, h2.2, by rw [if_pos ⟨h, rfl⟩]⟩)
set_option maxHeartbeats 4000000 in
theorem tell_c (was is : Va) (L : List (Int × Nat)) (h : tellV was is = L) : Calls Try.prog 15 #[(.agg #[.int .i64 was.tab, .bool was.push, .int .i64 was.str, .int .i64 was.win, .int .i64 was.frm, .int .i64 was.lst]), (.agg #[.int .i64 is.tab, .bool is.push, .int .i64 is.str, .int .i64 is.win, .int .i64 is.frm, .int .i64 is.lst])] w fun e w' => ∃ A c, e = .returned (.slice A L.length c) ∧ St (fun _ => False) w w' [SLo w.heap.size 35 2 (.slice A L.length c) L.length (scells L)] := by
  subst h
  have S2 := Lib.hid (st2 w 23 23 [.int .i64 was.tab, .bool was.push, .int .i64 was.str, .int .i64 was.win, .int .i64 was.frm, .int .i64 was.lst] [.int .i64 is.tab, .bool is.push, .int .i64 is.str, .int .i64 is.win, .int .i64 is.frm, .int .i64 is.lst])
  go_enter Try.func15, Try.ntmps15
  go_wp2_with (first
    | (go_at_call 22; (with_reducible refine (nums_c was).mono ?_); rintro e w1 ⟨rfl, hb⟩
       have S3 := Lib.hid (St.next S2.out hb)
       obtain ⟨z0, z1, z2, z3, z4, z5⟩ := cells6 (St.blk1 S3.out)
       have S4 := Lib.hid (st_nilS (St.block S3.out 46 [.int .i64 0, .int .i64 was.tab, .int .i64 (pushN was.push), .int .i64 was.str, .int .i64 was.win, .int .i64 was.frm, .int .i64 was.lst]))
       have hl1 := (St.blk1 S3.out).lt
       clear hb)
    | (go_at_call 22; (with_reducible refine (nums_c is).mono ?_); rintro e w2 ⟨rfl, hb⟩
       have S5 := Lib.hid (St.next S4.out hb)
       clear hb z0 z1 z2 z3 z4 z5 hl1))
  obtain ⟨p3, hp3⟩ : ∃ p, w1.heap.size = p := ⟨_, rfl⟩
  rw [hp3] at S5 ⊢
  go_loopg [5, 13] 7 (fun gh l i w' => ∃ (k : Nat) (A : Option Addr) (c : Nat), gh + k = 7 ∧ i = .int .i64 (k : Int) ∧ l = .slice A (tellK was is k).length c ∧ St (fun _ => False) w w' [BLo w.heap.size 23 [.int .i64 was.tab, .bool was.push, .int .i64 was.str, .int .i64 was.win, .int .i64 was.frm, .int .i64 was.lst], BLo (w.heap.size + 1) 23 [.int .i64 is.tab, .bool is.push, .int .i64 is.str, .int .i64 is.win, .int .i64 is.frm, .int .i64 is.lst], BLo p3 46 [.int .i64 0, .int .i64 was.tab, .int .i64 (pushN was.push), .int .i64 was.str, .int .i64 was.win, .int .i64 was.frm, .int .i64 was.lst], SLo w.heap.size 35 2 (.slice A (tellK was is k).length c) (tellK was is k).length (scells (tellK was is k))])
  case atStart =>
    exact ⟨0, none, 0, by omega, rfl, rfl, St.floor3 S5.out (by have := S3.out.size; simp; omega)⟩
  case round =>
    obtain ⟨k, A1, c1, hk, rfl, rfl, hs⟩ := hrel
    cases gk with
    | succ g1 =>
      have hk7 : k < 7 := by omega
      obtain ⟨N, hN⟩ : ∃ N, num is k = N := ⟨_, rfl⟩
      obtain ⟨O, hO⟩ : ∃ O, num was k = O := ⟨_, rfl⟩
      have ix := idx7 is k hk7
      rw [hN] at ix
      have zc : wr.cell? ⟨p3, k, none⟩ = some (.int .i64 O) := by
        rw [(St.blk2 hs).cell k, num7 was k hk7, hO]
      have k1 : (k : Int) < 7 := by omega
      have hway := tell_step was is k N O hN hO
      have hlen := tellK_len was is k
      have HK := Lib.hid hk
      obtain ⟨L, hL⟩ : ∃ L, tellK was is k = L := ⟨_, rfl⟩
      obtain ⟨L2, hL2⟩ : ∃ L, tellK was is (k + 1) = L := ⟨_, rfl⟩
      rw [hL] at hs hway hlen ⊢
      rw [hL2] at hway
      have HL := Lib.hid hL
      have HL2 := Lib.hid hL2
      have HS := Lib.hid hs
      clear hs hL hL2 hN hO hk
      rcases hway with ⟨rfl, rfl⟩ | ⟨hne, hc, rfl⟩ | ⟨hne, hc, hn0, hn1, rfl⟩
      · go_wp2
        go_roundg g1
        case measure => omega
        case rel => exact ⟨k + 1, A1, c1, by have := HK.out; omega, by go_num, by rw [HL2.out], by rw [HL2.out]; exact HS.out⟩
      · have HC := Lib.hid hc
        have hne2 : (N != O) = true := by simpa using hne
        clear hc
        go_wp2_with (first
          | (go_at_call 23; (with_reducible refine (can_c N false HC.out).mono ?_); rintro e w3 ⟨rfl, hw⟩; rw [hw]; clear hw))
        go_roundg g1
        case measure => omega
        case rel => exact ⟨k + 1, A1, c1, by have := HK.out; omega, by go_num, by rw [HL2.out], by rw [HL2.out]; exact HS.out⟩
      · have HC := Lib.hid hc
        have hne2 : (N != O) = true := by simpa using hne
        obtain ⟨m, rfl⟩ : ∃ m : Nat, N = (m : Int) := ⟨N.toNat, by omega⟩
        rw [Int.toNat_natCast] at HL2
        have hwm : IntKind.u32.wrap (m : Int) = (m : Int) := by rw [IntKind.wrap_u32]; omega
        clear hc hne
        have HS1 := Lib.hid (HS.out.alloc (.cells #[.int .i64 (k : Int), .int .u32 (m : Int)] 35))
        have X4 := Lib.hid (rd_one_set (Blk.new wr 35 [.int .i64 (k : Int), .int .u32 (m : Int)]))
        have hs4 := Lib.hid HS1.out.size
        have hll : L.length ≤ 7 := by omega
        go_wp2_with (first
          | (go_at_call 23; (with_reducible refine (can_c _ true HC.out).mono ?_); rintro e w3 ⟨rfl, hw⟩; rw [hw]; clear hw)
          | (at_builtin
             refine wpList_append_rd rfl (.tmp 26) (.tmp 31) 24 rfl ES (.slice A1 L.length c1) L.length (scells L) rfl (St.own3 HS1.out) (some ⟨wr.heap.size, 0, none⟩) 1 1 (scells [((k : Int), m)]) rfl X4.out (scells_one _) (by omega) (by unfold maxLen; omega) hs4.out ?_
             intro A6 c6 w6 ho6 hf6 h26
             rw [← scells_append] at ho6
             have S6 := Lib.hid (St.appended3 HS1.out ho6 hf6 h26)
             clear ho6 hf6 h26))
        go_roundg g1
        case measure => omega
        case rel => exact ⟨k + 1, A6, c6, by have := HK.out; omega, by go_num, by rw [HL2.out, List.length_append]; rfl, by rw [HL2.out, List.length_append]; exact S6.out⟩
    | zero =>
      obtain rfl : k = 7 := by omega
      have HS := Lib.hid (St.drop0 (St.drop0 (St.drop0 hs)))
      clear hs
      go_wp2
      go_ret
      exact ⟨_, _, rfl, HS.out⟩
end
end Go.Proofs.Ythdikinpociiaaa
