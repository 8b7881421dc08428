/- Stage 8: Tell, the document's. -/
import Derived.Test.YthdikinpociiaaaSeH
namespace Go.Proofs.Ythdikinpociiaaa
open Go.RowKit Go.Own Go.Set8
set_option linter.unusedVariables false
set_option maxRecDepth 100000
theorem now6 (v : Va) (k : Nat) (hk : k < 6) : [Value.int .i64 v.tab, .int .i64 (pushN v.push), .int .i64 v.str, .int .i64 v.win, .int .i64 v.frm, .int .i64 v.lst][k]? = some (.int .i64 (num v (k + 1))) := by
  match k, hk with
  | 0, _ => rfl
  | 1, _ => rfl
  | 2, _ => rfl
  | 3, _ => rfl
  | 4, _ => rfl
  | 5, _ => rfl
theorem push_ne (a b : Bool) : (a != b) = (pushN a != pushN b) := by cases a <;> cases b <;> rfl
theorem oth6 (a b : Va) (k : Nat) (hk : k < 6) : [Value.bool (a.tab != b.tab), .bool (a.push != b.push), .bool (a.str != b.str), .bool (a.win != b.win), .bool (a.frm != b.frm), .bool (a.lst != b.lst)][k]? = some (.bool (num a (k + 1) != num b (k + 1))) := by
  match k, hk with
  | 0, _ => rfl
  | 1, _ => show some (Value.bool (a.push != b.push)) = _; rw [push_ne]; rfl
  | 2, _ => rfl
  | 3, _ => rfl
  | 4, _ => rfl
  | 5, _ => rfl
section
variable {w : World}
set_option maxHeartbeats 4000000 in
theorem rtell_c (was is : Va) (L : List (Int × Nat)) (h : tellV was is = L) : Calls Try.prog 16 #[(.agg #[.int .i64 was.tab, .bool was.push, .int .i64 was.str, .int .i64 was.win, .int .i64 was.frm, .int .i64 was.lst]), (.agg #[.int .i64 is.tab, .bool is.push, .int .i64 is.str, .int .i64 is.win, .int .i64 is.frm, .int .i64 is.lst])] w fun e w' => ∃ A c, e = .returned (.slice A L.length c) ∧ St (fun _ => False) w w' [SLo w.heap.size 35 2 (.slice A L.length c) L.length (scells L)] := by
  subst h
  have S2 := Lib.hid (st2 w 23 23 [.int .i64 was.tab, .bool was.push, .int .i64 was.str, .int .i64 was.win, .int .i64 was.frm, .int .i64 was.lst] [.int .i64 is.tab, .bool is.push, .int .i64 is.str, .int .i64 is.win, .int .i64 is.frm, .int .i64 is.lst])
  go_enter Try.func16, Try.ntmps16
  go_upto_if 11 with (fail)
  go_cut [5] (fun s wx => s = .int .i64 (pushN is.push) ∧ wx = ((w.alloc (.cells #[.int .i64 was.tab, .bool was.push, .int .i64 was.str, .int .i64 was.win, .int .i64 was.frm, .int .i64 was.lst] 23)).alloc (.cells #[.int .i64 is.tab, .bool is.push, .int .i64 is.str, .int .i64 is.win, .int .i64 is.frm, .int .i64 is.lst] 23)))
  case first =>
    obtain ⟨it, ip, ist, iw, ifr, il⟩ := is
    cases ip
    all_goals
      go_wp2
      go_meet
      case rel => exact ⟨rfl, rfl⟩
  case rest =>
    obtain ⟨rfl, hw⟩ := hcut
    rw [← hw] at S2
    clear hw
    obtain ⟨z0, z1, z2, z3, z4, z5⟩ := cells6 (St.blk0 S2.out)
    obtain ⟨y0, y1, y2, y3, y4, y5⟩ := cells6 (St.blk1 S2.out)
    have S4 := Lib.hid (st_nilS (st_block2 S2.out 3 4 [.int .i64 is.tab, .int .i64 (pushN is.push), .int .i64 is.str, .int .i64 is.win, .int .i64 is.frm, .int .i64 is.lst] [.bool (was.tab != is.tab), .bool (was.push != is.push), .bool (was.str != is.str), .bool (was.win != is.win), .bool (was.frm != is.frm), .bool (was.lst != is.lst)]))
    have hl0 := (St.blk0 S2.out).lt
    have hl1 := (St.blk1 S2.out).lt
    go_wp2
    have hsz := S2.out.size
    go_loopg [8, 9] 6 (fun gh l i w' => ∃ (k : Nat) (A : Option Addr) (c : Nat), gh + k = 6 ∧ i = .int .i64 (k : Int) ∧ l = .slice A (tellK was is (k + 1)).length c ∧ St (fun _ => False) w w' [BLo w.heap.size 23 [.int .i64 was.tab, .bool was.push, .int .i64 was.str, .int .i64 was.win, .int .i64 was.frm, .int .i64 was.lst], BLo (w.heap.size + 1) 23 [.int .i64 is.tab, .bool is.push, .int .i64 is.str, .int .i64 is.win, .int .i64 is.frm, .int .i64 is.lst], BLo wc.heap.size 3 [.int .i64 is.tab, .int .i64 (pushN is.push), .int .i64 is.str, .int .i64 is.win, .int .i64 is.frm, .int .i64 is.lst], BLo (wc.heap.size + 1) 4 [.bool (was.tab != is.tab), .bool (was.push != is.push), .bool (was.str != is.str), .bool (was.win != is.win), .bool (was.frm != is.frm), .bool (was.lst != is.lst)], SLo w.heap.size 35 2 (.slice A (tellK was is (k + 1)).length c) (tellK was is (k + 1)).length (scells (tellK was is (k + 1)))])
    case atStart =>
      refine ⟨0, none, 0, by omega, rfl, by rw [tellK_one]; rfl, ?_⟩
      rw [tellK_one]
      exact St.floor4 S4.out (by simp; omega)
    case round =>
      obtain ⟨k, A1, c1, hk, rfl, rfl, hs⟩ := hrel
      cases gk with
      | succ g1 =>
        have hk6 : k < 6 := by omega
        obtain ⟨N, hN⟩ : ∃ N, num is (k + 1) = N := ⟨_, rfl⟩
        obtain ⟨O, hO⟩ : ∃ O, num was (k + 1) = O := ⟨_, rfl⟩
        have zc : wr.cell? ⟨wc.heap.size, k, none⟩ = some (.int .i64 N) := by
          rw [(St.blk2 hs).cell k, now6 is k hk6, hN]
        have zo : wr.cell? ⟨wc.heap.size + 1, k, none⟩ = some (.bool (O != N)) := by
          rw [(St.blk3 hs).cell k, oth6 was is k hk6, hN, hO]
        have k1 : (k : Int) < 6 := by omega
        have hway := tell_step was is (k + 1) N O hN hO
        have hlen := tellK_len was is (k + 1)
        have HK := Lib.hid hk
        obtain ⟨L, hL⟩ : ∃ L, tellK was is (k + 1) = L := ⟨_, rfl⟩
        obtain ⟨L2, hL2⟩ : ∃ L, tellK was is (k + 1 + 1) = L := ⟨_, rfl⟩
        rw [hL] at hs hway hlen ⊢
        rw [hL2] at hway
        have HL := Lib.hid hL
        have HL2 := Lib.hid hL2
        have HS := Lib.hid hs
        have hcan : can N = decide (0 ≤ N ∧ N ≤ 4294967295) := rfl
        clear hs hL hL2 hN hO hk
        rcases hway with ⟨rfl, rfl⟩ | ⟨hne, hc, rfl⟩ | ⟨hne, hc, hn0, hn1, rfl⟩
        · clear hcan
          have hne2 : (N != N) = false := by simp
          go_wp2
          go_roundg g1
          case measure => omega
          case rel => exact ⟨k + 1, A1, c1, by have := HK.out; omega, by go_num, by rw [HL2.out], by rw [HL2.out]; exact HS.out⟩
        · rw [hc] at hcan
          have hne2 : (O != N) = true := by simpa using Ne.symm hne
          have hcan2 : ¬ (0 ≤ N ∧ N ≤ 4294967295) := by intro h; rw [decide_eq_true h] at hcan; cases hcan
          clear hcan hc
          by_cases h0 : N < 0
          · have h1 : ¬ 0 ≤ N := by omega
            clear hcan2
            go_wp2
            go_roundg g1
            case measure => omega
            case rel => exact ⟨k + 1, A1, c1, by have := HK.out; omega, by go_num, by rw [HL2.out], by rw [HL2.out]; exact HS.out⟩
          · have h1 : 0 ≤ N := by omega
            have h2 : ¬ N ≤ 4294967295 := by omega
            clear hcan2
            go_wp2
            go_roundg g1
            case measure => omega
            case rel => exact ⟨k + 1, A1, c1, by have := HK.out; omega, by go_num, by rw [HL2.out], by rw [HL2.out]; exact HS.out⟩
        · have hne2 : (O != N) = true := by simpa using Ne.symm hne
          obtain ⟨m, rfl⟩ : ∃ m : Nat, N = (m : Int) := ⟨N.toNat, by omega⟩
          rw [Int.toNat_natCast] at HL2
          have hwm : IntKind.u32.wrap (m : Int) = (m : Int) := by rw [IntKind.wrap_u32]; omega
          have hwk : IntKind.i64.wrap ((k : Int) + 1) = ((k + 1 : Nat) : Int) := by rw [IntKind.wrap_i64]; omega
          have hmn : m ≤ 4294967295 := by omega
          clear hc hne hcan
          have HS1 := Lib.hid (HS.out.alloc (.cells #[.int .i64 ((k + 1 : Nat) : Int), .int .u32 (m : Int)] 35))
          have X4 := Lib.hid (rd_one_set (Blk.new wr 35 [.int .i64 ((k + 1 : Nat) : Int), .int .u32 (m : Int)]))
          have hs4 := Lib.hid HS1.out.size
          have hll : L.length ≤ 7 := by omega
          go_wp2_with (first
            | (at_builtin
               refine wpList_append_rd rfl (.tmp 79) (.tmp 88) 24 rfl ES (.slice A1 L.length c1) L.length (scells L) rfl (St.own4 HS1.out) (some ⟨wr.heap.size, 0, none⟩) 1 1 (scells [(((k + 1 : Nat) : Int), m)]) rfl X4.out (scells_one _) (by omega) (by unfold maxLen; omega) hs4.out ?_
               intro A6 c6 w6 ho6 hf6 h26
               rw [← scells_append] at ho6
               have S6 := Lib.hid (St.appended4 HS1.out ho6 hf6 h26)
               clear ho6 hf6 h26))
          go_roundg g1
          case measure => omega
          case rel => exact ⟨k + 1, A6, c6, by have := HK.out; omega, by go_num, by rw [HL2.out, List.length_append]; rfl, by rw [HL2.out, List.length_append]; exact S6.out⟩
      | zero =>
        obtain rfl : k = 6 := by omega
        have HS := Lib.hid (St.drop0 (St.drop0 (St.drop0 (St.drop0 hs))))
        clear hs
        go_wp2
        go_ret
        exact ⟨_, _, rfl, HS.out⟩
end
end Go.Proofs.Ythdikinpociiaaa
