/- The law BlockWhole: the walk. -/
import Derived.Test.YtnflegdoeomhcaaVw
import Derived.Deep.CutBlock
namespace Go.Proofs.Ytnflegdoeomhcaa
open Go.RowKit Go.Own Go.Frm
set_option linter.unusedVariables false
set_option linter.unusedSimpArgs false
set_option maxRecDepth 100000
theorem and_bd14 (z : Int) (m : Nat) (hm : m < 9223372036854775808) (M : Int) (hM : M = (m : Int)) : ∃ x : Nat, bits .and .i64 z M = (x : Int) ∧ x ≤ m := by
  subst hM
  have e : bits .and .i64 z (m : Int) = IntKind.i64.wrap ((BitVec.ofInt 64 z &&& BitVec.ofInt 64 (m : Int)).toNat : Int) := rfl
  have h := @Nat.and_le_right (BitVec.ofInt 64 z).toNat m
  rw [e, BitVec.toNat_and, IntKind.wrap_i64]
  have h2 : (BitVec.ofInt 64 (m : Int)).toNat = m := by simp; omega
  rw [h2]
  refine ⟨((BitVec.ofInt 64 z).toNat &&& m), ?_, h⟩
  omega
theorem int_at12 {W : World} {A : Option Addr} {n c k : Nat} (h : HoldsT Try.prog W 9 23 [.slice A n c]) (hk : k < n) : ∃ b o z, A = some ⟨b, o, none⟩ ∧ W.cell? ⟨b, o + k, none⟩ = some (.int .i64 z) := by
  obtain ⟨b, o, v, hA, hc, hv⟩ := HoldsT.at_ (d := 8) Try.underlying23 (by kernel_rfl) h hk
  obtain ⟨z, rfl, _⟩ := HoldsT.int (d := 7) Try.underlying3 hv
  exact ⟨b, o, z, hA, hc⟩
/-- what the first loop keeps -/
structure Cuts (w0 w : World) (p r : Nat) (xs : List UInt8) (k : Nat) (bs : List (List UInt8)) (vs : List Value) (Q : Option Addr) (cq : Nat) (zs : List UInt8) (R : Option Addr) (m cr : Nat) : Prop where
  st : St (fun _ => False) w0 w [AO p (.idle 1000), AO r (.idle 1000), SLo 0 22 1 (.slice Q k cq) k vs]
  pc : Pcs w0 k bs vs
  cat : bs.flatten ++ zs = xs
  rd : Rd w0 1 R m (zs.map BV)
  le : m ≤ cr ∧ cr ≤ 9223372036854775807
set_option maxHeartbeats 16000000 in
theorem lawWhole {w0 : World} {A : Option Addr} {n0 c : Nat} {xs0 : List UInt8} (hr0 : Rd w0 1 A n0 (xs0.map BV)) (hc : n0 ≤ c) (hc2 : c ≤ 140737488351232) {D : Option Addr} {m0 d : Nat} (h : HoldsT Try.prog w0 9 23 [.slice D m0 d]) (st : Int) (fin : Bool) (at_ : Int) :
    Calls Try.prog 3 #[.slice A n0 c, .slice D m0 d, .int .i64 st, .bool fin, .int .i64 at_] w0 fun e w' => e = .returned (.bool true) ∧ Below w0.heap.size w0 w' := by
  have hm : Hid (((1000 : Nat) : Int) = max 1000 0) := by unfold Hid; decide
  obtain ⟨n, hn⟩ : ∃ n, min n0 1000 = n := ⟨_, rfl⟩
  obtain ⟨xs, hxs⟩ : ∃ xs, xs0.take n = xs := ⟨_, rfl⟩
  have hr1 : Rd w0 1 A n (xs.map BV) := by
    have := hr0.take (k := n) (by omega)
    rw [Nat.mul_one, ← List.map_take, hxs] at this
    exact this
  have hxl : xs.length = n := by simpa using hr1.1
  have HXL := Lib.hid hxl
  have HR := Lib.hid hr1
  have HH := Lib.hid h
  have hmd : m0 ≤ d := (HoldsT.slice (d := 8) Try.underlying23 h).1
  obtain ⟨N, hN⟩ : ∃ N, min m0 32 = N := ⟨_, rfl⟩
  have hnc : n ≤ c := by omega
  have HNC : Hid (n ≤ c ∧ c ≤ 9223372036854775807 ∧ n ≤ 1000) := ⟨by omega, by omega, by omega⟩
  have ma1 : (if (1000 : Int) < (n0 : Int) then (1000 : Int) else (n0 : Int)) = (n : Int) := by split <;> omega
  have ma2 : (if (n0 : Int) ≤ (1000 : Int) then (n0 : Int) else (1000 : Int)) = (n : Int) := by split <;> omega
  have ma3 : (if (n0 : Int) < (1000 : Int) then (n0 : Int) else (1000 : Int)) = (n : Int) := by split <;> omega
  have ma4 : (if (1000 : Int) ≤ (n0 : Int) then (1000 : Int) else (n0 : Int)) = (n : Int) := by split <;> omega
  clear hr0 hr1 h hxs hxl
  go_enter Try.func3, Try.ntmps3
  go_upto_block 0 with (first
    | (go_at_call 8; (with_reducible refine (shown_c _).mono ?_); rintro e w1 ⟨rfl, hb1⟩
       have HB1 := Lib.hid hb1
       clear hb1)
    | (go_at_call 9; (with_reducible refine (new_c 1000 1000 hm.out).mono ?_); rintro e w2 ⟨p, rfl, t2⟩
       have t2' : St (fun _ => False) w0 w2 [AO p (.idle 1000)] := t2.before (Fr.of_below (S := fun _ => False) HB1.out (fun i h1 h2 => absurd h2 (by omega)))
       have T2 := Lib.hid t2'
       clear t2 t2' HB1)
    | (go_at_call 9; (with_reducible refine (new_c 1000 1000 hm.out).mono ?_); rintro e w3 ⟨r, rfl, t3⟩
       have t3' : St (fun _ => False) w0 w3 [AO p (.idle 1000), AO r (.idle 1000), SLo 0 22 1 (.slice none 0 0) 0 []] := (T2.out.add t3).add (st_nil12 w3 22)
       have T3 := Lib.hid t3'
       clear t3 t3' T2))
  go_cut [14, 15] (fun parts rest wx => ∃ (k : Nat) (bs : List (List UInt8)) (vs : List Value) (Q : Option Addr) (cq : Nat) (zs : List UInt8) (R : Option Addr) (m cr : Nat), k ≤ 32 ∧ parts = .slice Q k cq ∧ rest = .slice R m cr ∧ Hid (Cuts w0 wx p r xs k bs vs Q cq zs R m cr))
  case first =>
    as_aux_lemma =>
    go_wp2
    go_loopg [16, 14, 15] N (fun gh i parts rest wx => ∃ (k : Nat) (bs : List (List UInt8)) (vs : List Value) (Q : Option Addr) (cq : Nat) (zs : List UInt8) (R : Option Addr) (m cr : Nat), gh + k = N ∧ i = .int .i64 (k : Int) ∧ parts = .slice Q k cq ∧ rest = .slice R m cr ∧ Hid (Cuts w0 wx p r xs k bs vs Q cq zs R m cr))
    case atStart => exact ⟨0, [], [], none, 0, xs, A, n, c, by omega, rfl, rfl, rfl, ⟨T3.out, Pcs.nil _, rfl, HR.out, HNC.out.1, HNC.out.2.1⟩⟩
    case round =>
      obtain ⟨k, bs, vs, Q, cq, zs, R, m, cr, hgk, rfl, rfl, rfl, HC⟩ := hrel
      clear T3 hm
      cases gk with
      | zero =>
        obtain rfl : k = N := by omega
        have hend : ¬ k < m0 ∨ (k < m0 ∧ ¬ k < 32) := by omega
        have hk32 : k ≤ 32 := by omega
        have HK := Lib.hid hk32
        clear hN hgk hk32
        rcases hend with h1 | ⟨h1, h2⟩
        all_goals
          go_wp2
          go_meet
          exact ⟨k, bs, vs, Q, cq, zs, R, m, cr, HK.out, rfl, rfl, HC.out⟩
      | succ g1 =>
        have hkn : k < m0 := by omega
        have hk1 : (k : Int) < 32 := by omega
        have hk2 : (k : Int) < (m0 : Int) := by omega
        have e2 : IntKind.i64.wrap ((k : Int) + 1) = (k : Int) + 1 := by rw [IntKind.wrap_i64]; omega
        have HG : Hid (g1 + (k + 1) = N) := by unfold Hid; omega
        have HK : Hid (k ≤ 32) := by unfold Hid; omega
        obtain ⟨b, o, z, rfl, hcz⟩ := int_at12 HH.out hkn
        have c0 : wr.cell? ⟨b, o + k, none⟩ = some (.int .i64 z) := by
          rw [HC.out.st.below.cell (World.block_lt_of_cell? _ _ hcz)]; exact hcz
        have cl := World.block_lt_of_cell? _ _ c0
        obtain ⟨y, hy, hy63⟩ := and_bd14 z 63 (by decide) 63 rfl
        obtain ⟨q, hq⟩ : ∃ q, min m y = q := ⟨_, rfl⟩
        have hqm : q ≤ m := by omega
        have hle := HC.out.le
        have hqc : q ≤ cr := by omega
        have hqc2 : (q : Int) ≤ (cr : Int) := by omega
        have hmc : m ≤ cr := hle.1
        have hqm2 : (q : Int) ≤ (m : Int) := by omega
        have mq5 : (if y < m then (y : Int) else (m : Int)) = (q : Int) := by split <;> omega
        have mq6 : (if m ≤ y then (m : Int) else (y : Int)) = (q : Int) := by split <;> omega
        have mq7 : (if m < y then (m : Int) else (y : Int)) = (q : Int) := by split <;> omega
        have mq8 : (if y ≤ m then (y : Int) else (m : Int)) = (q : Int) := by split <;> omega
        have mq1 : (if (y : Int) < (m : Int) then (y : Int) else (m : Int)) = (q : Int) := by split <;> omega
        have mq2 : (if (m : Int) ≤ (y : Int) then (m : Int) else (y : Int)) = (q : Int) := by split <;> omega
        have mq3 : (if (m : Int) < (y : Int) then (m : Int) else (y : Int)) = (q : Int) := by split <;> omega
        have mq4 : (if (y : Int) ≤ (m : Int) then (y : Int) else (m : Int)) = (q : Int) := by split <;> omega
        have hr1 : Rd w0 1 R q ((zs.take q).map BV) := by
          have := HC.out.rd.take hqm
          rw [Nat.mul_one, ← List.map_take] at this
          exact this
        have hr2 : Rd w0 1 (if cr = q then R else R.map (·.add q)) (m - q) ((zs.drop q).map BV) := by
          have := HC.out.rd.drop hqm hmc
          rw [← List.map_drop, Nat.mul_one] at this
          exact this
        have HP : Hid (Pl w0 (.slice R q cr) (zs.take q)) := ⟨_, _, _, rfl, hr1, hqc, hle.2⟩
        have HR2 := Lib.hid hr2
        have HLE : Hid (m - q ≤ cr - q ∧ cr - q ≤ 9223372036854775807) := ⟨by omega, by omega⟩
        have TA := Lib.hid (HC.out.st.alloc (.cells #[.slice R q cr] 22))
        have hrd : Rd (wr.alloc (.cells #[.slice R q cr] 22)) 1 (some ⟨wr.heap.size, 0, none⟩) 1 [.slice R q cr] := by
          have := Rd.of_blk (n := 1) (size := 1) (Blk.new wr 22 [.slice R q cr]) (by simp)
          simpa using this
        have HRd := Lib.hid hrd
        clear hcz hr1 hr2 hle hq hrd hy63 hN hgk
        go_upto_region 14 with (first
          | (at_builtin
             refine wpList_append_rd rfl (.tmp 66) (.tmp 70) 27 rfl EBB12 (.slice Q k cq) k vs rfl (St.own2 TA.out) (some ⟨wr.heap.size, 0, none⟩) 1 1 [.slice R q cr] rfl HRd.out (by intro u hu; rw [List.mem_singleton.1 hu]; rfl) (by have := HK.out; omega) (by have := HK.out; unfold maxLen; omega) (Nat.zero_le _) ?_
             intro Q2 cq2 w4 ho hf h2
             have t4 := St.appended2 TA.out ho hf h2
             have T4 := Lib.hid t4
             clear ho hf h2 t4))
        clear TA HRd c0 cl
        go_wp2
        all_goals
          go_roundg g1
          case measure => omega
          case rel => exact ⟨k + 1, bs ++ [zs.take q], vs ++ [.slice R q cr], Q2, cq2, zs.drop q, (if cr = q then R else R.map (·.add q)), m - q, cr - q, HG.out, by go_num, rfl, by (first | rfl | (simp only [Value.slice.injEq]; refine ⟨?_, ?_, ?_⟩ <;> first | rfl | trivial | omega | (rw [if_pos (by assumption)]) | (rw [if_neg (by assumption)]))), ⟨T4.out, HC.out.pc.add HP.out, by rw [List.flatten_append, List.append_assoc]; simp [HC.out.cat], HR2.out, HLE.out⟩⟩
  case rest =>
    clear T3 hm
    have HR0 := HR
    clear HR
    obtain ⟨k, bs, vs, Q, cq, zs, R, m, cr, hk, rfl, rfl, HC⟩ := hcut
    have HP : Hid (Pl w0 (.slice R m cr) zs) := ⟨_, _, _, rfl, HC.out.rd, HC.out.le⟩
    have TA := Lib.hid (HC.out.st.alloc (.cells #[.slice R m cr] 22))
    have hrd : Rd (wc.alloc (.cells #[.slice R m cr] 22)) 1 (some ⟨wc.heap.size, 0, none⟩) 1 [.slice R m cr] := by
      have := Rd.of_blk (n := 1) (size := 1) (Blk.new wc 22 [.slice R m cr]) (by simp)
      simpa using this
    have HRd := Lib.hid hrd
    have HK := Lib.hid hk
    clear hrd hk
    go_upto_region 16 with (first
      | (at_builtin
         refine wpList_append_rd rfl (.tmp 75) (.tmp 77) 27 rfl EBB12 (.slice Q k cq) k vs rfl (St.own2 TA.out) (some ⟨wc.heap.size, 0, none⟩) 1 1 [.slice R m cr] rfl HRd.out (by intro u hu; rw [List.mem_singleton.1 hu]; rfl) (by have := HK.out; omega) (by have := HK.out; unfold maxLen; omega) (Nat.zero_le _) ?_
         intro Q2 cq2 w4 ho hf h2
         have t4 := St.appended2 TA.out ho hf h2
         have T4 := Lib.hid t4
         clear ho hf h2 t4))
    obtain ⟨np, hnp⟩ : ∃ np, k + 1 = np := ⟨_, rfl⟩
    obtain ⟨Bs, hBs⟩ : ∃ Bs, bs ++ [zs] = Bs := ⟨_, rfl⟩
    obtain ⟨Vs, hVs⟩ : ∃ Vs, vs ++ [.slice R m cr] = Vs := ⟨_, rfl⟩
    have hpc := HC.out.pc.add HP.out
    have hfl : Bs.flatten = xs := by rw [← hBs, List.flatten_append]; simp [HC.out.cat]
    rw [hnp, hBs, hVs] at hpc
    rw [hnp, hVs] at T4
    have PC := Lib.hid hpc
    have FL := Lib.hid hfl
    have NP : Hid (np ≤ 33 ∧ 0 < np) := by have := HK.out; unfold Hid; omega
    clear TA HRd HC HP hpc hfl hBs hVs HK
    rw [hnp]
    clear hnp
    have e1 : IntKind.i64.wrap ((np : Int) - 1) = (np : Int) - 1 := by have := NP.out; rw [IntKind.wrap_i64]; omega
    obtain ⟨y31, hy31, _⟩ := and_bd14 at_ 31 (by decide) 31 rfl
    have hff : (fin != fin) = false := by simp
    have hst : (st != st) = false := by simp
    have T5 : Hid (St (fun _ => False) w0 w4 (AO p (stp Bs st fin 0) :: AO r (stp Bs st fin 0) :: SLo 0 22 1 (.slice Q2 np cq2) np Vs :: [])) := T4.out
    clear T4
    go_wp2
    go_loopg [18] np (fun gh i wx => ∃ (k : Nat) (a c' : Asm) (M : List Ob), gh + k = np ∧ i = .int .i64 (k : Int) ∧ Hid (k < np → a = stp Bs st fin k ∧ c' = stp Bs st fin k) ∧ Hid (St (fun _ => False) w0 wx (AO p a :: AO r c' :: SLo 0 22 1 (.slice Q2 np cq2) np Vs :: M)))
    case atStart => exact ⟨0, _, _, [], by omega, rfl, fun _ => ⟨rfl, rfl⟩, T5.out⟩
    case round =>
      obtain ⟨k, a, c', M, hgk, rfl, HA, HS⟩ := hrel
      clear T5
      cases gk with
      | zero =>
        obtain rfl : k = np := by omega
        go_wp2
        go_ret
        exact ⟨rfl, HS.out.below⟩
      | succ g1 =>
        have hknp : k < np := by omega
        obtain ⟨rfl, rfl⟩ := HA.out hknp
        have hk2 : (k : Int) < (np : Int) := by omega
        have e2 : IntKind.i64.wrap ((k : Int) + 1) = (k : Int) + 1 := by have := NP.out; rw [IntKind.wrap_i64]; omega
        have HG : Hid (g1 + (k + 1) = np) := by unfold Hid; omega
        obtain ⟨b, o, u, rfl, hu, c0⟩ := (Rd.of_own (St.own2 HS.out)).at_ hknp
        obtain ⟨ys, hys⟩ : ∃ ys, Bs[k]? = some ys := ⟨_, List.getElem?_eq_getElem (by rw [PC.out.bl]; exact hknp)⟩
        obtain ⟨B, n2, c2, rfl, hrB, hn2, hc2'⟩ := PC.out.at_ k u ys hu hys
        have HRB := Lib.hid hrB
        have HY := Lib.hid hys
        have cl := World.block_lt_of_cell? _ _ c0
        obtain ⟨eh, hz⟩ : ∃ eh, ((k : Int) == (np : Int) - 1) = eh := ⟨_, rfl⟩
        have hown := (St.own2 HS.out)
        have hcap : np ≤ cq2 := by
          obtain ⟨A', c'', he, h1, _⟩ := own_shape hown
          simp only [Value.slice.injEq] at he
          obtain ⟨_, _, rfl⟩ := he
          exact h1
        clear hu hrB hys hgk HA hown
        go_upto_if 97 with (fail)
        go_cut [18] (fun v wx => v = .int .i64 (k : Int) ∧ ∃ (kd : Int) (fn : Bool) (q : Nat), ((k = 0 ∧ kd = 1 ∧ fn = fin) ∨ (0 < k ∧ kd = 9 ∧ fn = false)) ∧ q = wr.heap.size ∧ Hid (St (fun _ => False) w0 wx ((AO p (stp Bs st fin k) :: AO r (stp Bs st fin k) :: SLo 0 22 1 (.slice (some ⟨b, o, none⟩) np cq2) np Vs :: M) ++ [BLo q 32 [.int .i64 kd, .int .i64 st, .bool fn, .bool eh, .bool false, .bool false, .slice B n2 c2, .int .i64 0, .int .i64 0, .int .i64 0, .bool false, .int .i64 0, .int .u32 0, .slice none 0 0, .int .i64 0, .int .i64 0]])))
        case first =>
          rcases Nat.eq_zero_or_pos k with h0 | h0
          · subst h0
            as_aux_lemma =>
            go_wp2
            go_meet
            exact ⟨by first | rfl | trivial, 1, fin, _, by simp, rfl, HS.out.block 32 _⟩
          · have hk0 : ((k : Int) == 0) = false := by rw [beq_eq_false_iff_ne]; omega
            have hk00 : ¬ ((k : Int) = 0) := by omega
            as_aux_lemma =>
            go_wp2
            go_meet
            exact ⟨rfl, 9, false, _, .inr ⟨h0, rfl, rfl⟩, rfl, HS.out.block 32 _⟩
        case rest =>
          obtain ⟨rfl, kd, fn, q, hkd, hq, HT⟩ := hcut
          have HKD := Lib.hid hkd
          rw [← hq]
          obtain ⟨L, hL⟩ : ∃ L, SLo 0 22 1 (.slice (some ⟨b, o, none⟩) np cq2) np Vs :: (M ++ [BLo q 32 [.int .i64 kd, .int .i64 st, .bool fn, .bool eh, .bool false, .bool false, .slice B n2 c2, .int .i64 0, .int .i64 0, .int .i64 0, .bool false, .int .i64 0, .int .u32 0, .slice none 0 0, .int .i64 0, .int .i64 0]]) = L := ⟨_, rfl⟩
          have HL := Lib.hid hL
          have HQ : Hid (∀ (w' : World) (X Y : Ob), St (fun _ => False) w0 w' (X :: Y :: L) → Blk w' q 32 [.int .i64 kd, .int .i64 st, .bool fn, .bool eh, .bool false, .bool false, .slice B n2 c2, .int .i64 0, .int .i64 0, .int .i64 0, .bool false, .int .i64 0, .int .u32 0, .slice none 0 0, .int .i64 0, .int .i64 0]) := fun w' X Y s => by
            rw [← hL] at s
            exact St.blk (X :: Y :: SLo 0 22 1 (.slice (some ⟨b, o, none⟩) np cq2) np Vs :: M) [] s
          have t6 : St (fun _ => False) w0 wc (AO p (stp Bs st fin k) :: AO r (stp Bs st fin k) :: L) := by rw [← hL]; exact HT.out
          have T6 := Lib.hid t6
          have hb := HQ.out _ _ _ t6
          obtain ⟨x0, x1, x2, x3, x4, x5, x6, x7, x8, x9, x10, x11, x12, x13, x14, x15⟩ := cells16v hb
          have xl := hb.lt
          clear hkd HT hL t6 hb HS c0 cl hcap hq
          cases eh with
          | false =>
            have hk1 : k + 1 < np := by
              have h1 : ¬ ((k : Int) = (np : Int) - 1) := by
                have := beq_eq_false_iff_ne.1 hz
                exact this
              omega
            have HK1 := Lib.hid hk1
            have HTot : Hid (Bs.flatten.length ≤ 1000) := by
              have h1 := FL.out
              have h2 := HXL.out
              have h3 := HNC.out
              unfold Hid
              rw [h1, h2]
              exact h3.2.2
            clear hz hk1
            go_upto_region 24 with (first
              | (go_at_call 10; (with_reducible refine (w_no T6.out HRB.out HY.out HK1.out NP.out.1 HTot.out HKD.out).mono ?_); rintro e w7 ⟨rfl, t7⟩
                 have T7 := Lib.hid t7
                 clear t7))
            have t8 := (T7.out.alloc (.cells #[.int .i64 0, .int .i64 0, .bool false, .bool false, .bool false, .bool false, .slice none 0 0, .int .i64 0, .int .i64 0, .int .i64 0, .bool false, .int .i64 0, .int .u32 0, .slice none 0 0, .int .i64 0, .int .i64 0] 32)).alloc (.cells #[.bool false, .int .u32 0, .int .i64 0] 34)
            have ht1 := (HQ.out _ _ _ T7.out)
            have ht2 := ht1.lt
            have T8 := Lib.hid (St.perm2 t8)
            clear x0 x1 x2 x3 x4 x5 x6 x7 x8 x9 x10 x11 x12 x13 x14 x15 xl t8
            obtain ⟨x0, x1, x2, x3, x4, x5, x6, x7, x8, x9, x10, x11, x12, x13, x14, x15⟩ := cells16v ht1
            clear T6 ht1
            obtain ⟨z, hz⟩ : ∃ z, ((k : Int) == (y31 : Int)) = z := ⟨_, rfl⟩
            cases z with
            | false =>
              as_aux_lemma =>
              go_wp2_with (first
                | (go_at_call 10; (with_reducible refine (w_no T8.out HRB.out HY.out HK1.out NP.out.1 HTot.out HKD.out).mono ?_); rintro e w9 ⟨rfl, t9⟩
                   have T9 := Lib.hid (St.perm2 t9)
                   clear t9 x0 x1 x2 x3 x4 x5 x6 x7 x8 x9 x10 x11 x12 x13 x14 x15))
              go_roundg g1
              case measure => omega
              case rel => exact ⟨k + 1, _, _, M ++ [BLo q 32 [.int .i64 kd, .int .i64 st, .bool fn, .bool false, .bool false, .bool false, .slice B n2 c2, .int .i64 0, .int .i64 0, .int .i64 0, .bool false, .int .i64 0, .int .u32 0, .slice none 0 0, .int .i64 0, .int .i64 0]], HG.out, by go_num, fun _ => ⟨rfl, rfl⟩, by have h := T9.out; rw [← HL.out] at h; exact h⟩
            | true =>
              as_aux_lemma =>
              go_upto_region 28 with (first
                | (go_at_call 10; (with_reducible refine (w_no T8.out HRB.out HY.out HK1.out NP.out.1 HTot.out HKD.out).mono ?_); rintro e w9 ⟨rfl, t9⟩
                   have T9 := Lib.hid t9
                   clear t9 x0 x1 x2 x3 x4 x5 x6 x7 x8 x9 x10 x11 x12 x13 x14 x15 ht2))
              go_upto_region 29 with (first
                | (go_at_call 10; (with_reducible refine (w_kind T9.out HK1.out NP.out.1 HTot.out 0 st false (by decide)).mono ?_); rintro e w10 ⟨rfl, t10⟩
                   have T10 := Lib.hid t10
                   clear t10))
              obtain ⟨q3, hq3⟩ : ∃ q, w10.heap.size = q := ⟨_, rfl⟩
              obtain ⟨W11, hW11⟩ : ∃ W11, (w10.alloc (.cells #[.int .i64 0, .int .i64 0, .bool false, .bool false, .bool false, .bool false, .slice none 0 0, .int .i64 0, .int .i64 0, .int .i64 0, .bool false, .int .i64 0, .int .u32 0, .slice none 0 0, .int .i64 0, .int .i64 0] 32)).alloc (.cells #[.bool true, .int .u32 1, .int .i64 0] 34) = W11 := ⟨_, rfl⟩
              have t11 := two_gen T10.out [.int .i64 0, .int .i64 0, .bool false, .bool false, .bool false, .bool false, .slice none 0 0, .int .i64 0, .int .i64 0, .int .i64 0, .bool false, .int .i64 0, .int .u32 0, .slice none 0 0, .int .i64 0, .int .i64 0] [.bool true, .int .u32 1, .int .i64 0] W11 hW11
              rw [hq3] at t11
              rw [hW11, hq3]
              have T11 : Hid (St (fun _ => False) w0 W11 (AO r (.broken 1) :: ((AO p (stp Bs st fin (k + 1)) :: L) ++ [BLo q3 32 [.int .i64 0, .int .i64 0, .bool false, .bool false, .bool false, .bool false, .slice none 0 0, .int .i64 0, .int .i64 0, .int .i64 0, .bool false, .int .i64 0, .int .u32 0, .slice none 0 0, .int .i64 0, .int .i64 0], BLo (q3 + 1) 34 [.bool true, .int .u32 1, .int .i64 0]]))) := t11
              have HF : Hid (∀ w', St (fun _ => False) w0 w' (AO r (.broken 1) :: ((AO p (stp Bs st fin (k + 1)) :: L) ++ [BLo q3 32 [.int .i64 0, .int .i64 0, .bool false, .bool false, .bool false, .bool false, .slice none 0 0, .int .i64 0, .int .i64 0, .int .i64 0, .bool false, .int .i64 0, .int .u32 0, .slice none 0 0, .int .i64 0, .int .i64 0], BLo (q3 + 1) 34 [.bool true, .int .u32 1, .int .i64 0]])) → Blk w' (q3 + 1) 34 [.bool true, .int .u32 1, .int .i64 0]) := fun w' s => by
                exact St.blk ((AO r (.broken 1) :: (AO p (stp Bs st fin (k + 1)) :: L)) ++ [BLo q3 32 [.int .i64 0, .int .i64 0, .bool false, .bool false, .bool false, .bool false, .slice none 0 0, .int .i64 0, .int .i64 0, .int .i64 0, .bool false, .int .i64 0, .int .u32 0, .slice none 0 0, .int .i64 0, .int .i64 0]]) [] (by rw [List.append_assoc]; exact s)
              have qe := flt_eql12
              clear t11 hW11 hq3 T9 T10
              go_upto_region 30 with (first
                | (go_at_call 10; (with_reducible refine (s_broken (co := 1) (ys := []) (n := 0) T11.out List.length_nil 6 0 false false).mono ?_); rintro e w12 ⟨rfl, t12⟩
                   have T12 := Lib.hid t12
                   clear t12))
              obtain ⟨q4, hq4⟩ : ∃ q, w12.heap.size = q := ⟨_, rfl⟩
              obtain ⟨W13, hW13⟩ : ∃ W13, (w12.alloc (.cells #[.int .i64 0, .int .i64 0, .bool false, .bool false, .bool false, .bool false, .slice none 0 0, .int .i64 0, .int .i64 0, .int .i64 0, .bool false, .int .i64 0, .int .u32 0, .slice none 0 0, .int .i64 0, .int .i64 0] 32)).alloc (.cells #[.bool true, .int .u32 1, .int .i64 0] 34) = W13 := ⟨_, rfl⟩
              have s13 := two_new w12 [.int .i64 0, .int .i64 0, .bool false, .bool false, .bool false, .bool false, .slice none 0 0, .int .i64 0, .int .i64 0, .int .i64 0, .bool false, .int .i64 0, .int .u32 0, .slice none 0 0, .int .i64 0, .int .i64 0] [.bool true, .int .u32 1, .int .i64 0]
              have hg := St.blk1 s13
              have hb13 := s13.below
              have hf := (HF.out _ T12.out).below hb13 (HF.out _ T12.out).lt
              have hend := T12.out.below.trans (hb13.mono T12.out.size)
              simp only [hq4] at hg
              have hW13' : (w12.alloc (.cells ([.int .i64 0, .int .i64 0, .bool false, .bool false, .bool false, .bool false, .slice none 0 0, .int .i64 0, .int .i64 0, .int .i64 0, .bool false, .int .i64 0, .int .u32 0, .slice none 0 0, .int .i64 0, .int .i64 0] : List Value).toArray 32)).alloc (.cells ([.bool true, .int .u32 1, .int .i64 0] : List Value).toArray 34) = W13 := hW13
              rw [hW13'] at hf hend hg
              rw [hW13, hq4]
              obtain ⟨y0, y1, y2⟩ := cells3v hf
              have yl := hf.lt
              obtain ⟨v0, v1, v2⟩ := cells3v hg
              have vl := hg.lt
              have HEnd := Lib.hid hend
              clear hW13' hW13 hend hf hg hb13 s13 hq4 T12 HF T11
              go_wp2
              go_ret
              exact ⟨rfl, HEnd.out⟩
          | true =>
            have hk1 : k + 1 = np := by
              have := eq_of_beq hz
              omega
            have HK1 : Hid (k + 1 = Bs.length) := by have := PC.out.bl; unfold Hid; omega
            have HB33 : Hid (Bs.length ≤ 33) := by have := PC.out.bl; have := NP.out.1; unfold Hid; omega
            have HTot : Hid (xs.length ≤ 1000) := by have h2 := HXL.out; have h3 := HNC.out; unfold Hid; omega
            clear hz hk1
            go_upto_region 24 with (first
              | (go_at_call 10; (with_reducible refine (w_yes T6.out HRB.out HY.out HK1.out HB33.out xs FL.out HTot.out HKD.out).mono ?_); rintro e w7 ⟨A1, n1, c1, B1, nl1, d1, rfl, hn1, t7⟩
                 have T7 := Lib.hid t7
                 clear t7 hn1))
            obtain ⟨q3, hq3⟩ : ∃ q, w7.heap.size = q := ⟨_, rfl⟩
            obtain ⟨W8, hW8⟩ : ∃ W8, (w7.alloc (.cells #[.int .i64 1, .int .i64 st, .bool fin, .bool true, .bool false, .bool false, .slice A1 n1 c1, .int .i64 0, .int .i64 0, .int .i64 0, .bool false, .int .i64 0, .int .u32 0, .slice B1 nl1 d1, .int .i64 0, .int .i64 0] 32)).alloc (.cells #[.bool false, .int .u32 0, .int .i64 0] 34) = W8 := ⟨_, rfl⟩
            have t8 := two_gen T7.out [.int .i64 1, .int .i64 st, .bool fin, .bool true, .bool false, .bool false, .slice A1 n1 c1, .int .i64 0, .int .i64 0, .int .i64 0, .bool false, .int .i64 0, .int .u32 0, .slice B1 nl1 d1, .int .i64 0, .int .i64 0] [.bool false, .int .u32 0, .int .i64 0] W8 hW8
            rw [hq3] at t8
            rw [hW8, hq3]
            have T8 : Hid (St (fun _ => False) w0 W8 ((AO p (.idle 1000) :: SLo 0 5 1 (.slice A1 n1 c1) n1 (xs.map BV) :: AO r (stp Bs st fin k) :: L) ++ [BLo q3 32 [.int .i64 1, .int .i64 st, .bool fin, .bool true, .bool false, .bool false, .slice A1 n1 c1, .int .i64 0, .int .i64 0, .int .i64 0, .bool false, .int .i64 0, .int .u32 0, .slice B1 nl1 d1, .int .i64 0, .int .i64 0], BLo (q3 + 1) 34 [.bool false, .int .u32 0, .int .i64 0]])) := t8
            have hcv := run_conv_bytes (c := c1) (src := 22) (dst := 9) Try.underlying22 Try.underlying5 Try.underlying9 (Rd.of_own (St.own [AO p (.idle 1000)] (AO r (stp Bs st fin k) :: (L ++ [BLo q3 32 [.int .i64 1, .int .i64 st, .bool fin, .bool true, .bool false, .bool false, .slice A1 n1 c1, .int .i64 0, .int .i64 0, .int .i64 0, .bool false, .int .i64 0, .int .u32 0, .slice B1 nl1 d1, .int .i64 0, .int .i64 0], BLo (q3 + 1) 34 [.bool false, .int .u32 0, .int .i64 0]])) T8.out))
            have hcv2 := run_conv_bytes (c := c) (src := 22) (dst := 9) Try.underlying22 Try.underlying5 Try.underlying9 (T8.out.rd HR0.out (fun _ _ h => h))
            have hb1 := St.blk (AO p (.idle 1000) :: SLo 0 5 1 (.slice A1 n1 c1) n1 (xs.map BV) :: AO r (stp Bs st fin k) :: L) _ T8.out
            have hb2 := St.blk ((AO p (.idle 1000) :: SLo 0 5 1 (.slice A1 n1 c1) n1 (xs.map BV) :: AO r (stp Bs st fin k) :: L) ++ [BLo q3 32 [.int .i64 1, .int .i64 st, .bool fin, .bool true, .bool false, .bool false, .slice A1 n1 c1, .int .i64 0, .int .i64 0, .int .i64 0, .bool false, .int .i64 0, .int .u32 0, .slice B1 nl1 d1, .int .i64 0, .int .i64 0]]) [] (by rw [List.append_assoc]; exact T8.out)
            have t9 : St (fun _ => False) w0 W8 (AO p (.idle 1000) :: AO r (stp Bs st fin k) :: L) := by
              have h1 := St.drop (AO p (.idle 1000) :: SLo 0 5 1 (.slice A1 n1 c1) n1 (xs.map BV) :: AO r (stp Bs st fin k) :: L) _ _ T8.out
              have h2 := St.drop (AO p (.idle 1000) :: SLo 0 5 1 (.slice A1 n1 c1) n1 (xs.map BV) :: AO r (stp Bs st fin k) :: L) _ [] h1
              rw [List.append_nil] at h2
              exact St.drop1 h2
            have T9 := Lib.hid (St.perm2 t9)
            have hb := HQ.out _ _ _ t9
            clear x0 x1 x2 x3 x4 x5 x6 x7 x8 x9 x10 x11 x12 x13 x14 x15 xl T6 T7 t8 T8 t9 hq3 hW8
            obtain ⟨x0, x1, x2, x3, x4, x5, x6, x7, x8, x9, x10, x11, x12, x13, x14, x15⟩ := cells16v hb
            have xl := hb.lt
            obtain ⟨v0, v1, v2, v3, _, _, v6, _⟩ := cells16v hb1
            have vl := hb1.lt
            obtain ⟨y0, y1, y2⟩ := cells3v hb2
            have yl := hb2.lt
            clear hb hb1 hb2 y1 y2
            obtain ⟨z, hz⟩ : ∃ z, ((k : Int) == (y31 : Int)) = z := ⟨_, rfl⟩
            cases z
            all_goals
              as_aux_lemma =>
              go_wp2_with (first
                | (go_at_call 10; (with_reducible refine (w_yes T9.out HRB.out HY.out HK1.out HB33.out xs FL.out HTot.out HKD.out).mono ?_); rintro e w9 ⟨A2, n3, c3, B2, nl2, d2, rfl, hn3, t9⟩
                   have T10 := Lib.hid (St.perm2 (St.drop1 t9))
                   clear t9 hn3 x0 x1 x2 x3 x4 x5 x6 x7 x8 x9 x10 x11 x12 x13 x14 x15 v0 v1 v2 v3 v6))
              go_roundg g1
              case measure => omega
              case rel => exact ⟨k + 1, _, _, M ++ [BLo q 32 [.int .i64 kd, .int .i64 st, .bool fn, .bool true, .bool false, .bool false, .slice B n2 c2, .int .i64 0, .int .i64 0, .int .i64 0, .bool false, .int .i64 0, .int .u32 0, .slice none 0 0, .int .i64 0, .int .i64 0]], HG.out, by go_num, fun h => absurd h (by have := HK1.out; have := PC.out.bl; omega), by have h := T10.out; rw [← HL.out] at h; exact h⟩
theorem lawWholeH {w : World} {A : Option Addr} {n0 c : Nat} {xs0 : List UInt8} (hr0 : Rd w 1 A n0 (xs0.map BV)) (hc : n0 ≤ c) (hc2 : c ≤ 140737488351232) {D : Option Addr} {m0 d : Nat} (h : HoldsT Try.prog w 9 23 [.slice D m0 d]) (st : Int) (fin : Bool) (at_ : Int) :
    Calls Try.prog 3 #[.slice A n0 c, .slice D m0 d, .int .i64 st, .bool fin, .int .i64 at_] w fun e w' => e = .returned (.bool true) ∧ Below w.heap.size w w' := lawWhole hr0 hc hc2 h st fin at_
end Go.Proofs.Ytnflegdoeomhcaa
