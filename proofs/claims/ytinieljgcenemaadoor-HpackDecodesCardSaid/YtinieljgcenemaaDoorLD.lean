/- HpackDecodes, the walk: whatever the steps, true. -/
import Derived.Test.YtinieljgcenemaaDoorLs
import Derived.Deep.RegionHeld
namespace Go.Proofs.YtinieljgcenemaaDoor
open Go.RowKit Go.Own Go.Tbl Go.Huf Go.Hin
set_option linter.unusedVariables false
set_option maxRecDepth 100000
attribute [local go_sem ↓] Go.wp_at_zero Go.wp_at_succ

theorem own_empty_u (w : World) : (w.alloc (.cells #[] 5)).ownsRow w.heap.size 5 1 (.slice (some ⟨w.heap.size, 0, none⟩) 0 0) 0 (([] : List UInt8).map BV) := own_empty_b w
theorem st_emptyB {S : Nat → Prop} {w0 w : World} {L : List Ob} (s : St S w0 w L) : St S w0 (w.alloc (.cells #[] 5)) (L ++ [BSo w0.heap.size (some ⟨w.heap.size, 0, none⟩) 0 0 []]) :=
  s.add (St.floor [] [] (St.made (framed_SLo ..) ⟨own_empty_u w, rfl⟩ (fun i hi => by simp [Value.ownBlock] at hi; omega) ((Below.refl _ _).alloc (Nat.le_refl _) _)) s.size)
theorem cvR {W : World} {A : Option Addr} {n c : Nat} {xs : List UInt8} (h : Rd W 1 A n (xs.map BV)) (T : ByteArray) (hT : ofB xs = T) : (convert 29 9 (.slice A n c)).run Tryd.prog W = .ok (.string T) W := by
  subst hT
  exact conv_rd h
set_option maxHeartbeats 8000000 in
theorem lawDecodes {w : World} (m : Int) (hm : i64 m) (list : Int) (hli : i64 list) {A1 : Option Addr} {n1 c1 : Nat} {os : List Op5} (ho : Ops5In w A1 n1 c1 os) (hC : Cnt w) :
    Calls Tryd.prog 4 #[.int .i64 m, .int .i64 list, .slice A1 n1 c1] w fun e w' => e = .returned (.bool true) ∧ Below w.heap.size w w' := by
  obtain ⟨h0, hh⟩ : ∃ h, clampI m = h := ⟨_, rfl⟩
  have hh2 : h0 ≤ 65536 := hh ▸ clampI_le m
  have hOk := ok_new h0 hh2
  have hncm : n1 ≤ 9223372036854775807 := Nat.le_trans ho.nc ho.cm
  have Ho := Lib.hid ho
  have HC := Lib.hid hC
  have Hm := Lib.hid hm
  have Hh := Lib.hid hh
  have HOk := Lib.hid hOk
  clear ho hC hm hh hOk
  go_enter Tryd.func4, Tryd.ntmps4
  go_wp2_with (first
    | (go_at_call 12; (with_reducible refine (shown5 _ HC.out).mono ?_); rintro e w1 ⟨rfl, hb1⟩
       have S1 : Hid (St NoS w w1 []) := (St.nil NoS w).next hb1
       clear hb1)
    | (go_at_call 25; (with_reducible refine (lNewD S1.out m Hm.out list h0 Hh.out).mono ?_); rintro e w2 ⟨p, rfl, s2⟩
       have S2 : Hid (St NoS w w2 [PDo p h0 list (some (h0, []))]) := s2
       clear s2)
    | (go_at_call 26; (with_reducible refine (lNewDR S2.out m list h0 Hh.out).mono ?_); rintro e w3 ⟨d, rfl, s3⟩
       have S3 : Hid (St NoS w w3 [PDo p h0 list (some (h0, [])), RDo d h0 list (some (h0, []))]) := s3
       clear s3))
  go_loopg [10] (min n1 25) (fun gh i w' => ∃ (k lim : Nat) (st : Option (Nat × List Fld)), gh + k = min n1 25 ∧ i = .int .i64 (k : Int) ∧ StOk lim st ∧ St NoS w w' [PDo p lim list st, RDo d lim list st])
  case atStart => exact ⟨0, h0, _, by omega, rfl, ⟨hh2, fun _ _ e => by cases e; exact HOk.out⟩, S3.out⟩
  case round =>
    obtain ⟨k, lim, st, hgk, rfl, hok, s⟩ := hrel
    cases gk with
    | succ g1 =>
      have hkn : k < n1 := by omega
      have hk30 : k < 25 := by omega
      obtain ⟨o, hf⟩ : ∃ o, os[k]? = some o := ⟨_, List.getElem?_eq_getElem (by rw [Ho.out.len]; exact hkn)⟩
      obtain ⟨bb, oo, hA, e0, e1, e2, e3⟩ := rd_op5 Ho.out.rd hf
      have d0 := s.fr.cell e0 (fun h => h)
      have d1 := s.fr.cell e1 (fun h => h)
      have d3 := s.fr.cell e3 (fun h => h)
      have E1 := Lib.hid e1
      clear e0 e1 e2 e3
      have hOp := Ho.out.ok o (List.mem_of_getElem? hf)
      have HOp := Lib.hid hOp
      have k1 : (k : Int) < (n1 : Int) := by omega
      have k2 : (k : Int) < 25 := by omega
      have S4 := Lib.hid s
      have Hok := Lib.hid hok
      have hbl := World.block_lt_of_cell? _ _ d0
      cases hA
      clear s hf hok hOp
      by_cases hkd : o.kind = 1
      · have kb : (o.kind == 1) = true := by simp [hkd]
        obtain ⟨nn, hnn⟩ : ∃ nn, clampI o.n = nn := ⟨_, rfl⟩
        have hnn2 : nn ≤ 65536 := hnn ▸ clampI_le o.n
        have Hnn := Lib.hid hnn
        clear hkd hnn
        go_wp2_with (first
          | (go_at_call 27; (with_reducible refine (lSetMaxD0 S4.out o.n HOp.out.n nn Hnn.out).mono ?_); rintro e w5 ⟨rfl, s5⟩
             have S5 := Lib.hid s5
             have g1' := s5.fr.cell E1.out (fun h => h)
             clear s5)
          | (go_at_call 28; (with_reducible refine (lSetMaxDR1 S5.out o.n nn Hnn.out).mono ?_); rintro e w6 ⟨rfl, s6⟩
             have S6 := Lib.hid s6
             clear s6))
        go_roundg g1
        case measure => omega
        case rel => exact ⟨k + 1, nn, st, by omega, by go_num, Hok.out.lim hnn2, S6.out⟩
      · have kb : (o.kind == 1) = false := by simp [hkd]
        obtain ⟨q1, hq1⟩ : ∃ q, min o.bn 300 = q := ⟨_, rfl⟩
        have eq1 : (if (300 : Int) < (o.bn : Int) then (300 : Int) else (o.bn : Int)) = (q1 : Int) := by split <;> omega
        have l1 : q1 ≤ o.bn := by omega
        have u1 : q1 ≤ 300 := by omega
        have t1 := rd_take1 HOp.out.b l1
        have onc := HOp.out.nc
        have ocm := HOp.out.cm
        have v1 : q1 ≤ o.bc := by omega
        obtain ⟨X, hX⟩ : ∃ X, o.bs.take q1 = X := ⟨_, rfl⟩
        rw [hX] at t1
        have lX : X.length = q1 := by simpa using t1.1
        have lX3 : X.length ≤ 300 := by omega
        obtain ⟨T, hT⟩ : ∃ T, ofB X = T := ⟨_, rfl⟩
        obtain ⟨⟨fs, er, st'⟩, hR⟩ : ∃ R, decR lim list st X = R := ⟨_, rfl⟩
        obtain ⟨hok', hfl⟩ := Hok.out.dec hR lX3
        obtain ⟨N1, hN1⟩ : ∃ N1, fs.length = N1 := ⟨_, rfl⟩
        rw [hN1] at hfl
        have HR := Lib.hid hR
        have HN1 := Lib.hid hN1
        have HT := Lib.hid hT
        have T1 := Lib.hid t1
        have LX := Lib.hid lX
        have LX3 := Lib.hid lX3
        have Hok' := Lib.hid hok'
        clear hkd hq1 hX hT hR hok' hN1 t1 lX lX3
        go_upto_region 12 with (fail)
        go_quiet (fail)
        have S5 := Lib.hid (S4.out.drewN nq)
        have S5e : Hid (St NoS w ((wr.drewN nq).alloc (.cells #[] 5)) [PDo p lim list st, RDo d lim list st, BSo w.heap.size (some ⟨(wr.drewN nq).heap.size, 0, none⟩) 0 0 []]) := st_emptyB S5.out
        have kee : (er != er) = false := by simp
        clear S4 d0 d1 d3
        go_wp2_with (first
          | (at_builtin
             refine wpList_append_rd rfl (.tmp 72) (.tmp 73) 29 rfl E31 (.slice (some ⟨(wr.drewN nq).heap.size, 0, none⟩) 0 0) 0 (([] : List UInt8).map BV) rfl S5e.out.own2 o.ba q1 o.bc (X.map BV) rfl (S5e.out.rd T1.out (fun _ _ h => h)) (BV_one _) (by omega) (by unfold maxLen; omega) S5e.out.size ?_
             intro A6 c6 w6 ho6 hf6 h26
             have s6 := S5e.out.appended2 ho6 hf6 h26
             rw [Nat.zero_add] at s6
             have S6 : Hid (St NoS w w6 [PDo p lim list st, RDo d lim list st, BSo w.heap.size A6 c6 q1 X]) := s6
             clear ho6 hf6 h26 s6)
          | (go_at_call 29; (with_reducible refine (lDecode0 S6.out HC.out (List.Mem.tail _ (List.Mem.head _)) (by omega) fs er st' HR.out N1 HN1.out).mono ?_); rintro e w7 ⟨A7, c7, rfl, s7⟩
             have S7 : Hid (St NoS w w7 [PDo p lim list st', RDo d lim list st, BSo w.heap.size A6 c6 q1 X, FSo w.heap.size A7 c7 N1 fs]) := s7
             have cv7 := cvR (c := o.bc) (s7.rd T1.out (fun _ _ h => h)) T HT.out
             clear s7)
          | (go_at_call 30; (with_reducible refine (lDecR1 S7.out T HT.out LX3.out fs er st' HR.out N1 HN1.out).mono ?_); rintro e w8 ⟨A8, c8, rfl, s8⟩
             have S8 : Hid (St NoS w w8 [PDo p lim list st', RDo d lim list st', BSo w.heap.size A6 c6 q1 X, FSo w.heap.size A7 c7 N1 fs, FSo w.heap.size A8 c8 N1 fs]) := s8
             clear s8 cv7)
          | (go_at_call 19; (with_reducible refine (r5Same_eq (Rd.of_own S8.out.own3) (Rd.of_own S8.out.own4) HN1.out (by omega)).mono ?_); rintro e w9 ⟨rfl, hb⟩
             have S9 : Hid (St NoS w w9 [PDo p lim list st', RDo d lim list st', BSo w.heap.size A6 c6 q1 X, FSo w.heap.size A7 c7 N1 fs]) := (S8.out.next hb).drop4
             have cv9 := cvR (c := o.bc) (S9.out.rd T1.out (fun _ _ h => h)) T HT.out
             have cv9' := cv5 (w0 := w) S9.out.own2 T HT.out
             clear hb))
        clear S5 S5e S6 S7 S8 cv9 cv9'
        go_loopg [18] q1 (fun gh i w' => ∃ (k3 : Nat) (ys : List Value), gh + k3 = q1 ∧ i = .int .i64 (k3 : Int) ∧ St NoS w w' [PDo p lim list st', RDo d lim list st', SLo w.heap.size 5 1 (.slice A6 q1 c6) q1 ys, FSo w.heap.size A7 c7 N1 fs])
        case atStart => exact ⟨0, X.map BV, by omega, rfl, S9.out⟩
        case round =>
          obtain ⟨k3, ys, hk3, rfl, s3⟩ := hrel
          cases gk with
          | succ g3 =>
            have hkn3 : k3 < q1 := by omega
            obtain ⟨b3, hA3⟩ := own_at s3.own2 (by omega)
            have f0 : wr.frozen? ⟨b3, k3, none⟩ = false := own_frozenV s3.own2 hA3 _
            obtain ⟨c0, d0⟩ := own_cell (i := k3) s3.own2 hA3 (by omega) (by omega)
            have S5 := Lib.hid (st_slot0 (L1 := [PDo p lim list st', RDo d lim list st']) (L2 := [FSo w.heap.size A7 c7 N1 fs]) (i := k3) (u := .int .u8 77) s3 hA3)
            have k1 : (k3 : Int) < (q1 : Int) := by omega
            cases hA3
            clear s3 S9
            go_wp2
            go_roundg g3
            case measure => omega
            case rel => exact ⟨k3 + 1, _, by omega, by go_num, S5.out⟩
          | zero =>
            obtain rfl : k3 = q1 := by omega
            have S3 := Lib.hid s3.drop2
            clear s3 S9
            go_wp2
            go_loopg [19] N1 (fun gh i w' => ∃ (k2 : Nat) (xs : List Value), gh + k2 = N1 ∧ i = .int .i64 (k2 : Int) ∧ St NoS w w' [PDo p lim list st', RDo d lim list st', SLo w.heap.size 38 3 (.slice A7 N1 c7) N1 xs])
            case atStart => exact ⟨0, fcellsL fs, by omega, rfl, S3.out⟩
            case round =>
              obtain ⟨k2, xs, hk2, rfl, s2⟩ := hrel
              cases gk with
              | succ g2 =>
                have hkn2 : k2 < N1 := by omega
                obtain ⟨b2, hA2⟩ := own_at s2.own2 (by omega)
                have f0 : wr.frozen? ⟨b2, k2 * 3, none⟩ = false := own_frozenV s2.own2 hA2 _
                have f1 : wr.frozen? ⟨b2, k2 * 3 + 1, none⟩ = false := own_frozenV s2.own2 hA2 _
                have f2 : wr.frozen? ⟨b2, k2 * 3 + 2, none⟩ = false := own_frozenV s2.own2 hA2 _
                obtain ⟨c0, d0⟩ := own_cell (i := k2 * 3) s2.own2 hA2 (by omega) (by omega)
                obtain ⟨c1', d1⟩ := own_cell (i := k2 * 3 + 1) s2.own2 hA2 (by omega) (by omega)
                obtain ⟨c2', d2⟩ := own_cell (i := k2 * 3 + 2) s2.own2 hA2 (by omega) (by omega)
                have s3 := st_slot0 (L1 := [PDo p lim list st', RDo d lim list st']) (L2 := []) (i := k2 * 3) (u := .string ⟨#[63]⟩) s2 hA2
                have s4 := st_slot0 (L1 := [PDo p lim list st', RDo d lim list st']) (L2 := []) (i := k2 * 3 + 1) (u := .string ⟨#[]⟩) s3 hA2
                have S5 := Lib.hid (st_slot0 (L1 := [PDo p lim list st', RDo d lim list st']) (L2 := []) (i := k2 * 3 + 2) (u := .bool false) s4 hA2)
                have k1 : (k2 : Int) < (N1 : Int) := by omega
                cases hA2
                clear s2 s3 s4 S3
                go_wp2
                go_roundg g2
                case measure => omega
                case rel => exact ⟨k2 + 1, _, by omega, by go_num, S5.out⟩
              | zero =>
                obtain rfl : k2 = N1 := by omega
                have S6 : Hid (St NoS w wr [PDo p lim list st', RDo d lim list st']) := s2.drop2
                have hbr := st_broken S6.out
                clear s2 S3
                cases st' with
                | none =>
                  have hbr : wr.cell? ⟨d, 3, none⟩ = some (.bool true) := hbr
                  go_wp2
                  go_roundg g1
                  case measure => omega
                  case rel => exact ⟨k + 1, lim, none, by omega, by go_num, Hok'.out, S6.out⟩
                | some y =>
                  obtain ⟨h', l'⟩ := y
                  have hbr : wr.cell? ⟨d, 3, none⟩ = some (.bool false) := hbr
                  obtain ⟨z, hz⟩ : ∃ z, szs l' = z := ⟨_, rfl⟩
                  have HZ := Lib.hid hz
                  clear hz
                  go_wp2_with (first
                    | (go_at_call 21; (with_reducible refine (lSizeD0 S6.out z HZ.out).mono ?_); rintro e wa ⟨rfl, rfl⟩)
                    | (go_at_call 31; (with_reducible refine (lSizeDR1 S6.out z HZ.out).mono ?_); rintro e wb ⟨rfl, sb⟩
                       have Sb := Lib.hid sb
                       clear sb)
                    | (go_at_call 23; (with_reducible refine (lMaxD0 Sb.out).mono ?_); rintro e wc ⟨rfl, rfl⟩)
                    | (go_at_call 32; (with_reducible refine (lMaxDR1 Sb.out).mono ?_); rintro e we ⟨rfl, se⟩
                       have Se := Lib.hid se
                       clear se))
                  go_roundg g1
                  case measure => omega
                  case rel => exact ⟨k + 1, lim, some (h', l'), by omega, by go_num, Hok'.out, Se.out⟩
    | zero =>
      have S4 := Lib.hid s
      have hc : (¬ (k : Int) < (n1 : Int)) ∨ ((k : Int) < (n1 : Int) ∧ ¬ (k : Int) < 25) := by omega
      clear s
      rcases hc with hc | ⟨hc, hc2⟩
      all_goals
        go_wp2
        go_ret
        exact ⟨rfl, S4.out.below⟩
end Go.Proofs.YtinieljgcenemaaDoor
