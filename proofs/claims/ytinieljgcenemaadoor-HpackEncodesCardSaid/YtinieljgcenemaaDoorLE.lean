/- HpackEncodes, the walk: whatever the steps, true. -/
import Derived.Test.YtinieljgcenemaaDoorLr
import Derived.Deep.RegionHeld
namespace Go.Proofs.YtinieljgcenemaaDoor
open Go.RowKit Go.Own Go.Tbl Go.Huf Go.Hin
set_option linter.unusedVariables false
set_option maxRecDepth 100000
attribute [local go_sem ↓] Go.wp_at_zero Go.wp_at_succ

/-- what is told has an end -/
def PdLeE (pd : Pend) : Prop := ∀ a b, pd = some (a, b) → a ≤ 65536 ∧ b ≤ 65536
theorem PdLeE.tell {pd : Pend} (h : PdLeE pd) (n : Nat) (hn : n ≤ 65536) : PdLeE (tell n pd) := by
  intro a b e
  cases pd with
  | none =>
    have e : some (n, n) = some (a, b) := e
    injection e with e
    injection e with e1 e2
    omega
  | some z =>
    obtain ⟨x, y⟩ := z
    have h1 := h x y rfl
    have e : some (min x n, n) = some (a, b) := e
    injection e with e
    injection e with e1 e2
    omega
theorem PdLeE.none : PdLeE none := fun a b e => by cases e
/-- a block, written -/
theorem block_put {h : Nat} {l fs : List Fld} {pd : Pend} (ok : Ok statL h l) (hl : PdLeE pd) (hs : ∀ f ∈ fs, f.n.size ≤ 400 ∧ f.v.size ≤ 400) (hf : fs.length ≤ 20) : ∃ X h' l', blockE statL h l pd fs = (X, h', l') ∧ Ok statL h' l' ∧ X.length ≤ 1048576 := by
  refine ⟨_, _, _, rfl, blockE_ok hl ok, ?_⟩
  have h1 := blockE_len (M := 400) (by omega) hl ok hs
  have h2 : (blockE statL h l pd fs).1.length ≤ 1048576 := by omega
  exact h2
theorem lEncodeR1 {w0 w : World} {O0 : Ob} {L2 : List Ob} {p h : Nat} {l fs : List Fld} {cs : List Nat} {A0 : Option Addr} {n0 c0 : Nat} {base : Nat} (s : St NoS w0 w (O0 :: REo p h l cs :: L2)) (hO : FSo base A0 c0 n0 fs ∈ [O0] ++ L2) (hlen : fs.length = n0) (hn0 : n0 ≤ 20) (hfs : ∀ f ∈ fs, f.n.size ≤ 400 ∧ f.v.size ≤ 400) (hcs : cs.length ≤ 1000)
    (Lb : List UInt8) (h' : Nat) (l' : List Fld) (hE : blockE statL h l (pend cs) fs = (Lb, h', l')) (T : ByteArray) (hT : ofB Lb = T) (hN2 : Lb.length ≤ 1048576) :
    Calls Tryd.prog 20 #[.pointer (some ⟨p, 0, none⟩), .slice A0 n0 c0] w fun e w' => e = .returned (.string T) ∧ St NoS w0 w' (O0 :: REo p h' l' [] :: L2) := lEncodeR (L1 := [O0]) s hO hlen hn0 hfs hcs Lb h' l' hE T hT hN2
theorem lSetMaxR1 {w0 w : World} {O0 : Ob} {L2 : List Ob} {p h : Nat} {l : List Fld} {cs : List Nat} (s : St NoS w0 w (O0 :: REo p h l cs :: L2)) (x : Int) (n : Nat) (hn : clampI x = n) (hcs : cs.length ≤ 1000) : Calls Tryd.prog 16 #[.pointer (some ⟨p, 0, none⟩), .int .i64 x] w fun e w' => e = .returned (.tuple #[]) ∧ St NoS w0 w' (O0 :: REo p h l (cs ++ [n]) :: L2) := lSetMaxR (L1 := [O0]) s x n hn hcs
theorem lSizeR1 {w0 w : World} {O0 : Ob} {L2 : List Ob} {p h : Nat} {l : List Fld} {cs : List Nat} (s : St NoS w0 w (O0 :: REo p h l cs :: L2)) (z : Nat) (hz : szs l = z) : Calls Tryd.prog 22 #[.pointer (some ⟨p, 0, none⟩)] w fun e w' => e = .returned (.int .i64 (z : Int)) ∧ St NoS w0 w' (O0 :: REo p h l cs :: L2) := lSizeR (L1 := [O0]) s z hz
theorem lMaxR1 {w0 w : World} {O0 : Ob} {L2 : List Ob} {p h : Nat} {l : List Fld} {cs : List Nat} (s : St NoS w0 w (O0 :: REo p h l cs :: L2)) : Calls Tryd.prog 24 #[.pointer (some ⟨p, 0, none⟩)] w fun e w' => e = .returned (.int .i64 (h : Int)) ∧ St NoS w0 w' (O0 :: REo p h l cs :: L2) := lMaxR (L1 := [O0]) s
set_option maxHeartbeats 8000000 in
theorem lawEncodes {w : World} (m : Int) (hm : i64 m) {A1 : Option Addr} {n1 c1 : Nat} {os : List Op5} (ho : Ops5In w A1 n1 c1 os) (hC : Cnt w) :
    Calls Tryd.prog 3 #[.int .i64 m, .slice A1 n1 c1] w fun e w' => e = .returned (.bool true) ∧ Below w.heap.size w w' := by
  obtain ⟨h0, hh⟩ : ∃ h, clampI m = h := ⟨_, rfl⟩
  have hh2 : h0 ≤ 65536 := hh ▸ clampI_le m
  have hOk := ok_new h0 hh2
  have hncm : n1 ≤ 9223372036854775807 := Nat.le_trans ho.nc ho.cm
  have Ho := Lib.hid ho
  have HC := Lib.hid hC
  have Hm := Lib.hid hm
  have Hh := Lib.hid hh
  have HOk := Lib.hid hOk
  clear ho hC hm hh hOk
  go_enter Tryd.func3, Tryd.ntmps3
  go_wp2_with (first
    | (go_at_call 12; (with_reducible refine (shown5 _ HC.out).mono ?_); rintro e w1 ⟨rfl, hb1⟩
       have S1 : Hid (St NoS w w1 []) := (St.nil NoS w).next hb1
       clear hb1)
    | (go_at_call 13; (with_reducible refine (lNewE S1.out m Hm.out h0 Hh.out).mono ?_); rintro e w2 ⟨p, rfl, s2⟩
       have S2 : Hid (St NoS w w2 [PEo p h0 [] none]) := s2
       clear s2)
    | (go_at_call 14; (with_reducible refine (lNewR S2.out m h0 Hh.out).mono ?_); rintro e w3 ⟨d, rfl, s3⟩
       have S3 : Hid (St NoS w w3 [PEo p h0 [] none, REo d h0 [] []]) := s3
       clear s3))
  go_loopg [8] (min n1 25) (fun gh i w' => ∃ (k hk : Nat) (lk : List Fld) (cs : List Nat), gh + k = min n1 25 ∧ i = .int .i64 (k : Int) ∧ Ok statL hk lk ∧ PdLeE (pend cs) ∧ cs.length ≤ k ∧ St NoS w w' [PEo p hk lk (pend cs), REo d hk lk cs])
  case atStart => exact ⟨0, h0, [], [], by omega, rfl, HOk.out, PdLeE.none, Nat.le_refl 0, S3.out⟩
  case round =>
    obtain ⟨k, hk, lk, cs, hgk, rfl, hok, hle, hcs, s⟩ := hrel
    cases gk with
    | succ g1 =>
      have hkn : k < n1 := by omega
      have hk30 : k < 25 := by omega
      obtain ⟨o, hf⟩ : ∃ o, os[k]? = some o := ⟨_, List.getElem?_eq_getElem (by rw [Ho.out.len]; exact hkn)⟩
      obtain ⟨bb, oo, hA, e0, e1, e2, e3⟩ := rd_op5 Ho.out.rd hf
      have d0 := s.fr.cell e0 (fun h => h)
      have d1 := s.fr.cell e1 (fun h => h)
      have d2 := s.fr.cell e2 (fun h => h)
      have E1 := Lib.hid e1
      have E2 := Lib.hid e2
      clear e0 e1 e2 e3
      have hOp := Ho.out.ok o (List.mem_of_getElem? hf)
      have HOp := Lib.hid hOp
      have k1 : (k : Int) < (n1 : Int) := by omega
      have k2 : (k : Int) < 25 := by omega
      have S4 := Lib.hid s
      have Hok := Lib.hid hok
      have Hle := Lib.hid hle
      have hbl := World.block_lt_of_cell? _ _ d0
      cases hA
      clear s hf hok hle hOp
      by_cases hkd : o.kind = 1
      · have kb : (o.kind == 1) = true := by simp [hkd]
        obtain ⟨nn, hnn⟩ : ∃ nn, clampI o.n = nn := ⟨_, rfl⟩
        have hnn2 : nn ≤ 65536 := hnn ▸ clampI_le o.n
        have Hnn := Lib.hid hnn
        clear hkd hnn
        go_wp2_with (first
          | (go_at_call 15; (with_reducible refine (lSetMaxE0 S4.out o.n HOp.out.n nn Hnn.out).mono ?_); rintro e w5 ⟨rfl, s5⟩
             have S5 := Lib.hid s5
             have g1' := s5.fr.cell E1.out (fun h => h)
             clear s5)
          | (go_at_call 16; (with_reducible refine (lSetMaxR1 S5.out o.n nn Hnn.out (by omega)).mono ?_); rintro e w6 ⟨rfl, s6⟩
             have S6 := Lib.hid s6
             clear s6))
        go_roundg g1
        case measure => omega
        case rel => exact ⟨k + 1, hk, lk, cs ++ [nn], by omega, by go_num, Hok.out, by rw [pend_snoc]; exact Hle.out.tell nn hnn2, by simp; omega, by rw [pend_snoc]; exact S6.out⟩
      · have kb : (o.kind == 1) = false := by simp [hkd]
        have hsz := smallL_sz o.fs
        have hln := smallL_len o.fs
        obtain ⟨fs, hfs⟩ : ∃ fs, smallL o.fs = fs := ⟨_, rfl⟩
        rw [hfs] at hsz hln
        obtain ⟨X, h', l', eX, hok', b1⟩ := block_put Hok.out Hle.out hsz hln
        obtain ⟨N1, hN1⟩ : ∃ N1, X.length = N1 := ⟨_, rfl⟩
        obtain ⟨T, hT⟩ : ∃ T, ofB X = T := ⟨_, rfl⟩
        obtain ⟨z, hz⟩ : ∃ z, szs l' = z := ⟨_, rfl⟩
        have B1 := Lib.hid b1
        rw [hN1] at b1
        have Hfs := Lib.hid hfs
        have EX := Lib.hid eX
        have HN1 := Lib.hid hN1
        have HT := Lib.hid hT
        have HZ := Lib.hid hz
        have Hok' := Lib.hid hok'
        have Hsz := Lib.hid hsz
        have Hbig : Hid (∀ f ∈ fs, f.n.size ≤ 16777216 ∧ f.v.size ≤ 16777216) := fun f hf => by have := hsz f hf; omega
        have hcs2 : cs.length ≤ 1000 := by omega
        clear hkd hsz hfs eX hok' hN1 hz hT
        go_wp2_with (first
          | (go_at_call 17; (with_reducible refine (lSmall S4.out HOp.out.l.rd HOp.out.l.len (Nat.le_trans HOp.out.l.nc HOp.out.l.cm) HOp.out.l.ok).mono ?_); rintro e w5 ⟨A5, m5, c5, rfl, hm5, s5⟩
             have s6 : St NoS w w5 [PEo p hk lk (pend cs), REo d hk lk cs, FSo w.heap.size A5 c5 m5 (smallL o.fs)] := s5
             rw [Hfs.out] at s6 hm5
             have hm5l : m5 ≤ 20 := by omega
             have M5 := Lib.hid hm5
             have S5 := Lib.hid s6
             clear s5 s6 hm5)
          | (go_at_call 18; (with_reducible refine (lEncode0 S5.out HC.out (List.Mem.tail _ (List.Mem.head _)) M5.out (by omega) Hbig.out X h' l' EX.out N1 HN1.out (by omega)).mono ?_); rintro e w6 ⟨A6, c6, rfl, s6⟩
             have S6 : Hid (St NoS w w6 [PEo p h' l' none, REo d hk lk cs, FSo w.heap.size A5 c5 m5 fs, BSo w.heap.size A6 c6 N1 X]) := s6
             have g2' := s6.fr.cell E2.out (fun h => h)
             clear s6)
          | (go_at_call 17; (with_reducible refine (lSmall S6.out HOp.out.l.rd HOp.out.l.len (Nat.le_trans HOp.out.l.nc HOp.out.l.cm) HOp.out.l.ok).mono ?_); rintro e w7 ⟨A7, m7, c7, rfl, hm7, s7⟩
             have s8 : St NoS w w7 [PEo p h' l' none, REo d hk lk cs, FSo w.heap.size A5 c5 m5 fs, BSo w.heap.size A6 c6 N1 X, FSo w.heap.size A7 c7 m7 (smallL o.fs)] := s7
             rw [Hfs.out] at s8 hm7
             obtain rfl : m5 = m7 := M5.out.symm.trans hm7
             have S7 := Lib.hid s8
             clear s7 s8 hm7)
          | (go_at_call 19; (with_reducible refine (r5Same_eq (Rd.of_own S7.out.own2) (Rd.of_own S7.out.own4) M5.out (by omega)).mono ?_); rintro e w8 ⟨rfl, hb⟩
             have S8 : Hid (St NoS w w8 [PEo p h' l' none, REo d hk lk cs, FSo w.heap.size A5 c5 m5 fs, BSo w.heap.size A6 c6 N1 X]) := (S7.out.next hb).drop4
             clear hb))
        have S8d := Lib.hid S8.out.drew
        have q1 := cv5 (w0 := w) S8.out.own3 T HT.out
        have q2 := cv5 (w0 := w) S8d.out.own3 T HT.out
        clear S4 S5 S6 S7
        go_region_held (fun w' => (convert 29 9 (.slice A6 N1 c6)).run Tryd.prog w' = .ok (.string T) w') (first | exact q2 | exact q1 | exact q3)
          (first
          | (go_at_call 20; (with_reducible refine (lEncodeR1 S8d.out (List.Mem.tail _ (List.Mem.head _)) M5.out (by omega) Hsz.out hcs2 X h' l' EX.out T HT.out B1.out).mono ?_); rintro e w9 ⟨rfl, s9⟩
             have S9 : Hid (St NoS w w9 [PEo p h' l' none, REo d h' l' [], FSo w.heap.size A5 c5 m5 fs, BSo w.heap.size A6 c6 N1 X]) := s9
             have q3 := cv5 (w0 := w) s9.own3 T HT.out
             clear s9))
        all_goals
          clear q1 q2 q3 S8 S8d
          go_wp2
          go_loopg [12] m5 (fun gh i w' => ∃ (k2 : Nat) (xs : List Value), gh + k2 = m5 ∧ i = .int .i64 (k2 : Int) ∧ St NoS w w' [PEo p h' l' none, REo d h' l' [], SLo w.heap.size 38 3 (.slice A5 m5 c5) m5 xs, BSo w.heap.size A6 c6 N1 X])
          case atStart => exact ⟨0, fcellsL fs, by omega, rfl, S9.out⟩
          case round =>
            obtain ⟨k2, xs, hk2, rfl, s2⟩ := hrel
            cases gk with
            | succ g2 =>
              have hkn2 : k2 < m5 := by omega
              obtain ⟨b2, hA2⟩ := own_at s2.own2 (by omega)
              have f0 : wr.frozen? ⟨b2, k2 * 3, none⟩ = false := own_frozenV s2.own2 hA2 _
              have f1 : wr.frozen? ⟨b2, k2 * 3 + 1, none⟩ = false := own_frozenV s2.own2 hA2 _
              have f2 : wr.frozen? ⟨b2, k2 * 3 + 2, none⟩ = false := own_frozenV s2.own2 hA2 _
              obtain ⟨c0, d0⟩ := own_cell (i := k2 * 3) s2.own2 hA2 (by omega) (by omega)
              obtain ⟨c1', d1⟩ := own_cell (i := k2 * 3 + 1) s2.own2 hA2 (by omega) (by omega)
              obtain ⟨c2', d2⟩ := own_cell (i := k2 * 3 + 2) s2.own2 hA2 (by omega) (by omega)
              have s3 := st_slot0 (L1 := [PEo p h' l' none, REo d h' l' []]) (L2 := [BSo w.heap.size A6 c6 N1 X]) (i := k2 * 3) (u := .string ⟨#[63]⟩) s2 hA2
              have s4 := st_slot0 (L1 := [PEo p h' l' none, REo d h' l' []]) (L2 := [BSo w.heap.size A6 c6 N1 X]) (i := k2 * 3 + 1) (u := .string ⟨#[]⟩) s3 hA2
              have S5 := Lib.hid (st_slot0 (L1 := [PEo p h' l' none, REo d h' l' []]) (L2 := [BSo w.heap.size A6 c6 N1 X]) (i := k2 * 3 + 2) (u := .bool false) s4 hA2)
              have k1 : (k2 : Int) < (m5 : Int) := by omega
              cases hA2
              clear s2 s3 s4 S9
              go_wp2
              go_roundg g2
              case measure => omega
              case rel => exact ⟨k2 + 1, _, by omega, by go_num, S5.out⟩
            | zero =>
              obtain rfl : k2 = m5 := by omega
              have S2 := Lib.hid s2
              clear s2 S9
              go_wp2
              go_loopg [13] N1 (fun gh i w' => ∃ (k3 : Nat) (ys : List Value), gh + k3 = N1 ∧ i = .int .i64 (k3 : Int) ∧ St NoS w w' [PEo p h' l' none, REo d h' l' [], SLo w.heap.size 38 3 (.slice A5 k2 c5) k2 xs, SLo w.heap.size 5 1 (.slice A6 N1 c6) N1 ys])
              case atStart => exact ⟨0, X.map BV, by omega, rfl, S2.out⟩
              case round =>
                obtain ⟨k3, ys, hk3, rfl, s3⟩ := hrel
                cases gk with
                | succ g3 =>
                  have hkn3 : k3 < N1 := by omega
                  obtain ⟨b3, hA3⟩ := own_at s3.own3 (by omega)
                  have f0 : wr.frozen? ⟨b3, k3, none⟩ = false := own_frozenV s3.own3 hA3 _
                  obtain ⟨c0, d0⟩ := own_cell (i := k3) s3.own3 hA3 (by omega) (by omega)
                  have S5 := Lib.hid (st_slot0 (L1 := [PEo p h' l' none, REo d h' l' [], SLo w.heap.size 38 3 (.slice A5 k2 c5) k2 xs]) (L2 := []) (i := k3) (u := .int .u8 77) s3 hA3)
                  have k1 : (k3 : Int) < (N1 : Int) := by omega
                  cases hA3
                  clear s3 S2
                  go_wp2
                  go_roundg g3
                  case measure => omega
                  case rel => exact ⟨k3 + 1, _, by omega, by go_num, S5.out⟩
                | zero =>
                  obtain rfl : k3 = N1 := by omega
                  have S6 : Hid (St NoS w wr [PEo p h' l' none, REo d h' l' []]) := s3.drop3.drop2
                  clear s3 S2
                  go_wp2_with (first
                    | (go_at_call 21; (with_reducible refine (lSizeE0 S6.out z HZ.out).mono ?_); rintro e wa ⟨rfl, rfl⟩)
                    | (go_at_call 22; (with_reducible refine (lSizeR1 S6.out z HZ.out).mono ?_); rintro e wb ⟨rfl, sb⟩
                       have Sb := Lib.hid sb
                       clear sb)
                    | (go_at_call 23; (with_reducible refine (lMaxE0 Sb.out).mono ?_); rintro e wc ⟨rfl, rfl⟩)
                    | (go_at_call 24; (with_reducible refine (lMaxR1 Sb.out).mono ?_); rintro e we ⟨rfl, se⟩
                       have Se := Lib.hid se
                       clear se))
                  go_roundg g1
                  case measure => omega
                  case rel => exact ⟨k + 1, h', l', [], by omega, by go_num, Hok'.out, PdLeE.none, Nat.zero_le _, Se.out⟩
    | zero =>
      have S4 := Lib.hid s
      have hc : (¬ (k : Int) < (n1 : Int)) ∨ ((k : Int) < (n1 : Int) ∧ ¬ (k : Int) < 25) := by omega
      clear s
      rcases hc with hc | ⟨hc, hc2⟩
      all_goals
        go_wp2
        go_ret
        exact ⟨rfl, S4.out.below⟩
end Go.Proofs.YtinieljgcenemaaDoor
