/- The document's decoder: a block, read. -/
import Derived.Test.YtinieljgcenemaaDoorR5D
import Derived.Deep.LoopGhost
import Derived.Deep.QuietTactic
import Derived.Deep.DeepCutAuto
namespace Go.Proofs.YtinieljgcenemaaDoor
open Go.RowKit Go.Own Go.Tbl Go.Huf Go.Hin
set_option linter.unusedVariables false
set_option maxRecDepth 100000
attribute [local go_sem ↓] Go.wp_at_zero Go.wp_at_succ

/-- what a call leaves that reads a block -/
def AllR (w : World) (F : Nat → Prop) (p r : Nat) (cs : List Value) : Option (List Fld × Nat × List Fld) → Ending → World → Prop
  | some (fs, h', l'), e, w' => ∃ A n c, e = .returned (.tuple #[.slice A n c, .bool true]) ∧ fs.length = n ∧ Ok statL h' l' ∧ St F w w' [BLo p 56 cs, RXo r h' l', FSo w.heap.size A c n fs]
  | none, e, w' => e = .returned (.tuple #[.slice none 0 0, .bool false]) ∧ St F w w' [BLo p 56 cs]
theorem isUpd_true {ys : List UInt8} (h : isUpd ys = true) : ∃ x q, ys = x :: q ∧ 32 ≤ x.toNat ∧ x.toNat < 64 := by
  cases ys with
  | nil => cases h
  | cons x q => exact ⟨x, q, rfl, of_decide_eq_true h⟩
theorem isUpd_false {ys : List UInt8} (h : isUpd ys = false) : ys = [] ∨ ∃ x q, ys = x :: q ∧ (x.toNat < 32 ∨ 64 ≤ x.toNat) := by
  cases ys with
  | nil => exact .inl rfl
  | cons x q =>
    have := of_decide_eq_false h
    exact .inr ⟨x, q, rfl, by omega⟩
theorem updsD_step {lim k h : Nat} {l : List Fld} {ys : List UInt8} (h1 : isUpd ys = true) : updsD lim (k + 1) h l ys = (match getN 5 ys with
      | .ok v n => if lim < v then none else updsD lim k v (pre v l) (ys.drop n)
      | _ => none) := by
  rw [updsD, if_pos h1]
  cases getN 5 ys <;> rfl
theorem st_emptyS {S : Nat → Prop} {w0 w : World} {L : List Ob} (s : St S w0 w L) : St S w0 (w.alloc (.cells #[] 38)) (L ++ [FSo w0.heap.size (some ⟨w.heap.size, 0, none⟩) 0 0 []]) :=
  s.add (St.floor [] [] (St.made (framed_SLo ..) ⟨own_of_blk0 w [] 38 3 0 rfl (by simp [maxLen]), rfl⟩ (fun i hi => by simp [Value.ownBlock] at hi; omega) ((Below.refl _ _).alloc (Nat.le_refl _) _)) s.size)
section
variable {w : World} {p r h : Nat} {l : List Fld} {F : Nat → Prop}
set_option maxHeartbeats 8000000 in
theorem r5all_c {lim : Nat} {list : Int} {bk : Bool} (s0 : St F w w [BLo p 56 (decCells r (lim : Int) list bk), RXo r h l]) (hOk : Ok statL h l) (hlim : lim ≤ 65536) (xs : List UInt8) (S : ByteArray) (hS : ofB xs = S) (hn : xs.length ≤ 300) (R : Option (List Fld × Nat × List Fld)) (hR : blockD statL lim h l xs = R) :
    Calls Tryd.prog 48 #[.pointer (some ⟨p, 0, none⟩), .string S] w (AllR w F p r (decCells r (lim : Int) list bk) R) := by
  obtain ⟨U, hU⟩ : ∃ U, updsD lim xs.length h l xs = U := ⟨_, rfl⟩
  rw [blockD, hU] at hR
  have HU := Lib.hid hU
  have HR := Lib.hid hR
  have HS := Lib.hid hS
  have HOk := Lib.hid hOk
  have S0 := Lib.hid s0
  clear hU hR hS hOk s0
  go_enter Tryd.func48, Tryd.ntmps48
  go_wp2
  go_loopg [1] (xs.length + 1) (fun gh b w' => ∃ (k hk : Nat) (lk : List Fld) (ys : List UInt8) (T : ByteArray), gh = k + 1 ∧ b = .string T ∧ ofB ys = T ∧ ys.length ≤ k ∧ ys.length ≤ 300 ∧ updsD lim k hk lk ys = U ∧ Ok statL hk lk ∧ St F w w' [BLo p 56 (decCells r (lim : Int) list bk), RXo r hk lk])
  case atStart => exact ⟨xs.length, h, l, xs, S, rfl, rfl, HS.out, Nat.le_refl _, hn, HU.out, HOk.out, S0.out⟩
  case round =>
    obtain ⟨k, hk, lk, ys, T, hgk, rfl, hT, hyl, hy3, hU, hok, s⟩ := hrel
    have y0 := s.blk0.cell 0
    have y1 := s.blk0.cell 1
    have yh := st_hcell1 s
    simp only [List.getElem?_cons_zero, List.getElem?_cons_succ] at y0 y1
    obtain ⟨n1, hn1⟩ : ∃ n1, ys.length = n1 := ⟨_, rfl⟩
    have hTs : T.size = n1 := by rw [← hT, ofB_size, hn1]
    have HT := Lib.hid hT
    have S1 := Lib.hid s
    have Hok := Lib.hid hok
    clear s hT hok S0
    cases hu : isUpd ys with
    | true =>
      obtain ⟨x, q, rfl, hx1, hx2⟩ := isUpd_true hu
      obtain ⟨k1, rfl⟩ : ∃ k1, k = k1 + 1 := ⟨k - 1, by simp at hyl; omega⟩
      rw [updsD_step hu] at hU
      obtain ⟨hk0, hs0⟩ := str_0 HT.out
      have g1 : (0 : Int) < (n1 : Int) := by simp at hn1; omega
      have g2 : (32 : Int) ≤ (x.toNat : Int) := by omega
      have g3 : (x.toNat : Int) < 64 := by omega
      have Hn1 := Lib.hid hn1
      have hn1' : n1 ≤ 300 := by omega
      have hyl2 : n1 ≤ k1 + 1 := by omega
      clear hu hx1 hx2 hn1
      cases hG : getN 5 (x :: q) with
      | ok v n =>
        rw [hG] at hU
        dsimp only at hU
        have HG : Hid (getN 5 (x :: q) = .ok v n) := hG
        obtain ⟨_, _, _, n1a, n2a, _, hi6⟩ := getN_least hG
        rw [Hn1.out] at n2a
        by_cases hlt : lim < v
        · rw [if_pos hlt] at hU
          have HN : Hid (none = R) := by rw [← HR.out, ← hU]; exact rfl
          have kl : (lim : Int) < (v : Int) := by omega
          clear hU hG hlt
          go_wp2_with (first
            | (go_at_call 63; (with_reducible refine (r3GetInt_p (x :: q) T HT.out n1 Hn1.out (by omega) 5 (by omega) (by omega) 5 rfl _ HG.out _ rfl _).mono ?_); rintro e wq ⟨rfl, rfl⟩; unfold getV))
          go_ret2
          rw [← HN.out]
          exact ⟨rfl, S1.out.drop1⟩
        · rw [if_neg hlt] at hU
          have kl : ¬ (lim : Int) < (v : Int) := by omega
          have HU2 := Lib.hid hU
          have hc := clampI_nat v (by omega)
          obtain ⟨Y, hY⟩ : ∃ Y, ofB ((x :: q).drop n) = Y := ⟨_, rfl⟩
          have hext : T.extract n n1 = Y := by rw [← hY]; exact ofB_extract (x :: q) T HT.out n1 Hn1.out n
          have HY := Lib.hid hY
          have e3 : (n : Int) ≤ (n1 : Int) := by omega
          have Hc := Lib.hid hc
          have hv6 : v ≤ 65536 := by omega
          clear hU hG hY hc
          go_wp2_with (first
            | (go_at_call 63; (with_reducible refine (r3GetInt_p (x :: q) T HT.out n1 Hn1.out (by omega) 5 (by omega) (by omega) 5 rfl _ HG.out _ rfl _).mono ?_); rintro e wq ⟨rfl, rfl⟩; unfold getV)
            | (go_at_call 50; (obtain ⟨F4, t4, _, _, go⟩ := S1.out.focus1); (with_reducible refine (xrSetMax t4 (v : Int)).mono ?_); rintro e w4 ⟨G4, rfl, t5, hG4, f4⟩
               rw [Hc.out] at t5
               have S4 := Lib.hid (go _ _ [] (RX.st t5 hG4 f4))
               clear t4 go t5 hG4 f4))
          go_roundg (k1 + 1)
          case measure => omega
          case rel => exact ⟨k1, v, pre v lk, (x :: q).drop n, Y, rfl, rfl, HY.out, by rw [List.length_drop, Hn1.out]; omega, by rw [List.length_drop, Hn1.out]; omega, HU2.out, Hok.out.set_ v hv6, S4.out⟩
      | _ =>
        rw [hG] at hU
        dsimp only at hU
        have HN : Hid (none = R) := by rw [← HR.out, ← hU]; exact rfl
        have HG := Lib.hid hG
        clear hU hG
        go_wp2_with (first
          | (go_at_call 63; (with_reducible refine (r3GetInt_p (x :: q) T HT.out n1 Hn1.out (by omega) 5 (by omega) (by omega) 5 rfl _ HG.out _ rfl _).mono ?_); rintro e wq ⟨rfl, rfl⟩; unfold getV))
        go_ret2
        rw [← HN.out]
        exact ⟨rfl, S1.out.drop1⟩
    | false =>
      rw [updsD_done hu] at hU
      have hR2 := HR.out
      rw [← hU] at hR2
      dsimp only at hR2
      have hways : (n1 = 0) ∨ ∃ x q, ys = x :: q ∧ (x.toNat < 32 ∨ 64 ≤ x.toNat) := by
        rcases isUpd_false hu with rfl | h
        · exact .inl (by simpa using hn1.symm)
        · exact .inr h
      have HR2 := Lib.hid hR2
      have Hn1 := Lib.hid hn1
      clear hU hu hR2 HR HU hn1
      have hw3 : (¬ (0 : Int) < (n1 : Int)) ∨ (∃ (x : UInt8) (hk : 0 < T.size), T[0]'hk = x ∧ (0 : Int) < (n1 : Int) ∧ ¬ (32 : Int) ≤ (x.toNat : Int)) ∨ (∃ (x : UInt8) (hk : 0 < T.size), T[0]'hk = x ∧ (0 : Int) < (n1 : Int) ∧ (32 : Int) ≤ (x.toNat : Int) ∧ ¬ (x.toNat : Int) < 64) := by
        rcases hways with h0 | ⟨x, q, rfl, hx⟩
        · exact .inl (by omega)
        · obtain ⟨hk0, hs0⟩ := str_0 HT.out
          have : (0 : Int) < (n1 : Int) := by have := Hn1.out; simp at this; omega
          rcases hx with hx | hx
          · exact .inr (.inl ⟨x, hk0, hs0, this, by omega⟩)
          · exact .inr (.inr ⟨x, hk0, hs0, this, by omega, by omega⟩)
      clear hways
      go_upto_region 1 with (fail)
      go_cut [25] (fun s wx => s = .bool false ∧ wx = wr)
      case first =>
        rcases hw3 with hw | ⟨x, hk0, hs0, g1, g2⟩ | ⟨x, hk0, hs0, g1, g2, g3⟩
        all_goals
          go_wp2
          go_meet
          case rel => exact ⟨rfl, rfl⟩
      case rest =>
        obtain ⟨rfl, rfl⟩ := hcut
        clear hw3
        go_upto_region 7 with (fail)
        by_cases hlt : lim < hk
        · have hR3 := HR2.out
          rw [if_pos hlt] at hR3
          have HN : Hid (none = R) := hR3
          have kl : (lim : Int) < (hk : Int) := by omega
          clear hR3 hlt
          go_quiet (fail)
          have SQ := Lib.hid (S1.out.drewN nq)
          clear S1
          go_wp2
          go_ret2
          rw [← HN.out]
          exact ⟨rfl, SQ.out.drop1⟩
        · have hR3 := HR2.out
          rw [if_neg hlt] at hR3
          have HR3 : Hid ((manyD statL hk ys.length lk ys).map (fun z => ([] ++ z.1, hk, z.2)) = R) := hR3
          have kl : ¬ (lim : Int) < (hk : Int) := by omega
          clear hR3 hlt HR2
          go_quiet (fail)
          have SQ : Hid (St F w ((wc.drewN nq).alloc (.cells #[] 38)) [BLo p 56 (decCells r (lim : Int) list bk), RXo r hk lk, FSo w.heap.size (some ⟨(wc.drewN nq).heap.size, 0, none⟩) 0 0 []]) := st_emptyS (S1.out.drewN nq)
          clear S1 y0 y1 yh
          go_wp2
          go_loopg [1, 9] (ys.length + 1) (fun gh b u w' => ∃ (k : Nat) (lk : List Fld) (zs : List UInt8) (T : ByteArray) (fk : List Fld) (A : Option Addr) (nk c : Nat), gh = k + 1 ∧ b = .string T ∧ u = .slice A nk c ∧ ofB zs = T ∧ zs.length ≤ k ∧ zs.length + nk ≤ 300 ∧ (manyD statL hk k lk zs).map (fun z => (fk ++ z.1, hk, z.2)) = R ∧ fk.length = nk ∧ Ok statL hk lk ∧ St F w w' [BLo p 56 (decCells r (lim : Int) list bk), RXo r hk lk, FSo w.heap.size A c nk fk])
          case atStart => exact ⟨ys.length, lk, ys, T, [], _, 0, 0, rfl, rfl, rfl, HT.out, Nat.le_refl _, by omega, HR3.out, rfl, Hok.out, SQ.out⟩
          case round =>
            obtain ⟨k, lk, zs, T, fk, A, nk, c, hgk, rfl, rfl, hT, hzs, hz3, e1, hfk, hok, s⟩ := hrel
            obtain ⟨n2, hn2⟩ : ∃ n2, zs.length = n2 := ⟨_, rfl⟩
            have hTs : T.size = n2 := by rw [← hT, ofB_size, hn2]
            have HT := Lib.hid hT
            have S2 := Lib.hid s
            have Hok := Lib.hid hok
            have Hfk := Lib.hid hfk
            have Hn2 := Lib.hid hn2
            clear s hT hok hfk SQ HR3
            cases zs with
            | nil =>
              obtain rfl : 0 = n2 := hn2
              have e2 : some (fk, hk, lk) = R := by
                rw [← e1]
                cases k <;> simp [manyD]
              have E2 := Lib.hid e2
              clear e1 e2
              go_wp2
              go_ret2
              rw [← E2.out]
              exact ⟨A, nk, c, rfl, Hfk.out, Hok.out, S2.out⟩
            | cons x q =>
              have g1 : (0 : Int) < (n2 : Int) := by simp at hn2; omega
              obtain ⟨k1, rfl⟩ : ∃ k1, k = k1 + 1 := ⟨k - 1, by simp at hzs; omega⟩
              rw [manyD_step (by simp)] at e1
              obtain ⟨O, hO⟩ : ∃ O, oneD statL hk lk (x :: q) = O := ⟨_, rfl⟩
              rw [hO] at e1
              have HO := Lib.hid hO
              have hn3 : n2 ≤ 1000 := by omega
              cases O with
              | none =>
                have E1 : Hid (none = R) := e1
                clear e1 hO hn2
                go_wp2_with (first
                  | (go_at_call 64; (obtain ⟨F4, t4, _⟩ := S2.out.focus1); (with_reducible refine (r5oneD_c t4 S2.out.blk0 x q T HT.out n2 Hn2.out hn3 Hok.out none HO.out).mono ?_); rintro e w5 ⟨fa, fb, fc, m5, rfl, hb⟩
                     have S5 := Lib.hid (S2.out.next hb)
                     clear hb t4))
                go_ret2
                rw [← E1.out]
                exact ⟨rfl, (S5.out.alloc _).drop2.drop1⟩
              | some z =>
                obtain ⟨f, n, l2⟩ := z
                obtain ⟨g3, g2, g4⟩ := manyD_len1 hO Hok.out hzs
                have e2 : (manyD statL hk k1 l2 ((x :: q).drop n)).map (fun z => ((fk ++ [f]) ++ z.1, hk, z.2)) = R := by
                  rw [← e1]
                  dsimp only
                  cases manyD statL hk k1 l2 ((x :: q).drop n) <;> simp
                have hn1 : 1 ≤ n := (oneD_len Hok.out statL_sz hO).1
                have hnk2 : ((x :: q).drop n).length + (nk + 1) ≤ 300 := by rw [List.length_drop]; omega
                rw [hn2] at g4
                obtain ⟨Y, hY⟩ : ∃ Y, ofB ((x :: q).drop n) = Y := ⟨_, rfl⟩
                have hext : T.extract n n2 = Y := by rw [← hY]; exact ofB_extract (x :: q) T HT.out n2 Hn2.out n
                have HY := Lib.hid hY
                have e3 : (n : Int) ≤ (n2 : Int) := by omega
                have E2 := Lib.hid e2
                have G2 := Lib.hid g2
                have hnk3 : nk ≤ 300 := by omega
                clear e1 e2 hO g2 hn2 hY
                obtain ⟨fn, fv, fnv⟩ := f
                go_wp2_with (first
                  | (go_at_call 64; (obtain ⟨F4, t4, _, _, go⟩ := S2.out.focus1); (with_reducible refine (r5oneD_c t4 S2.out.blk0 x q T HT.out n2 Hn2.out hn3 Hok.out _ HO.out).mono ?_); rintro e w5 ⟨rfl, s5⟩
                     have S5 : Hid (St F w w5 [BLo p 56 (decCells r (lim : Int) list bk), RXo r hk l2, FSo w.heap.size A c nk fk]) := go _ _ [] s5
                     have S6 := Lib.hid ((S5.out.alloc (.cells #[.string fn, .string fv, .bool fnv] 38)).alloc (.cells #[.string fn, .string fv, .bool fnv] 38))
                     have x6 : (Blk ((w5.alloc (.cells #[.string fn, .string fv, .bool fnv] 38)).alloc (.cells #[.string fn, .string fv, .bool fnv] 38)) (w5.heap.size + 1) 38 [.string fn, .string fv, .bool fnv]) := by
                       have := Blk.new (w5.alloc (.cells #[.string fn, .string fv, .bool fnv] 38)) 38 [.string fn, .string fv, .bool fnv]
                       simpa using this
                     have X6 := Lib.hid x6
                     clear t4 go s5 x6)
                  | (at_builtin
                     refine wpList_append_rd rfl (.tmp 76) (.tmp 78) 28 rfl EF (.slice A nk c) nk (fcellsL fk) rfl S6.out.own2 (some ⟨w5.heap.size + 1, 0, none⟩) 1 1 (fcellsL [⟨fn, fv, fnv⟩]) rfl (rd_one (f := ⟨fn, fv, fnv⟩) X6.out) (fcells_one _) (by omega) (by unfold maxLen; omega) S6.out.size ?_
                     intro A7 c7 w7 ho7 hf7 h27
                     rw [← fcellsL_append] at ho7
                     have s7 := S6.out.appended2 ho7 hf7 h27
                     have S7 : Hid (St F w w7 [BLo p 56 (decCells r (lim : Int) list bk), RXo r hk l2, FSo w.heap.size A7 c7 (nk + 1) (fk ++ [⟨fn, fv, fnv⟩])]) := s7
                     clear ho7 hf7 h27 s7))
                go_roundg (k1 + 1)
                case measure => omega
                case rel => exact ⟨k1, l2, (x :: q).drop n, Y, fk ++ [⟨fn, fv, fnv⟩], A7, nk + 1, c7, rfl, rfl, rfl, HY.out, g3, hnk2, E2.out, by rw [List.length_append, Hfk.out]; rfl, G2.out, S7.out⟩
end
end Go.Proofs.YtinieljgcenemaaDoor
