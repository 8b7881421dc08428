/- HpackLong, the walk: whatever the fields and the list, true. -/
import Derived.Test.YtinieljgcenemaaDoorG8
namespace Go.Proofs.YtinieljgcenemaaDoor
open Go.RowKit Go.Own Go.Tbl Go.Huf Go.Hin
set_option linter.unusedVariables false
set_option maxRecDepth 100000
attribute [local go_sem ↓] Go.wp_at_zero Go.wp_at_succ

theorem szs_leL {M : Nat} : ∀ (fs : List Fld), (∀ f ∈ fs, f.n.size ≤ M ∧ f.v.size ≤ M) → szs fs ≤ fs.length * (2 * M + 32)
  | [], _ => by simp [szs]
  | f :: r, h => by
    have h1 := h f (List.mem_cons_self ..)
    have h2 := szs_leL r (fun g hg => h g (List.mem_cons_of_mem _ hg))
    have h3 : sz f = f.n.size + f.v.size + 32 := rfl
    rw [szs, List.length_cons, Nat.add_mul]
    omega
/-- a block that is written is read, one after the other -/
theorem block_read {h : Nat} {l fs : List Fld} (ok : Ok statL h l) (hs : ∀ f ∈ fs, f.n.size ≤ 400 ∧ f.v.size ≤ 400) (hl : fs.length ≤ 20) : ∃ X l', blockE statL h l none fs = (X, h, l') ∧ blockD statL h h l X = some (fs, h, l') ∧ Ok statL h l' ∧ X.length ≤ 1048576 := by
  refine ⟨(manyE statL h l fs).1, (manyE statL h l fs).2, ?_, ?_, Ok.many _ _ ok, ?_⟩
  · rw [blockE, updsE]; dsimp only; rw [List.nil_append]
  · have := blockD_blockE (limit := h) (p := none) (fs := fs) ok (fun f hf => by have := hs f hf; omega) (Nat.le_refl h)
    rw [blockE, updsE] at this
    dsimp only at this
    rw [List.nil_append] at this
    exact this
  · have := manyE_len (M := 400) (by omega) fs l ok hs
    omega
set_option maxHeartbeats 8000000 in
theorem lawLong {w : World} (m : Int) (hm : i64 m) {A1 : Option Addr} {n1 c1 : Nat} {la : List Fld} (ha : FldsIn w A1 n1 c1 la) (list : Int) (hlist : i64 list) (hC : Cnt w) :
    Calls Tryd.prog 8 #[.int .i64 m, .slice A1 n1 c1, .int .i64 list] w fun e w' => e = .returned (.bool true) ∧ Below w.heap.size w w' := by
  obtain ⟨h, hh⟩ : ∃ h, clampI m = h := ⟨_, rfl⟩
  have hh2 : h ≤ 65536 := hh ▸ clampI_le m
  have hOk := ok_new h hh2
  obtain ⟨fs, hfs⟩ : ∃ fs, smallL la = fs := ⟨_, rfl⟩
  have hsz := smallL_sz la
  have hln := smallL_len la
  rw [hfs] at hsz hln
  have hsl : szs fs ≤ 16640 := by
    have := szs_leL fs hsz
    omega
  obtain ⟨sm, hsm⟩ : ∃ sm, szs fs = sm := ⟨_, rfl⟩
  have hbig : ∀ f ∈ fs, f.n.size ≤ 16777216 ∧ f.v.size ≤ 16777216 := fun f hf => by have := hsz f hf; omega
  rw [hsm] at hsl
  have Ha := Lib.hid ha
  have HC := Lib.hid hC
  have Hm := Lib.hid hm
  have Hh := Lib.hid hh
  have Hfs := Lib.hid hfs
  have Hsm := Lib.hid hsm
  have Hsz := Lib.hid hsz
  have Hbig := Lib.hid hbig
  have HOk := Lib.hid hOk
  clear ha hC hm hh hfs hsm hbig hOk hsz
  go_enter Tryd.func8, Tryd.ntmps8
  go_wp2_with (first
    | (go_at_call 12; (with_reducible refine (shown5 _ HC.out).mono ?_); rintro e w1 ⟨rfl, hb1⟩
       have S1 : Hid (St NoS w w1 []) := (St.nil NoS w).next hb1
       clear hb1)
    | (go_at_call 13; (with_reducible refine (lNewE S1.out m Hm.out h Hh.out).mono ?_); rintro e w2 ⟨p, rfl, s2⟩
       have S2 : Hid (St NoS w w2 [PEo p h [] none]) := s2
       clear s2)
    | (go_at_call 25; (with_reducible refine (lNewD S3.out m Hm.out 1099511627776 h Hh.out).mono ?_); rintro e w4 ⟨v, rfl, s4⟩
       have S4 : Hid (St NoS w w4 [PEo p h [] none, PDo d h list (some (h, [])), PDo v h 1099511627776 (some (h, []))]) := s4
       clear s4)
    | (go_at_call 25; (with_reducible refine (lNewD S2.out m Hm.out list h Hh.out).mono ?_); rintro e w3 ⟨d, rfl, s3⟩
       have S3 : Hid (St NoS w w3 [PEo p h [] none, PDo d h list (some (h, []))]) := s3
       clear s3)
    | (go_at_call 17; (with_reducible refine (lSmall S4.out Ha.out.rd Ha.out.len (Nat.le_trans Ha.out.nc Ha.out.cm) Ha.out.ok).mono ?_); rintro e w5 ⟨A5, m5, c5, rfl, hm5, s5⟩
       have s6 : St NoS w w5 [PEo p h [] none, PDo d h list (some (h, [])), PDo v h 1099511627776 (some (h, [])), FSo w.heap.size A5 c5 m5 (smallL la)] := s5
       rw [Hfs.out] at s6 hm5
       have hm5l : m5 ≤ 20 := by omega
       have M5 := Lib.hid hm5
       have S5 := Lib.hid s6
       clear s5 s6 hm5))
  go_loopg [12, 11] m5 (fun gh i u w' => ∃ k : Nat, gh + k = m5 ∧ i = .int .i64 (k : Int) ∧ u = .int .i64 ((szs (fs.take k) : Nat) : Int) ∧ St NoS w w' [PEo p h [] none, PDo d h list (some (h, [])), PDo v h 1099511627776 (some (h, [])), FSo w.heap.size A5 c5 m5 fs])
  case atStart => exact ⟨0, by omega, rfl, by simp [szs], S5.out⟩
  case round =>
    obtain ⟨k, hk, rfl, rfl, s⟩ := hrel
    cases gk with
    | succ g1 =>
      have hkn : k < m5 := by omega
      obtain ⟨f, hf⟩ : ∃ f, fs[k]? = some f := ⟨_, List.getElem?_eq_getElem (by rw [M5.out]; exact hkn)⟩
      have hst := szs_take_succ fs k f hf
      have hle := szs_take_le fs (k + 1)
      rw [Hsm.out] at hle
      obtain ⟨hf1, hf2⟩ := Hsz.out f (List.mem_of_getElem? hf)
      obtain ⟨bb, oo, hA, d0, d1, d2⟩ := rd_fld (Rd.of_own s.own3) hf
      obtain ⟨M, hM⟩ : ∃ M, sz f = M := ⟨_, rfl⟩
      rw [hM] at hst
      have HM : Hid (f.n.size + f.v.size + 32 = M) := hM
      obtain ⟨S1', hS1⟩ : ∃ S1, szs (fs.take k) = S1 := ⟨_, rfl⟩
      rw [hS1] at hst
      rw [hS1]
      rw [hst] at hle
      have Hst := Lib.hid hst
      have k1 : (k : Int) < (m5 : Int) := by omega
      have hw : IntKind.i64.wrap ((S1' : Int) + (M : Int)) = ((S1' + M : Nat) : Int) := by rw [IntKind.wrap_i64]; omega
      have g1' : f.n.size ≤ 140737488355328 := by omega
      have g2' : f.v.size ≤ 140737488355328 := by omega
      have S6 := Lib.hid s
      cases hA
      clear s hf hst hM hS1 hf1 hf2
      obtain ⟨n0, v0, nv0⟩ := f
      go_wp2_with (first
        | (go_at_call 33; (with_reducible refine (rFSize_c n0 v0 nv0 g1' g2' M HM.out _).mono ?_); rintro e w7 ⟨rfl, hb⟩
           have S7 := Lib.hid (S6.out.next hb)
           clear hb))
      go_roundg g1
      case measure => omega
      case rel => exact ⟨k + 1, by omega, by go_num, by rw [Hst.out]; first | rfl | go_num, S7.out⟩
    | zero =>
      obtain rfl : k = m5 := by omega
      have e : Hid (szs (fs.take k) = sm) := by rw [← Hsm.out, List.take_of_length_le (by rw [M5.out]; exact Nat.le_refl _)]; exact rfl
      rw [e.out]
      have S6 := Lib.hid s
      clear s S5
      go_wp2
      go_loopg [13] 2 (fun gh i w' => ∃ (j : Nat) (lk : List Fld), gh + j = 2 ∧ i = .int .i64 (j : Int) ∧ Ok statL h lk ∧ St NoS w w' [PEo p h lk none, PDo d h list (some (h, lk)), PDo v h 1099511627776 (some (h, lk)), FSo w.heap.size A5 c5 k fs])
      case atStart => exact ⟨0, [], by omega, rfl, HOk.out, S6.out⟩
      case round =>
        obtain ⟨j, lk, hj, rfl, hok, s⟩ := hrel
        cases gk with
        | succ g1 =>
          obtain ⟨X, l', e1, hd, hok', b1⟩ := block_read hok Hsz.out hln
          obtain ⟨N1, hN1⟩ : ∃ N1, X.length = N1 := ⟨_, rfl⟩
          rw [hN1] at b1
          have hR2 : decR h 1099511627776 (some (h, lk)) X = (fs, 0, some (h, l')) := by
            simp only [decR, hd]
            rw [if_neg (by rw [Hsm.out]; omega)]
          obtain ⟨fs1, er, m1, hR1, hm1, hcs⟩ : ∃ fs1 er m1, decR h list (some (h, lk)) X = (fs1, er, some (h, l')) ∧ fs1.length = m1 ∧ ((list < (sm : Int) ∧ er = 4 ∧ m1 = 0) ∨ (¬ list < (sm : Int) ∧ er = 0)) := by
            by_cases hc : list < (sm : Int)
            · exact ⟨[], 4, 0, by simp only [decR, hd]; rw [if_pos (by rw [Hsm.out]; exact hc)], rfl, .inl ⟨hc, rfl, rfl⟩⟩
            · exact ⟨fs, 0, _, by simp only [decR, hd]; rw [if_neg (by rw [Hsm.out]; exact hc)], rfl, .inr ⟨hc, rfl⟩⟩
          obtain ⟨z, hz⟩ : ∃ z, szs l' = z := ⟨_, rfl⟩
          have E1 := Lib.hid e1
          have HN1 := Lib.hid hN1
          have R1 := Lib.hid hR1
          have R2 := Lib.hid hR2
          have M1 := Lib.hid hm1
          have HZ := Lib.hid hz
          have Hok' := Lib.hid hok'
          have S8 := Lib.hid s
          have k2 : (j : Int) < 2 := by omega
          clear e1 hN1 hR1 hR2 hm1 hz hok' s hd hok S6
          rcases hcs with ⟨hc, rfl, rfl⟩ | ⟨hc, rfl⟩
          · have kb : decide (list < (sm : Int)) = true := decide_eq_true hc
            go_wp2_with (first
              | (go_at_call 29; (with_reducible refine (lDecode2 Sa.out HC.out (List.Mem.tail _ (List.Mem.tail _ (List.Mem.tail _ (List.Mem.head _)))) (by omega) _ _ _ R2.out k M5.out).mono ?_); rintro e wb ⟨Ab, cb, rfl, sb⟩
                 have Sb : Hid (St NoS w wb [PEo p h l' none, PDo d h list (some (h, l')), PDo v h 1099511627776 (some (h, l')), FSo w.heap.size A5 c5 k fs]) := ((sb.drop6).drop5).drop4
                 clear sb)
              | (go_at_call 29; (with_reducible refine (lDecode1 S9.out HC.out (List.Mem.tail _ (List.Mem.tail _ (List.Mem.tail _ (List.Mem.head _)))) (by omega) _ _ _ R1.out _ M1.out).mono ?_); rintro e wa ⟨Aa, ca, rfl, sa⟩
                 have Sa := Lib.hid sa
                 clear sa)
              | (go_at_call 18; (with_reducible refine (lEncode0 S8.out HC.out (List.Mem.tail _ (List.Mem.tail _ (List.Mem.head _))) M5.out (by omega) Hbig.out X h l' E1.out N1 HN1.out (by omega)).mono ?_); rintro e w9 ⟨A9, c9, rfl, s9⟩
                 have S9 := Lib.hid s9
                 clear s9))
            go_quiet (first
              | (go_at_call 21; exact Calls.quiet_of_same (lSizeD1 (Sb.out.drewN _) z HZ.out))
              | (go_at_call 21; exact Calls.quiet_of_same (lSizeD2 (Sb.out.drewN _) z HZ.out))
              | (go_at_call 23; exact Calls.quiet_of_same (lMaxD1 (Sb.out.drewN _)))
              | (go_at_call 23; exact Calls.quiet_of_same (lMaxD2 (Sb.out.drewN _))))
            have Sc := Lib.hid (Sb.out.drewN nq)
            clear S8 S9 Sa Sb
            try simp only [Exit.then]
            try refine ‹∀ (a : Act) (w : World), Code.wp Tryd.prog (Code.cond _ _ _) _ a w → _› _ _ ?_
            try simp [Act.put, List.getElem_toArray]
            go_wp2
            go_roundg g1
            case measure => omega
            case rel => exact ⟨j + 1, l', by omega, by go_num, Hok'.out, Sc.out⟩
          · have kb : decide (list < (sm : Int)) = false := decide_eq_false hc
            go_wp2_with (first
              | (go_at_call 29; (with_reducible refine (lDecode2 Sa.out HC.out (List.Mem.tail _ (List.Mem.tail _ (List.Mem.tail _ (List.Mem.head _)))) (by omega) _ _ _ R2.out k M5.out).mono ?_); rintro e wb ⟨Ab, cb, rfl, sb⟩
                 have Sb : Hid (St NoS w wb [PEo p h l' none, PDo d h list (some (h, l')), PDo v h 1099511627776 (some (h, l')), FSo w.heap.size A5 c5 k fs]) := ((sb.drop6).drop5).drop4
                 clear sb)
              | (go_at_call 29; (with_reducible refine (lDecode1 S9.out HC.out (List.Mem.tail _ (List.Mem.tail _ (List.Mem.tail _ (List.Mem.head _)))) (by omega) _ _ _ R1.out _ M1.out).mono ?_); rintro e wa ⟨Aa, ca, rfl, sa⟩
                 have Sa := Lib.hid sa
                 clear sa)
              | (go_at_call 18; (with_reducible refine (lEncode0 S8.out HC.out (List.Mem.tail _ (List.Mem.tail _ (List.Mem.head _))) M5.out (by omega) Hbig.out X h l' E1.out N1 HN1.out (by omega)).mono ?_); rintro e w9 ⟨A9, c9, rfl, s9⟩
                 have S9 := Lib.hid s9
                 clear s9))
            go_quiet (first
              | (go_at_call 21; exact Calls.quiet_of_same (lSizeD1 (Sb.out.drewN _) z HZ.out))
              | (go_at_call 21; exact Calls.quiet_of_same (lSizeD2 (Sb.out.drewN _) z HZ.out))
              | (go_at_call 23; exact Calls.quiet_of_same (lMaxD1 (Sb.out.drewN _)))
              | (go_at_call 23; exact Calls.quiet_of_same (lMaxD2 (Sb.out.drewN _))))
            have Sc := Lib.hid (Sb.out.drewN nq)
            clear S8 S9 Sa Sb
            try simp only [Exit.then]
            try refine ‹∀ (a : Act) (w : World), Code.wp Tryd.prog (Code.cond _ _ _) _ a w → _› _ _ ?_
            try simp [Act.put, List.getElem_toArray]
            go_wp2
            go_roundg g1
            case measure => omega
            case rel => exact ⟨j + 1, l', by omega, by go_num, Hok'.out, Sc.out⟩
        | zero =>
          obtain rfl : j = 2 := by omega
          have S9 := Lib.hid s
          clear s S6
          go_wp2
          go_ret
          exact ⟨rfl, S9.out.below⟩
end Go.Proofs.YtinieljgcenemaaDoor
