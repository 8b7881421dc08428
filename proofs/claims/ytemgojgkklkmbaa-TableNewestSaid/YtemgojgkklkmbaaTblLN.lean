/- TableNewest, the walk. -/
import Derived.Test.YtemgojgkklkmbaaTblLH
namespace Go.Proofs.Ytemgojgkklkmbaa
open Go.RowKit Go.Own Go.Tbl
set_option linter.unusedVariables false
attribute [local go_sem ↓] Go.wp_at_zero Go.wp_at_succ

/-- a variable of the law's, ahead of the block B, was written: the base is the world behind -/
theorem TA.rebase {B : Nat} {w0 w w' : World} {p h : Nat} {l al : List Fld} {v : Value} {S : Nat → Prop} (t : TA B w0 w p h l v al) (hf : Fr S w w') (hS : ∀ i, S i → i < B) : TA B w' w' p h l v al := by
  obtain ⟨F, ht, hF⟩ := t.tab
  exact ⟨⟨F, ht.fr hf (fun i hi e => by have := (hF i hi).1; have := hS i e; omega), hF⟩, own_fr t.own hf (fun g hg e => by have := (t.own.lt g hg).1; have := hS g e; omega), Below.refl _ _, Nat.le_trans t.size hf.size⟩
set_option maxRecDepth 100000 in
set_option maxHeartbeats 8000000 in
theorem lawNewest {w : World} (m : Int) (hm : i64 m) {A : Option Addr} {n c : Nat} {l : List Fld} (s : FldsIn w A n c l) (f : Fld) (hf : fok f) :
    Calls Try.prog 6 #[.int .i64 m, .slice A n c, .agg #[.string f.n, .string f.v, .bool f.nv]] w fun e w' => e = .returned (.bool true) ∧ Below w.heap.size w w' := by
  obtain ⟨h, hh⟩ : ∃ h, clampI m = h := ⟨_, rfl⟩
  have Hh := Lib.hid hh
  have Hs := Lib.hid s
  have hc63 := s.cm
  have hnc := s.nc
  have Hf := Lib.hid hf
  clear hh s hf
  go_enter Try.func6, Try.ntmps6
  go_wp2_with (first
    | (go_at_call 9; (with_reducible refine (shown4 _).mono ?_); rintro e w1 ⟨rfl, b1⟩
       have B1 := Lib.hid (((Below.refl w.heap.size w).alloc (Nat.le_refl _) _).trans (b1.mono (by simp)))
       have V1 := Lib.hid ((Blk.new w 23 [.string f.n, .string f.v, .bool f.nv]).below b1 (by simp))
       have hw1 : w.heap.size < w1.heap.size := by have := b1.size; simp at this; omega
       clear b1)
    | (go_at_call 14; (with_reducible refine (bNew (B := w1.heap.size) (w0 := w1) m hm (Nat.le_refl _) (Below.refl _ _)).mono ?_); rintro e w2 ⟨p, rfl, t2⟩; rw [Hh.out] at t2; have T2 := Lib.hid t2; clear t2))
  obtain ⟨M, hM⟩ : ∃ M, min n 60 = M := ⟨_, rfl⟩
  have hM1 : M ≤ n := by omega
  have hM2 : M ≤ 60 := by omega
  have HM := Lib.hid hM
  clear hM
  go_loopg [9] M (fun gh i w' => ∃ (k : Nat) (L : List Fld), gh + k = M ∧ i = .int .i64 (k : Int) ∧ L.length ≤ k ∧ PB w1.heap.size w1 w' p h L)
  case atStart => exact ⟨0, [], by omega, rfl, by simp, T2.out⟩
  case round =>
    obtain ⟨k, L, hk, rfl, hLk, ht⟩ := hrel
    have HT := Lib.hid ht
    have hbel := B1.out.trans (ht.below.mono B1.out.size)
    have S2 := Lib.hid (Hs.out.rd.below hbel)
    have HLk := Lib.hid hLk
    clear hbel ht hLk
    cases gk with
    | succ g1 =>
      have hkn : k < n := by omega
      obtain ⟨x, hx⟩ : ∃ x, l[k]? = some x := ⟨_, List.getElem?_eq_getElem (by rw [Hs.out.len]; exact hkn)⟩
      obtain ⟨b, o, rfl, d0, d1, d2⟩ := rd_fld S2.out hx
      have hxo := Hs.out.ok x (List.mem_of_getElem? hx)
      have HXo := Lib.hid hxo
      have k1 : (k : Int) < (n : Int) := by omega
      have k2 : (k : Int) < 60 := by omega
      have k3 : decide (k < n) = true := decide_eq_true hkn
      clear hx hxo
      go_wp2_with (first
        | (go_at_call 17; (with_reducible refine (bAdd HT.out x HXo.out _ rfl).mono ?_); rintro e w3 ⟨rfl, t3⟩; have T3 := Lib.hid t3; clear t3))
      go_roundg g1
      case measure => omega
      case rel => exact ⟨k + 1, _, by omega, by go_num, by have := addF_len h x L; have := HLk.out; omega, T3.out⟩
    | zero =>
      obtain rfl : k = M := by omega
      obtain ⟨q, hq⟩ : ∃ q, L.length = q := ⟨_, rfl⟩
      have hq60 : q ≤ 60 := by have := HLk.out; omega
      have Hq := Lib.hid hq
      have hcase : (decide (k < n) = false) ∨ ((k : Int) < (n : Int) ∧ ¬ (k : Int) < 60 ∧ decide (k < n) = true) := by
        have := HM.out
        by_cases h1 : k < n
        · exact .inr ⟨by omega, by omega, decide_eq_true h1⟩
        · exact .inl (decide_eq_false h1)
      clear hq
      go_upto_region 6 with (fail)
      go_cut [32] (fun s wx => s = .bool false ∧ wx = wr)
      case first =>
        rcases hcase with hk1 | ⟨hk1, hk2, hk3⟩
        all_goals
          go_wp2
          go_meet
          case rel => exact ⟨rfl, rfl⟩
      case rest =>
        obtain ⟨rfl, rfl⟩ := hcut
        clear hcase
        have T4 := Lib.hid (TA.of HT.out)
        have hLok := T4.out.ok
        have HLok := Lib.hid hLok
        clear hLok
        go_wp2
        go_loopg [11, 10, 12, 13] q (fun gh i a12 x14 x15 w' => ∃ (k2 : Nat) (A' : Option Addr) (c' : Nat), gh + k2 = q ∧ i = .int .i64 (k2 : Int) ∧ a12 = .slice A' k2 c' ∧ TA w1.heap.size w1 w' p h L (.slice A' k2 c') (L.take k2))
        case atStart => exact ⟨0, none, 0, by omega, rfl, rfl, by simpa using T4.out⟩
        case round =>
          obtain ⟨k2, A', c', hk2, rfl, rfl, ht⟩ := hrel
          have HT5 := Lib.hid ht
          clear ht
          cases gk with
          | succ g1 =>
            have hkq : k2 < q := by omega
            obtain ⟨y, hy⟩ : ∃ y, L[k2]? = some y := ⟨_, List.getElem?_eq_getElem (by rw [Hq.out]; exact hkq)⟩
            have hat := at_entry HLok.out hy
            have Hat := Lib.hid hat
            have hynv := (HLok.out y (List.mem_of_getElem? hy)).2
            have hsn : L.take k2 ++ [y] = L.take (k2 + 1) := take_snoc hy
            have Hsn := Lib.hid hsn
            have Hynv := Lib.hid hynv
            have htl : (L.take k2).length = k2 := by rw [List.length_take, Hq.out]; omega
            have Htl := Lib.hid htl
            have hji : i64 (62 + (k2 : Int)) := by unfold i64; omega
            have k3 : decide (k2 < q) = true := decide_eq_true hkq
            have k1 : (k2 : Int) < (q : Int) := by omega
            have k4 : (k2 : Int) < 100 := by omega
            clear hat hy hynv hsn htl
            go_wp2_with (first
              | (go_at_call 28; (with_reducible refine (tLen HT5.out q Hq.out).mono ?_); rintro e w7 ⟨rfl, rfl⟩)
              | (go_at_call 21; (with_reducible refine (tAt HT5.out (62 + (k2 : Int)) hji y.n y.v Hat.out).mono ?_); rintro e w8 ⟨rfl, t8, b8⟩
                 have T8 := Lib.hid ((t8.alloc (.cells #[.string y.n, .string y.v, .bool false] 23)).alloc (.cells #[.string y.n, .string y.v, .bool false] 23))
                 have hs3 : ((w8.alloc (.cells #[.string y.n, .string y.v, .bool false] 23)).alloc (.cells #[.string y.n, .string y.v, .bool false] 23)).heap.size = w8.heap.size + 1 + 1 := by simp
                 have Hs3 := Lib.hid hs3
                 have Y5 : Hid (Blk ((w8.alloc (.cells #[.string y.n, .string y.v, .bool false] 23)).alloc (.cells #[.string y.n, .string y.v, .bool false] 23)) (w8.heap.size + 1) 23 (fcells y.plain)) := by
                   have := Blk.new (w8.alloc (.cells #[.string y.n, .string y.v, .bool false] 23)) 23 (fcells y.plain)
                   rw [World.size_alloc] at this
                   exact this
                 have O5 := T8.out.own
                 rw [Htl.out] at O5
                 have HO5 := Lib.hid O5
                 have hBs : w1.heap.size ≤ w8.heap.size := t8.size
                 clear t8 hs3 O5 b8)
              | (at_builtin
                 refine wpList_append_rd rfl (.tmp 58) (.tmp 60) 25 rfl EF (.slice A' k2 c') k2 (fcellsL (L.take k2)) rfl HO5.out (some ⟨w8.heap.size + 1, 0, none⟩) 1 1 (fcellsL [y.plain]) rfl (blk_rd1 Y5.out) (fcells_one _) (by omega) (by unfold maxLen; omega) (by rw [Hs3.out]; omega) ?_
                 intro A6 c6 w6 ho6 hf6 hat6
                 have T6 := T8.out.push ho6 hf6 hat6
                 rw [plain_eq Hynv.out, Hsn.out] at T6
                 have T6 := Lib.hid T6
                 clear ho6 hf6 hat6))
            go_roundg g1
            case measure => omega
            case rel => exact ⟨k2 + 1, A6, c6, by omega, by go_num, rfl, T6.out⟩
          | zero =>
            obtain rfl : k2 = q := by omega
            have HT6 := HT5.out
            rw [List.take_of_length_le (by rw [Hq.out]; exact Nat.le_refl _)] at HT6
            have HT6 := Lib.hid HT6
            obtain ⟨N, hN⟩ : ∃ N, f.n.size + f.v.size + 32 = N := ⟨_, rfl⟩
            have HN := Lib.hid hN
            have hfn : f.n.size ≤ 140737488355328 := Hf.out.1
            have hfv : f.v.size ≤ 140737488355328 := Hf.out.2
            obtain ⟨L1, hL1⟩ : ∃ L1, addF h f L = L1 := ⟨_, rfl⟩
            have HL1 := Lib.hid hL1
            have V5 := Lib.hid (V1.out.below HT6.out.below hw1)
            have v0 := V5.out.cell 0
            have v1 := V5.out.cell 1
            have v2 := V5.out.cell 2
            simp only [List.getElem?_cons_zero, List.getElem?_cons_succ] at v0 v1 v2
            have hLen : decide (k2 < k2) = false := by simp
            have htop := T4.out.top
            clear hN hL1 HT5 T4
            go_upto_region 17 with (first
              | (go_at_call 28; (with_reducible refine (tLen HT6.out k2 Hq.out).mono ?_); rintro e w7 ⟨rfl, rfl⟩)
              | (go_at_call 17; (with_reducible refine (tAdd HT6.out f Hf.out L1 HL1.out).mono ?_); rintro e w7 ⟨rfl, t7⟩
                 have T7 := Lib.hid t7
                 have V7 := Lib.hid (V1.out.below t7.below hw1)
                 have u0 := V7.out.cell 0
                 have u1 := V7.out.cell 1
                 have u2 := V7.out.cell 2
                 have z2 := V7.out.frozen 2
                 simp only [List.getElem?_cons_zero, List.getElem?_cons_succ] at u0 u1 u2
                 clear t7))
            have T9 : Hid (TA w1.heap.size (w7.setCell ⟨w.heap.size, 2, none⟩ (.bool false)) (w7.setCell ⟨w.heap.size, 2, none⟩ (.bool false)) p h L1 (.slice A' k2 c') L) :=
              T7.out.rebase (S := (· = w.heap.size)) ((Fr.refl (· = w.heap.size) w7).setCell (p := ⟨w.heap.size, 2, none⟩) (.inl rfl) _) (fun i e => by omega)
            have V9 : Hid (Blk (w7.setCell ⟨w.heap.size, 2, none⟩ (.bool false)) w.heap.size 23 [.string f.n, .string f.v, .bool false]) := V7.out.set_ 2 (.bool false)
            have B9 : Hid (Below w.heap.size w (w7.setCell ⟨w.heap.size, 2, none⟩ (.bool false))) := (B1.out.trans (T7.out.below.mono (Nat.le_of_lt hw1))).setCell (p := ⟨w.heap.size, 2, none⟩) (Nat.le_refl _) _
            clear u0 u1 u2 z2 v0 v1 v2 T7 V7 HT6 V5
            generalize w7.setCell ⟨w.heap.size, 2, none⟩ (.bool false) = w9 at T9 V9 B9 ⊢
            have v0 := V9.out.cell 0
            have v1 := V9.out.cell 1
            have v2 := V9.out.cell 2
            simp only [List.getElem?_cons_zero, List.getElem?_cons_succ] at v0 v1 v2
            have hNs : sz f = N := HN.out
            by_cases hc : h < N
            · have hl : L1 = [] := by rw [← HL1.out, addF, if_neg (by rw [hNs]; omega)]
              subst hl
              have kb : decide (h < N) = true := decide_eq_true hc
              clear hNs
              go_wp2_with (first
                | (go_at_call 12; (with_reducible refine (pSize_n f.n f.v false hfn hfv N HN.out _).mono ?_); rintro e w10 ⟨rfl, b10⟩
                   have T10 := Lib.hid (T9.out.next b10)
                   clear b10)
                | (go_at_call 30; (with_reducible refine (tMax T10.out).mono ?_); rintro e w11 ⟨rfl, rfl⟩)
                | (go_at_call 28; (with_reducible refine (tLen T10.out 0 rfl).mono ?_); rintro e w11 ⟨rfl, rfl⟩)
                | (go_at_call 29; (with_reducible refine (tSize T10.out 0 rfl).mono ?_); rintro e w11 ⟨rfl, rfl⟩))
              go_ret
              exact ⟨rfl, B9.out.trans (T10.out.below.mono (Nat.le_of_lt hw1))⟩
            · have hl : L1 = f.plain :: pre (h - N) L := by rw [← HL1.out, addF, if_pos (by rw [hNs]; omega), hNs]
              obtain ⟨P, hP⟩ : ∃ P, (pre (h - N) L).length = P := ⟨_, rfl⟩
              have hPt : pre (h - N) L = L.take P := by rw [← hP]; exact pre_take _ _
              have hPq : P ≤ k2 := by rw [← hP, ← Hq.out]; exact pre_len _ _
              have hPm : ∀ g, L[P]? = some g → h < N + szs (L.take P) + sz g := fun g hg => by
                have := pre_more (h - N) L g (by rw [hP]; exact hg)
                rw [hPt] at this
                omega
              rw [hPt] at hl
              subst hl
              obtain ⟨T, hT⟩ : ∃ T, N + szs (L.take P) = T := ⟨_, rfl⟩
              have hsT : szs (f.plain :: L.take P) = T := by rw [szs, sz_plain, hNs, hT]
              have hTh : T ≤ h := by rw [← hsT]; exact T9.out.le
              have HPm := Lib.hid hPm
              have HT := Lib.hid hT
              have HsT := Lib.hid hsT
              have hlen : (f.plain :: L.take P).length = P + 1 := by rw [List.length_cons, List.length_take, Hq.out]; omega
              have Hlen := Lib.hid hlen
              have kb : decide (h < N) = false := by rw [decide_eq_false_iff_not]; exact hc
              have hat0 := at_entry (k := 0) (y := f.plain) T9.out.ok rfl
              have Hat0 : Hid (atL (statL ++ f.plain :: L.take P) 62 = some ⟨f.n, f.v, false⟩) := hat0
              have h62 : i64 62 := by unfold i64; omega
              have eP : ((P + 1 : Nat) : Int) - 1 = (P : Int) := by omega
              have hP0 : ¬ (P : Int) < 0 := by omega
              have kP0 : decide ((P : Int) < 0) = false := by rw [decide_eq_false_iff_not]; omega
              have kPq : decide (k2 < P) = false := by rw [decide_eq_false_iff_not]; omega
              clear hNs hP hPt hPm hT hsT hlen hat0
              go_wp2_with (first
                | (go_at_call 12; (with_reducible refine (pSize_n f.n f.v false hfn hfv N HN.out _).mono ?_); rintro e w10 ⟨rfl, b10⟩
                   have T10 := Lib.hid (T9.out.next b10)
                   have V10 := Lib.hid (V9.out.below b10 (Blk.lt V9.out))
                   clear b10)
                | (go_at_call 30; (with_reducible refine (tMax T10.out).mono ?_); rintro e w11 ⟨rfl, rfl⟩)
                | (go_at_call 21; (with_reducible refine (tAt T10.out 62 h62 f.n f.v Hat0.out).mono ?_); rintro e w12 ⟨rfl, t12, b12⟩
                   have T12 := Lib.hid (t12.alloc (.cells #[.string f.n, .string f.v, .bool false] 23))
                   have V12 := Lib.hid ((V10.out.below b12 (Blk.lt V10.out)))
                   have x0 := V12.out.cell 0
                   have x1 := V12.out.cell 1
                   have x2 := V12.out.cell 2
                   have hlt12 : w.heap.size < w12.heap.size := Blk.lt V12.out
                   simp only [List.getElem?_cons_zero, List.getElem?_cons_succ] at x0 x1 x2
                   clear t12 b12)
                | (go_at_call 28; (with_reducible refine (tLen T12.out (P + 1) Hlen.out).mono ?_); rintro e w13 ⟨rfl, rfl⟩))
              clear v0 v1 v2 x0 x1 x2
              go_loopg [17, 18, 19] P (fun gh vk x18 x19 w' => ∃ kk : Nat, gh + kk = P ∧ vk = .int .i64 (kk : Int) ∧ TA w1.heap.size w9 w' p h (f.plain :: L.take P) (.slice A' k2 c') L)
              case atStart => exact ⟨0, by omega, rfl, T12.out⟩
              case round =>
                obtain ⟨kk, hkk, rfl, ht⟩ := hrel
                have HT7 := Lib.hid ht
                clear ht
                cases gk with
                | succ g1 =>
                  have hkj : kk < P := by omega
                  have hkq2 : kk < k2 := by omega
                  obtain ⟨y, hy⟩ : ∃ y, L[kk]? = some y := ⟨_, List.getElem?_eq_getElem (by rw [Hq.out]; exact hkq2)⟩
                  have hynv := (HLok.out y (List.mem_of_getElem? hy)).2
                  have hyt : (f.plain :: L.take P)[kk + 1]? = some y := by rw [List.getElem?_cons_succ, List.getElem?_take_of_lt hkj]; exact hy
                  have hat := at_entry HT7.out.ok hyt
                  rw [show (62 : Int) + ((kk + 1 : Nat) : Int) = 63 + (kk : Int) by omega] at hat
                  have Hat := Lib.hid hat
                  have hji : i64 (63 + (kk : Int)) := by unfold i64; omega
                  have k3 : decide (kk < P) = true := decide_eq_true hkj
                  have k5 : (kk : Int) < (k2 : Int) := by omega
                  have k6 : decide (kk < k2) = true := decide_eq_true hkq2
                  have Hy := Lib.hid hy
                  have Hynv := Lib.hid hynv
                  clear hy hynv hyt hat
                  go_wp2_with (first
                    | (go_at_call 21; (with_reducible refine (tAt HT7.out (63 + (kk : Int)) hji y.n y.v Hat.out).mono ?_); rintro e w8 ⟨rfl, t8, b8⟩
                       have HT8 := Lib.hid (t8.alloc (.cells #[.string y.n, .string y.v, .bool false] 23))
                       clear t8 b8))
                  obtain ⟨b2, o2, ee, d0, d1, d2⟩ := rd_fld HT8.out.rd Hy.out
                  cases ee
                  rw [Hynv.out] at d2
                  have X8 := Blk.new w8 23 [.string y.n, .string y.v, .bool false]
                  have x0 := X8.cell 0
                  have x1 := X8.cell 1
                  have x2 := X8.cell 2
                  simp only [List.getElem?_cons_zero, List.getElem?_cons_succ] at x0 x1 x2
                  clear X8
                  generalize w8.heap.size = g8 at x0 x1 x2 ⊢
                  generalize w8.alloc (.cells #[.string y.n, .string y.v, .bool false] 23) = w9' at HT8 x0 x1 x2 d0 d1 d2 ⊢
                  go_quiet (fail)
                  go_wp2
                  go_roundg g1
                  case measure => omega
                  case rel => exact ⟨kk + 1, by omega, by go_num, HT8.out.drewN _⟩
                | zero =>
                  obtain rfl : kk = P := by omega
                  by_cases hPk : kk = k2
                  · subst hPk
                    go_wp2
                    go_quiet (fail)
                    go_wp2
                    go_ret
                    exact ⟨rfl, below_drewN (B9.out.trans (HT7.out.below.mono (Nat.le_of_lt hw1))) _⟩
                  · have hlt : kk < k2 := by omega
                    obtain ⟨y, hy⟩ : ∃ y, L[kk]? = some y := ⟨_, List.getElem?_eq_getElem (by rw [Hq.out]; exact hlt)⟩
                    have hynv := (HLok.out y (List.mem_of_getElem? hy)).2
                    obtain ⟨ho1, ho2⟩ := (HLok.out y (List.mem_of_getElem? hy)).1
                    obtain ⟨N2, hN2⟩ : ∃ N2, y.n.size + y.v.size + 32 = N2 := ⟨_, rfl⟩
                    have hNs2 : sz y = N2 := hN2
                    have hpm := HPm.out y hy
                    rw [HT.out, hNs2] at hpm
                    obtain ⟨U, hU⟩ : ∃ U, T + N2 = U := ⟨_, rfl⟩
                    have eU : (T : Int) + (N2 : Int) = (U : Int) := by omega
                    have eW : IntKind.i64.wrap (U : Int) = (U : Int) := by rw [IntKind.wrap_i64]; omega
                    have kU : decide (h < U) = true := by rw [decide_eq_true_iff]; omega
                    have kU2 : (h : Int) < (U : Int) := by omega
                    have hne : ((kk : Int) == (k2 : Int)) = false := by simp; omega
                    have hlti : (kk : Int) < (k2 : Int) := by omega
                    have HN2 := Lib.hid hN2
                    have Hy := Lib.hid hy
                    have Hynv := Lib.hid hynv
                    obtain ⟨b2, o2, ee, d0, d1, d2⟩ := rd_fld HT7.out.rd hy
                    cases ee
                    rw [hynv] at d2
                    have HT7d : Hid (TA w1.heap.size w9 wr.drew p h (f.plain :: L.take kk) (.slice (some ⟨b2, o2, none⟩) k2 c') L) := HT7.out.drewN 1
                    have c0 : wr.drew.cell? ⟨b2, o2 + kk * 3, none⟩ = some (.string y.n) := d0
                    have c1 : wr.drew.cell? ⟨b2, o2 + kk * 3 + 1, none⟩ = some (.string y.v) := d1
                    have c2 : wr.drew.cell? ⟨b2, o2 + kk * 3 + 2, none⟩ = some (.bool false) := d2
                    clear hy hynv hN2 hNs2 hpm hU hPk
                    go_wp2
                    go_region_held (fun w' => w'.cell? ⟨b2, o2 + kk * 3, none⟩ = some (.string y.n) ∧ w'.cell? ⟨b2, o2 + kk * 3 + 1, none⟩ = some (.string y.v) ∧ w'.cell? ⟨b2, o2 + kk * 3 + 2, none⟩ = some (.bool false))
                      (first | exact ⟨c0, c1, c2⟩ | exact ⟨e0, e1, e2⟩)
                      (first
                      | (go_at_call 29; (with_reducible refine (tSize HT7d.out T HsT.out).mono ?_); rintro e w11 ⟨rfl, rfl⟩)
                      | (go_at_call 12; (with_reducible refine (pSize_n y.n y.v false ho1 ho2 N2 HN2.out _).mono ?_); rintro e w12 ⟨rfl, b12⟩
                         have HT12 := Lib.hid (HT7d.out.next b12)
                         obtain ⟨b3, o3, ee, e0, e1, e2⟩ := rd_fld HT12.out.rd Hy.out
                         cases ee
                         rw [Hynv.out] at e2
                         clear b12)
                      | (go_at_call 30; (with_reducible refine (tMax HT12.out).mono ?_); rintro e w13 ⟨rfl, rfl⟩))
                    all_goals
                      go_wp2
                      go_ret
                      exact ⟨rfl, B9.out.trans (HT12.out.below.mono (Nat.le_of_lt hw1))⟩
end Go.Proofs.Ytemgojgkklkmbaa
