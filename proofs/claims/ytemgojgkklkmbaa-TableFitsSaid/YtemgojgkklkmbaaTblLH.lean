/- TableShrinks, the walk. -/
import Derived.Test.YtemgojgkklkmbaaTblLF
import Derived.Test.YtemgojgkklkmbaaTblLK
namespace Go.Proofs.Ytemgojgkklkmbaa
open Go.RowKit Go.Own Go.Tbl
set_option linter.unusedVariables false
attribute [local go_sem ↓] Go.wp_at_zero Go.wp_at_succ

theorem addF_len (h : Nat) (f : Fld) (l : List Fld) : (addF h f l).length ≤ l.length + 1 := by
  unfold addF
  split
  · rw [List.length_cons]; have := pre_len (h - sz f) l; omega
  · simp
theorem plain_eq {f : Fld} (h : f.nv = false) : f.plain = f := by
  cases f
  simp only at h
  subst h
  rfl
theorem take_snoc {α : Type} {L : List α} {k : Nat} {y : α} (hy : L[k]? = some y) : L.take k ++ [y] = L.take (k + 1) := by
  obtain ⟨hk, rfl⟩ := List.getElem?_eq_some_iff.1 hy
  exact (List.take_succ_eq_append_getElem hk).symm
theorem clampI_int (x : Int) : ((clampI x : Nat) : Int) = max 0 (min x 65536) := by
  unfold clampI
  split
  · omega
  · split <;> omega
/-- two new Max, one behind the other -/
theorem shr_two (a b : Int) (L : List Fld) (hL : szs L ≤ 65536) : pre (clampI b) (pre (clampI a) L) = shrL (min a b) L := by
  rw [pre_pre]
  have ha := clampI_int a
  have hb := clampI_int b
  obtain ⟨r, hr⟩ : ∃ r, min (clampI b) (clampI a) = r := ⟨_, rfl⟩
  rw [hr]
  unfold shrL
  split
  · by_cases h1 : min a b ≤ 65536
    · congr 1
      omega
    · rw [pre_all _ _ (by omega), pre_all _ _ (by omega)]
  · have : r = 0 := by omega
    rw [this]
    exact pre_zero L 0 (by omega)
theorem shrL_facts (m : Int) (L : List Fld) : ∃ P, shrL m L = L.take P ∧ P ≤ L.length ∧ (∀ j, j < P → ((szs (L.take (j + 1)) : Nat) : Int) ≤ m) ∧ (∀ f, L[P]? = some f → m < ((szs (L.take P) + sz f : Nat) : Int)) := by
  unfold shrL
  split
  · rename_i hm
    refine ⟨(pre m.toNat L).length, pre_take _ _, pre_len _ _, fun j hj => ?_, fun f hf => ?_⟩
    · have h1 := szs_take_mono L (j + 1) (pre m.toNat L).length hj
      rw [← pre_take] at h1
      have h2 := pre_le m.toNat L
      omega
    · have h1 := pre_more m.toNat L f hf
      rw [← pre_take]
      omega
  · rename_i hm
    refine ⟨0, by simp, by omega, fun j hj => by omega, fun f hf => ?_⟩
    have := sz_pos f
    omega
set_option maxRecDepth 100000 in
set_option maxHeartbeats 8000000 in
theorem lawShrinks {w : World} (m : Int) (hm : i64 m) {A : Option Addr} {n c : Nat} {l : List Fld} (s : FldsIn w A n c l) (ra : Int) (hra : i64 ra) (rb : Int) (hrb : i64 rb) :
    Calls Try.prog 8 #[.int .i64 m, .slice A n c, .int .i64 ra, .int .i64 rb] w fun e w' => e = .returned (.bool true) ∧ Below w.heap.size w w' := by
  obtain ⟨h, hh⟩ : ∃ h, clampI m = h := ⟨_, rfl⟩
  have Hh := Lib.hid hh
  have Hs := Lib.hid s
  have hc63 := s.cm
  have hnc := s.nc
  clear hh s
  go_enter Try.func8, Try.ntmps8
  go_wp2_with (first
    | (go_at_call 9; (with_reducible refine (shown4 _).mono ?_); rintro e w1 ⟨rfl, b1⟩
       have B1 := Lib.hid b1
       clear b1)
    | (go_at_call 14; (with_reducible refine (bNew (B := w1.heap.size) (w0 := w1) m hm (Nat.le_refl _) (Below.refl _ _)).mono ?_); rintro e w2 ⟨p, rfl, t2⟩; rw [Hh.out] at t2; have T2 := Lib.hid t2; clear t2))
  obtain ⟨M, hM⟩ : ∃ M, min n 60 = M := ⟨_, rfl⟩
  have hM1 : M ≤ n := by omega
  have hM2 : M ≤ 60 := by omega
  have HM := Lib.hid hM
  clear hM
  go_loopg [11] M (fun gh i w' => ∃ (k : Nat) (L : List Fld), gh + k = M ∧ i = .int .i64 (k : Int) ∧ L.length ≤ k ∧ PB w1.heap.size w1 w' p h L)
  case atStart => exact ⟨0, [], by omega, rfl, by simp, T2.out⟩
  case round =>
    obtain ⟨k, L, hk, rfl, hLk, ht⟩ := hrel
    have HT := Lib.hid ht
    have hbel := B1.out.trans (ht.below.mono B1.out.size)
    have S2 := Lib.hid (Hs.out.rd.below hbel)
    have HLk := Lib.hid hLk
    clear hbel ht hLk
    cases gk with
    | succ g1 =>
      have hkn : k < n := by omega
      obtain ⟨x, hx⟩ : ∃ x, l[k]? = some x := ⟨_, List.getElem?_eq_getElem (by rw [Hs.out.len]; exact hkn)⟩
      obtain ⟨b, o, rfl, d0, d1, d2⟩ := rd_fld S2.out hx
      have hxo := Hs.out.ok x (List.mem_of_getElem? hx)
      have HXo := Lib.hid hxo
      have k1 : (k : Int) < (n : Int) := by omega
      have k2 : (k : Int) < 60 := by omega
      have k3 : decide (k < n) = true := decide_eq_true hkn
      clear hx hxo
      go_wp2_with (first
        | (go_at_call 17; (with_reducible refine (bAdd HT.out x HXo.out _ rfl).mono ?_); rintro e w3 ⟨rfl, t3⟩; have T3 := Lib.hid t3; clear t3))
      go_roundg g1
      case measure => omega
      case rel => exact ⟨k + 1, _, by omega, by go_num, by have := addF_len h x L; have := HLk.out; omega, T3.out⟩
    | zero =>
      obtain rfl : k = M := by omega
      obtain ⟨q, hq⟩ : ∃ q, L.length = q := ⟨_, rfl⟩
      have hq60 : q ≤ 60 := by have := HLk.out; omega
      have Hq := Lib.hid hq
      have hcase : (decide (k < n) = false) ∨ ((k : Int) < (n : Int) ∧ ¬ (k : Int) < 60 ∧ decide (k < n) = true) := by
        have := HM.out
        by_cases h1 : k < n
        · exact .inr ⟨by omega, by omega, decide_eq_true h1⟩
        · exact .inl (decide_eq_false h1)
      clear hq
      go_upto_region 6 with (fail)
      go_cut [33] (fun s wx => s = .bool false ∧ wx = wr)
      case first =>
        rcases hcase with hk1 | ⟨hk1, hk2, hk3⟩
        all_goals
          go_wp2
          go_meet
          case rel => exact ⟨rfl, rfl⟩
      case rest =>
        obtain ⟨rfl, rfl⟩ := hcut
        clear hcase
        have T4 := Lib.hid (TA.of HT.out)
        have hLok := T4.out.ok
        have HLok := Lib.hid hLok
        clear hLok
        go_wp2
        go_loopg [13, 12, 14, 15] q (fun gh i a12 x14 x15 w' => ∃ (k2 : Nat) (A' : Option Addr) (c' : Nat), gh + k2 = q ∧ i = .int .i64 (k2 : Int) ∧ a12 = .slice A' k2 c' ∧ TA w1.heap.size w1 w' p h L (.slice A' k2 c') (L.take k2))
        case atStart => exact ⟨0, none, 0, by omega, rfl, rfl, by simpa using T4.out⟩
        case round =>
          obtain ⟨k2, A', c', hk2, rfl, rfl, ht⟩ := hrel
          have HT5 := Lib.hid ht
          clear ht
          cases gk with
          | succ g1 =>
            have hkq : k2 < q := by omega
            obtain ⟨y, hy⟩ : ∃ y, L[k2]? = some y := ⟨_, List.getElem?_eq_getElem (by rw [Hq.out]; exact hkq)⟩
            have hat := at_entry HLok.out hy
            have Hat := Lib.hid hat
            have hynv := (HLok.out y (List.mem_of_getElem? hy)).2
            have hsn : L.take k2 ++ [y] = L.take (k2 + 1) := take_snoc hy
            have Hsn := Lib.hid hsn
            have Hynv := Lib.hid hynv
            have htl : (L.take k2).length = k2 := by rw [List.length_take, Hq.out]; omega
            have Htl := Lib.hid htl
            have hji : i64 (62 + (k2 : Int)) := by unfold i64; omega
            have k3 : decide (k2 < q) = true := decide_eq_true hkq
            have k1 : (k2 : Int) < (q : Int) := by omega
            have k4 : (k2 : Int) < 100 := by omega
            clear hat hy hynv hsn htl
            go_wp2_with (first
              | (go_at_call 28; (with_reducible refine (tLen HT5.out q Hq.out).mono ?_); rintro e w7 ⟨rfl, rfl⟩)
              | (go_at_call 21; (with_reducible refine (tAt HT5.out (62 + (k2 : Int)) hji y.n y.v Hat.out).mono ?_); rintro e w8 ⟨rfl, t8, b8⟩
                 have T8 := Lib.hid ((t8.alloc (.cells #[.string y.n, .string y.v, .bool false] 23)).alloc (.cells #[.string y.n, .string y.v, .bool false] 23))
                 have hs3 : ((w8.alloc (.cells #[.string y.n, .string y.v, .bool false] 23)).alloc (.cells #[.string y.n, .string y.v, .bool false] 23)).heap.size = w8.heap.size + 1 + 1 := by simp
                 have Hs3 := Lib.hid hs3
                 have Y5 : Hid (Blk ((w8.alloc (.cells #[.string y.n, .string y.v, .bool false] 23)).alloc (.cells #[.string y.n, .string y.v, .bool false] 23)) (w8.heap.size + 1) 23 (fcells y.plain)) := by
                   have := Blk.new (w8.alloc (.cells #[.string y.n, .string y.v, .bool false] 23)) 23 (fcells y.plain)
                   rw [World.size_alloc] at this
                   exact this
                 have O5 := T8.out.own
                 rw [Htl.out] at O5
                 have HO5 := Lib.hid O5
                 have hBs : w1.heap.size ≤ w8.heap.size := t8.size
                 clear t8 hs3 O5 b8)
              | (at_builtin
                 refine wpList_append_rd rfl (.tmp 59) (.tmp 61) 25 rfl EF (.slice A' k2 c') k2 (fcellsL (L.take k2)) rfl HO5.out (some ⟨w8.heap.size + 1, 0, none⟩) 1 1 (fcellsL [y.plain]) rfl (blk_rd1 Y5.out) (fcells_one _) (by omega) (by unfold maxLen; omega) (by rw [Hs3.out]; omega) ?_
                 intro A6 c6 w6 ho6 hf6 hat6
                 have T6 := T8.out.push ho6 hf6 hat6
                 rw [plain_eq Hynv.out, Hsn.out] at T6
                 have T6 := Lib.hid T6
                 clear ho6 hf6 hat6))
            go_roundg g1
            case measure => omega
            case rel => exact ⟨k2 + 1, A6, c6, by omega, by go_num, rfl, T6.out⟩
          | zero =>
            obtain rfl : k2 = q := by omega
            have HT6 := HT5.out
            rw [List.take_of_length_le (by rw [Hq.out]; exact Nat.le_refl _)] at HT6
            have HT6 := Lib.hid HT6
            have hLs : szs L ≤ 65536 := Nat.le_trans T4.out.le T4.out.top
            obtain ⟨rm, hrm⟩ : ∃ rm, min ra rb = rm := ⟨_, rfl⟩
            have hrmi : i64 rm := by obtain ⟨h1, h2⟩ := hra; obtain ⟨h3, h4⟩ := hrb; unfold i64; omega
            obtain ⟨P, hPt, hPq, hPs, hPm⟩ := shrL_facts rm L
            rw [Hq.out] at hPq
            have h2 := shr_two ra rb L hLs
            rw [hrm, hPt] at h2
            obtain ⟨L1, hL1⟩ : ∃ L1, pre (clampI ra) L = L1 := ⟨_, rfl⟩
            rw [hL1] at h2
            obtain ⟨h1a, hh1a⟩ : ∃ x, clampI ra = x := ⟨_, rfl⟩
            obtain ⟨h1b, hh1b⟩ : ∃ x, clampI rb = x := ⟨_, rfl⟩
            rw [hh1a] at hL1
            rw [hh1b] at h2
            have HL1 := Lib.hid hL1
            have H2 := Lib.hid h2
            have HA1 := Lib.hid hh1a
            have HB1' := Lib.hid hh1b
            have HPs := Lib.hid hPs
            have HPm := Lib.hid hPm
            have hPl : (L.take P).length = P := by rw [List.length_take, Hq.out]; omega
            have HPl := Lib.hid hPl
            have hLen : decide (k2 < k2) = false := by simp
            obtain ⟨hm1, hm2⟩ := hrmi
            have hrmc : (if rb < ra then rb else ra) = rm := by rw [← hrm]; split <;> omega
            clear hLs hrm hPt hPs hPm h2 hL1 hh1a hh1b hPl
            go_wp2_with (first
              | (go_at_call 28; (with_reducible refine (tLen HT6.out k2 Hq.out).mono ?_); rintro e w7 ⟨rfl, rfl⟩)
              | (go_at_call 19; (with_reducible refine (tSetMax HT6.out ra hra h1a L1 HA1.out HL1.out).mono ?_); rintro e w7 ⟨rfl, t7⟩; have T7 := Lib.hid t7; clear t7)
              | (go_at_call 19; (with_reducible refine (tSetMax T7.out rb hrb h1b (L.take P) HB1'.out H2.out).mono ?_); rintro e w8 ⟨rfl, t8⟩; have T8 := Lib.hid t8; clear t8))
            clear hLen T4 HT6 HT5
            go_loopg [17, 16] P (fun gh vj vr w' => ∃ (j : Nat) (r : Int), gh + j = P ∧ vj = .int .i64 (j : Int) ∧ vr = .int .i64 r ∧ r = rm - ((szs (L.take j) : Nat) : Int) ∧ -9223372036854775808 ≤ r ∧ r ≤ 9223372036854775807 ∧ TA w1.heap.size w1 w' p h1b (L.take P) (.slice A' k2 c') L)
            case atStart => exact ⟨0, rm, by omega, rfl, rfl, by simp [szs], hm1, hm2, T8.out⟩
            case round =>
              obtain ⟨j, r, hj, rfl, rfl, hr, hr1, hr2, ht⟩ := hrel
              have HR := Lib.hid hr
              have HT9 := Lib.hid ht
              clear hr ht
              cases gk with
              | succ g1 =>
                have hjP : j < P := by omega
                have hjq : j < k2 := by omega
                obtain ⟨y, hy⟩ : ∃ y, L[j]? = some y := ⟨_, List.getElem?_eq_getElem (by rw [Hq.out]; exact hjq)⟩
                have hyo := (HLok.out y (List.mem_of_getElem? hy)).1
                obtain ⟨N, hN⟩ : ∃ N, y.n.size + y.v.size + 32 = N := ⟨_, rfl⟩
                have hNs : sz y = N := hN
                have hsum := szs_take_succ L j y hy
                have hps := HPs.out j hjP
                rw [hsum, hNs] at hps
                rw [hNs] at hsum
                have hNr : (N : Int) ≤ r := by have := HR.out; omega
                obtain ⟨r2, hr2'⟩ : ∃ r2, r - (N : Int) = r2 := ⟨_, rfl⟩
                have hrs : r2 = rm - ((szs (L.take (j + 1)) : Nat) : Int) := by have := HR.out; omega
                have hb1 : -9223372036854775808 ≤ r2 := by omega
                have hb2 : r2 ≤ 9223372036854775807 := by omega
                have k4 : decide ((N : Int) ≤ r) = true := by rw [decide_eq_true_iff]; exact hNr
                have k3 : decide (j < k2) = true := decide_eq_true hjq
                have k1 : (j : Int) < (k2 : Int) := by omega
                obtain ⟨ho1, ho2⟩ := hyo
                have HNN := Lib.hid hN
                have Hrs := Lib.hid hrs
                have Hy := Lib.hid hy
                obtain ⟨b, o, rfl, d0, d1, d2⟩ := rd_fld HT9.out.rd hy
                clear hy hN hNs hsum hps hrs
                go_wp2_with (first
                  | (go_at_call 12; (with_reducible refine (pSize_n y.n y.v y.nv ho1 ho2 N HNN.out wr).mono ?_); rintro e w5 ⟨rfl, b5⟩
                     have HT10 := Lib.hid (HT9.out.next b5)
                     obtain ⟨b2, o2, ee, e0, e1, e2⟩ := rd_fld HT10.out.rd Hy.out
                     cases ee
                     clear b5)
                  | (go_at_call 12; (with_reducible refine (pSize_n y.n y.v y.nv ho1 ho2 N HNN.out w5).mono ?_); rintro e w6 ⟨rfl, b6⟩
                     have HT11 := Lib.hid (HT10.out.next b6)
                     clear b6))
                go_roundg g1
                case measure => omega
                case rel => exact ⟨j + 1, r2, by omega, by go_num, rfl, Hrs.out, hb1, hb2, HT11.out⟩
              | zero =>
                obtain rfl : j = P := by omega
                obtain ⟨A0, hA0⟩ : ∃ A0, A0 = A' := ⟨_, rfl⟩
                have HA0 := Lib.hid hA0
                clear hA0
                by_cases hc : j < k2
                obtain ⟨y, hy⟩ : ∃ y, L[j]? = some y := ⟨_, List.getElem?_eq_getElem (by rw [Hq.out]; exact hc)⟩
                have hyo := (HLok.out y (List.mem_of_getElem? hy)).1
                obtain ⟨N, hN⟩ : ∃ N, y.n.size + y.v.size + 32 = N := ⟨_, rfl⟩
                have hNs : sz y = N := hN
                have hpm := HPm.out y hy
                rw [hNs] at hpm
                have hNr : ¬ (N : Int) ≤ r := by have := HR.out; omega
                have k4 : decide ((N : Int) ≤ r) = false := by rw [decide_eq_false_iff_not]; exact hNr
                have k3 : decide (j < k2) = true := decide_eq_true hc
                have k1 : (j : Int) < (k2 : Int) := by omega
                obtain ⟨ho1, ho2⟩ := hyo
                have HNN := Lib.hid hN
                obtain ⟨b, o, rfl, d0, d1, d2⟩ := rd_fld HT9.out.rd hy
                clear hy hN hNs hpm
                go_upto_region 22 with (first
                  | (go_at_call 12; (with_reducible refine (pSize_n y.n y.v y.nv ho1 ho2 N HNN.out _).mono ?_); rintro e w6 ⟨rfl, b6⟩
                     have HT11 := Lib.hid (HT9.out.next b6)
                     clear b6))
                rotate_left
                have k3 : decide (j < k2) = false := decide_eq_false hc
                go_upto_region 22 with (fail)
                have HT11 := HT9
                generalize wr = w6 at HT11 ⊢
                all_goals
                  go_wp2_with (first
                    | (go_at_call 28; (with_reducible refine (tLen HT11.out j HPl.out).mono ?_); rintro e w7 ⟨rfl, rfl⟩))
                  go_loopg [18, 19, 20] j (fun gh vk x19 x20 w' => ∃ kk : Nat, gh + kk = j ∧ vk = .int .i64 (kk : Int) ∧ TA w1.heap.size w1 w' p h1b (L.take j) (.slice A0 k2 c') L)
                  case atStart => exact ⟨0, by omega, rfl, by rw [HA0.out]; exact HT11.out⟩
                  case round =>
                    obtain ⟨kk, hkk, rfl, ht⟩ := hrel
                    have hA := HA0.out
                    subst hA
                    have HT7 := Lib.hid ht
                    clear ht HT11
                    cases gk with
                    | succ g1 =>
                      have hkj : kk < j := by omega
                      have hkq2 : kk < k2 := by omega
                      obtain ⟨y, hy⟩ : ∃ y, L[kk]? = some y := ⟨_, List.getElem?_eq_getElem (by rw [Hq.out]; exact hkq2)⟩
                      have hynv := (HLok.out y (List.mem_of_getElem? hy)).2
                      have hyt : (L.take j)[kk]? = some y := by rw [List.getElem?_take_of_lt hkj]; exact hy
                      have hat := at_entry HT7.out.ok hyt
                      have Hat := Lib.hid hat
                      have hji : i64 (62 + (kk : Int)) := by unfold i64; omega
                      have k3 : decide (kk < j) = true := decide_eq_true hkj
                      have k5 : (kk : Int) < (k2 : Int) := by omega
                      have k6 : decide (kk < k2) = true := decide_eq_true hkq2
                      have Hy := Lib.hid hy
                      have Hynv := Lib.hid hynv
                      clear hy hynv hyt hat
                      go_wp2_with (first
                        | (go_at_call 21; (with_reducible refine (tAt HT7.out (62 + (kk : Int)) hji y.n y.v Hat.out).mono ?_); rintro e w8 ⟨rfl, t8, b8⟩
                           have HT8 := Lib.hid (t8.alloc (.cells #[.string y.n, .string y.v, .bool false] 23))
                           clear t8 b8))
                      obtain ⟨b2, o2, ee, d0, d1, d2⟩ := rd_fld HT8.out.rd Hy.out
                      cases ee
                      rw [Hynv.out] at d2
                      have X8 := Blk.new w8 23 [.string y.n, .string y.v, .bool false]
                      have x0 := X8.cell 0
                      have x1 := X8.cell 1
                      have x2 := X8.cell 2
                      simp only [List.getElem?_cons_zero, List.getElem?_cons_succ] at x0 x1 x2
                      clear X8
                      generalize w8.heap.size = g8 at x0 x1 x2 ⊢
                      generalize w8.alloc (.cells #[.string y.n, .string y.v, .bool false] 23) = w9 at HT8 x0 x1 x2 d0 d1 d2 ⊢
                      go_quiet (fail)
                      go_wp2
                      go_roundg g1
                      case measure => omega
                      case rel => exact ⟨kk + 1, by omega, by go_num, HT8.out.drewN _⟩
                    | zero =>
                      obtain rfl : kk = j := by omega
                      go_wp2
                      go_ret
                      exact ⟨rfl, B1.out.trans (HT7.out.below.mono B1.out.size)⟩
end Go.Proofs.Ytemgojgkklkmbaa
