/- TableKeeps, the walk. -/
import Derived.Test.YtemgojgkklkmbaaTblC
import Derived.Deep.DeepCutAuto
namespace Go.Proofs.Ytemgojgkklkmbaa
open Go.RowKit Go.Own Go.Tbl
set_option linter.unusedVariables false
attribute [local go_sem ↓] Go.wp_at_zero Go.wp_at_succ

theorem plain_ok {f : Fld} (h : fok f) : fok f.plain ∧ f.plain.nv = false := ⟨h, rfl⟩
theorem FldsIn.take {w : World} {A : Option Addr} {n c : Nat} {l : List Fld} (s : FldsIn w A n c l) {M : Nat} (hM : M ≤ n) : FldsIn w A M c (l.take M) := by
  refine ⟨Nat.le_trans hM s.nc, s.cm, ?_, by rw [List.length_take, s.len]; omega, fun f hf => s.ok f (List.mem_of_mem_take hf)⟩
  rw [← fcellsL_take]
  exact s.rd.take hM
theorem FldsIn.below {w w' : World} {A : Option Addr} {n c : Nat} {l : List Fld} (s : FldsIn w A n c l) (hb : Below w.heap.size w w') : FldsIn w' A n c l := ⟨s.nc, s.cm, s.rd.below hb, s.len, s.ok⟩
/-- the slice that the law makes, by its slot -/
def AllS (B : Nat) (w0 w : World) (p h : Nat) (L : List Fld) (v : Value) (al : List Fld) : Prop := ∃ A' c', v = .slice A' al.length c' ∧ TA B w0 w p h L (.slice A' al.length c') al
theorem at_entry {L : List Fld} (hok : ∀ f ∈ L, fok f ∧ f.nv = false) {k : Nat} {y : Fld} (hy : L[k]? = some y) : atL (statL ++ L) (62 + (k : Int)) = some ⟨y.n, y.v, false⟩ := by
  have hk := (List.getElem?_eq_some_iff.1 hy).1
  have hn := (hok y (List.mem_of_getElem? hy)).2
  unfold atL
  rw [if_neg (by rw [List.length_append, statL_length]; omega), List.getElem?_append_right (by rw [statL_length]; omega), statL_length, show (62 + (k : Int) - 1).toNat - 61 = k by omega, hy, ← hn]
set_option maxRecDepth 100000 in
set_option maxHeartbeats 8000000 in
theorem lawKeeps {w : World} (m : Int) (hm : i64 m) {A : Option Addr} {n c : Nat} {l : List Fld} (s : FldsIn w A n c l) :
    Calls Try.prog 7 #[.int .i64 m, .slice A n c] w fun e w' => e = .returned (.bool true) ∧ Below w.heap.size w w' := by
  obtain ⟨h, hh⟩ : ∃ h, clampI m = h := ⟨_, rfl⟩
  have hh2 := clampI_le m
  rw [hh] at hh2
  have Hh := Lib.hid hh
  have hc63 := s.cm
  have hnc := s.nc
  obtain ⟨M, hM⟩ : ∃ M, min n 60 = M := ⟨_, rfl⟩
  have hM1 : M ≤ n := by omega
  have hM2 : M ≤ 60 := by omega
  have Hs := Lib.hid (s.take hM1)
  obtain ⟨l1, hl1⟩ : ∃ l1, l.take M = l1 := ⟨_, rfl⟩
  rw [hl1] at Hs
  have hcase : (¬ (60 : Int) < (n : Int) ∧ n = M) ∨ ((60 : Int) < (n : Int) ∧ M = 60) := by omega
  clear hh s hM hl1
  go_enter Try.func7, Try.ntmps7
  go_upto_if 24 with (first
    | (go_at_call 9; (with_reducible refine (shown4 _).mono ?_); rintro e w1 ⟨rfl, b1⟩
       have B1 := Lib.hid b1
       have S1 := Lib.hid (Hs.out.below b1)
       clear b1)
    | (go_at_call 14; (with_reducible refine (bNew (B := w1.heap.size) (w0 := w1) m hm (Nat.le_refl _) (Below.refl _ _)).mono ?_); rintro e w2 ⟨p, rfl, t2⟩; rw [Hh.out] at t2; have T2 := Lib.hid t2; have S2 := Lib.hid (S1.out.below t2.below); clear t2))
  go_cut [1] (fun s wx => s = .slice A M c ∧ wx = w2)
  case first =>
    rcases hcase with ⟨h1, h2⟩ | ⟨h1, h2⟩
    · subst h2
      go_wp2
      go_meet
      case rel => exact ⟨rfl, rfl⟩
    · subst h2
      have h3 : 60 ≤ c := by omega
      go_wp2
      go_meet
      case rel => exact ⟨rfl, rfl⟩
  case rest =>
    obtain ⟨rfl, rfl⟩ := hcut
    clear hcase
    go_wp2
    have T3 := Lib.hid (TA.of T2.out)
    go_loopg [8, 7, 9] M (fun gh i a9 v9 w' => ∃ (k : Nat) (al : List Fld), gh + k = M ∧ i = .int .i64 (k : Int) ∧ al.length ≤ k ∧ (∀ f ∈ al, fok f ∧ f.nv = false) ∧ AllS w1.heap.size w1 w' p h (pre h al.reverse) a9 al)
    case atStart => exact ⟨0, [], by omega, rfl, by simp, by simp, ⟨none, 0, rfl, T3.out⟩⟩
    case round =>
      obtain ⟨k, al, hk, rfl, hal, hok, ⟨A', c', rfl, ht⟩⟩ := hrel
      have HT := Lib.hid ht
      have Hok := Lib.hid hok
      obtain ⟨q, hq⟩ : ∃ q, al.length = q := ⟨_, rfl⟩
      have S3 := Lib.hid (S1.out.below ht.below)
      rw [hq] at HT hal ⊢
      have Hq := Lib.hid hq
      clear ht hok hq
      cases gk with
      | succ g1 =>
        have hkM : k < M := by omega
        obtain ⟨x, hx⟩ : ∃ x, l1[k]? = some x := ⟨_, List.getElem?_eq_getElem (by rw [Hs.out.len]; exact hkM)⟩
        obtain ⟨b, o, rfl, d0, d1, d2⟩ := rd_fld S3.out.rd hx
        have hxo := Hs.out.ok x (List.mem_of_getElem? hx)
        have HXo := Lib.hid hxo
        have k1 : (k : Int) < (M : Int) := by omega
        have k3 : decide (k < M) = true := decide_eq_true hkM
        obtain ⟨a, ha⟩ : ∃ a, x.n.size = a := ⟨_, rfl⟩
        obtain ⟨a2, ha2⟩ : ∃ a2, x.v.size = a2 := ⟨_, rfl⟩
        obtain ⟨N, hN⟩ : ∃ N, a + a2 + 32 = N := ⟨_, rfl⟩
        have hNs : sz x = N := by unfold sz; rw [ha, ha2, hN]
        have hxn : a ≤ 140737488355328 := by rw [← ha]; exact hxo.1
        have hxv : a2 ≤ 140737488355328 := by rw [← ha2]; exact hxo.2
        have HNs := Lib.hid hNs
        have Hx := Lib.hid hx
        have hkq : q ≤ 60 := by omega
        have eN : (a : Int) + (a2 : Int) + 32 = (N : Int) := by omega
        have eW1 : IntKind.i64.wrap ((a : Int) + (a2 : Int)) = (a : Int) + (a2 : Int) := by rw [IntKind.wrap_i64]; omega
        have eW2 : IntKind.i64.wrap (N : Int) = (N : Int) := by rw [IntKind.wrap_i64]; omega
        clear hx hxo hN hNs
        go_wp2_with (first
          | (go_at_call 17; (with_reducible refine (tAdd HT.out x HXo.out _ rfl).mono ?_); rintro e w3 ⟨rfl, t3⟩
             have T4 := Lib.hid t3
             have T5 := Lib.hid ((t3.alloc (.cells #[.string x.n, .string x.v, .bool false] 23)).alloc (.cells #[.string x.n, .string x.v, .bool false] 23))
             have hs3 : ((w3.alloc (.cells #[.string x.n, .string x.v, .bool false] 23)).alloc (.cells #[.string x.n, .string x.v, .bool false] 23)).heap.size = w3.heap.size + 1 + 1 := by simp
             have Hs3 := Lib.hid hs3
             have X5 := Lib.hid ((Blk.new w3 23 [.string x.n, .string x.v, .bool false]).alloc (.cells #[.string x.n, .string x.v, .bool false] 23))
             have Y5 : Hid (Blk ((w3.alloc (.cells #[.string x.n, .string x.v, .bool false] 23)).alloc (.cells #[.string x.n, .string x.v, .bool false] 23)) (w3.heap.size + 1) 23 (fcells x.plain)) := by
               have := Blk.new (w3.alloc (.cells #[.string x.n, .string x.v, .bool false] 23)) 23 (fcells x.plain)
               rw [World.size_alloc] at this
               exact this
             have O5 := T5.out.own
             rw [Hq.out] at O5
             have HO5 := Lib.hid O5
             have hlt3 : ∀ g, (Value.slice A' q c').ownBlock = some g → g < w3.heap.size := fun g hg => by have h9 := T4.out.own; exact (h9.lt g hg).2
             have Hlt3 := Lib.hid hlt3
             have hBs : w1.heap.size ≤ w3.heap.size := t3.size
             obtain ⟨bb, oo, ee, y0, y1, y2⟩ := rd_fld (S1.out.below t3.below).rd Hx.out
             cases ee
             clear t3 hs3 O5 hlt3)
          | (at_builtin
             refine wpList_append_rd rfl (.tmp 44) (.tmp 46) 25 rfl EF (.slice A' q c') q (fcellsL al) rfl HO5.out (some ⟨w3.heap.size + 1, 0, none⟩) 1 1 (fcellsL [x.plain]) rfl (blk_rd1 Y5.out) (fcells_one _) (by omega) (by unfold maxLen; omega) (by rw [Hs3.out]; omega) ?_
             intro A6 c6 w6 ho6 hf6 hat6
             have T6 := Lib.hid (T5.out.push ho6 hf6 hat6)
             have X6 := Lib.hid (X5.out.fr hf6 (fun e => by have := Hlt3.out _ e.symm; omega))
             have x0 := X6.out.cell 0
             have x1 := X6.out.cell 1
             simp only [List.getElem?_cons_zero, List.getElem?_cons_succ] at x0 x1
             clear ho6 hf6 hat6))
        by_cases hc : N ≤ h
        · have kb : decide (h < N) = false := by rw [decide_eq_false_iff_not]; omega
          have hL : addF h x (pre h al.reverse) = pre h (al ++ [x.plain]).reverse := by
            rw [addF_pre h x _ (by rw [HNs.out]; exact hc), List.reverse_append]
            rfl
          have HL := Lib.hid hL
          clear hL hc
          go_quiet ((go_at_call 30; exact Calls.quiet_of_same (tMax_s (T6.out.drewN _))))
          go_wp2
          go_roundg g1
          case measure => omega
          case rel =>
            refine ⟨k + 1, al ++ [x.plain], by omega, by go_num, by simp; have := Hq.out; omega, ?_, A6, c6, ?_, ?_⟩
            · intro f hf
              rcases List.mem_append.1 hf with hf | hf
              · exact Hok.out f hf
              · simp at hf; subst hf; exact plain_ok HXo.out
            · rw [List.length_append, Hq.out]; rfl
            · rw [List.length_append, Hq.out, ← HL.out]
              exact T6.out.drewN _
        · have kb : decide (h < N) = true := by rw [decide_eq_true_iff]; omega
          have kb2 : (h : Int) < (N : Int) := by omega
          have hL : addF h x (pre h al.reverse) = [] := by unfold addF; rw [if_neg (by rw [HNs.out]; exact hc)]
          have HL := Lib.hid hL
          clear hL hc
          go_quiet ((go_at_call 30; exact Calls.quiet_of_same (tMax_s (T6.out.drewN _))))
          go_wp2
          go_roundg g1
          case measure => omega
          case rel =>
            have T7 := (T6.out.drewN nq).drop
            rw [HL.out] at T7
            exact ⟨k + 1, [], by omega, by go_num, by simp, by simp, none, 0, rfl, T7⟩
      | zero =>
        obtain rfl : k = M := by omega
        have hkq : q ≤ 60 := by omega
        obtain ⟨R, hR⟩ : ∃ R, al.reverse = R := ⟨_, rfl⟩
        rw [hR] at HT
        have hRl : R.length = q := by rw [← hR, List.length_reverse, Hq.out]
        have hRok : ∀ f ∈ R, fok f ∧ f.nv = false := fun f hf => Hok.out f (by rw [← hR] at hf; exact List.mem_reverse.1 hf)
        have hRat : ∀ j, j < q → R[j]? = al[q - 1 - j]? := fun j hj => by rw [← hR, List.getElem?_reverse (by rw [Hq.out]; exact hj), Hq.out]
        obtain ⟨P, hP⟩ : ∃ P, (pre h R).length = P := ⟨_, rfl⟩
        have hPt : pre h R = R.take P := by rw [← hP]; exact pre_take h R
        have hPq : P ≤ q := by rw [← hP, ← hRl]; exact pre_len h R
        have hPs : szs (R.take P) ≤ h := by rw [← hPt]; exact pre_le h R
        have hPm : ∀ f, R[P]? = some f → h < szs (R.take P) + sz f := fun f hf => by
          have := pre_more h R f (by rw [hP]; exact hf)
          rw [hPt] at this
          exact this
        rw [hPt] at HT
        have HRl := Lib.hid hRl
        have HRok := Lib.hid hRok
        have HRat := Lib.hid hRat
        have HPs := Lib.hid hPs
        have HPm := Lib.hid hPm
        have htl : (R.take P).length = P := by rw [List.length_take, hRl]; omega
        have Htl := Lib.hid htl
        have hPs0 : szs (R.take 0) = 0 := rfl
        have HPs0 := Lib.hid hPs0
        clear hR hRl hRok hRat hP hPt hPs hPm htl hPs0 S3 Hok
        go_wp2_with (first
          | (go_at_call 30; (with_reducible refine (tMax HT.out).mono ?_); rintro e w4 ⟨rfl, rfl⟩))
        go_loopg [10, 11, 12, 13] P (fun gh vn vr x12 x13 w' => ∃ (j s r : Nat), gh + j = P ∧ vn = .int .i64 (j : Int) ∧ vr = .int .i64 (r : Int) ∧ szs (R.take j) = s ∧ r + s = h ∧ TA w1.heap.size w1 w' p h (R.take P) (.slice A' q c') al)
        case atStart => exact ⟨0, 0, h, by omega, rfl, rfl, HPs0.out, by omega, HT.out⟩
        case round =>
          obtain ⟨j, s, r, hj, rfl, rfl, hs, hr, ht⟩ := hrel
          have HT5 := Lib.hid ht
          have HS := Lib.hid hs
          have HR := Lib.hid hr
          have hrh : r ≤ 65536 := by omega
          clear ht hs hr
          cases gk with
          | succ g1 =>
            have hjP : j < P := by omega
            have hjq : j < q := by omega
            obtain ⟨y, hy⟩ : ∃ y, R[j]? = some y := ⟨_, List.getElem?_eq_getElem (by rw [HRl.out]; exact hjq)⟩
            obtain ⟨ix, hix⟩ : ∃ ix, q - 1 - j = ix := ⟨_, rfl⟩
            have hya : al[ix]? = some y := by rw [← hix, ← HRat.out j hjq]; exact hy
            have hyo := (HRok.out y (List.mem_of_getElem? hy)).1
            obtain ⟨b, o, rfl, d0, d1, d2⟩ := rd_fld HT5.out.rd hya
            have eI : (q : Int) - 1 - (j : Int) = (ix : Int) := by omega
            have hixq : (ix : Int) < (q : Int) := by omega
            have hixq2 : decide (ix < q) = true := by rw [decide_eq_true_iff]; omega
            have k3 : decide (j < q) = true := decide_eq_true hjq
            obtain ⟨a, ha⟩ : ∃ a, y.n.size = a := ⟨_, rfl⟩
            obtain ⟨a2, ha2⟩ : ∃ a2, y.v.size = a2 := ⟨_, rfl⟩
            obtain ⟨N, hN⟩ : ∃ N, a + a2 + 32 = N := ⟨_, rfl⟩
            have hNs : sz y = N := by unfold sz; rw [ha, ha2, hN]
            have hxn : a ≤ 140737488355328 := by rw [← ha]; exact hyo.1
            have hxv : a2 ≤ 140737488355328 := by rw [← ha2]; exact hyo.2
            have hsum := szs_take_succ R j y hy
            have hmono := szs_take_mono R (j + 1) P (by omega)
            rw [hsum, HS.out, hNs] at hmono
            rw [HS.out, hNs] at hsum
            have hps := HPs.out
            have hNr : N ≤ r := by have := HR.out; omega
            have eN : (a : Int) + (a2 : Int) + 32 = (N : Int) := by omega
            obtain ⟨r2, hr2⟩ : ∃ r2, r - N = r2 := ⟨_, rfl⟩
            have eR : (r : Int) - (N : Int) = (r2 : Int) := by omega
            have k4 : decide (r < N) = false := by rw [decide_eq_false_iff_not]; omega
            have hrs : r2 + (s + N) = h := by have := HR.out; omega
            have Hsum := Lib.hid hsum
            have Hrs := Lib.hid hrs
            clear hy hya hyo hix hN hNs hsum hmono hps hr2 hrs
            go_wp2
            go_roundg g1
            case measure => omega
            case rel => exact ⟨j + 1, s + N, r2, by omega, by go_num, rfl, Hsum.out, Hrs.out, HT5.out.alloc _⟩
          | zero =>
            obtain rfl : j = P := by omega
            have eM : (h : Int) - (r : Int) = (s : Int) := by have := HR.out; omega
            obtain ⟨A0, hA0⟩ : ∃ A0, A0 = A' := ⟨_, rfl⟩
            have HA0 := Lib.hid hA0
            clear hA0
            by_cases hc : j < q
            obtain ⟨y, hy⟩ : ∃ y, R[j]? = some y := ⟨_, List.getElem?_eq_getElem (by rw [HRl.out]; exact hc)⟩
            obtain ⟨ix, hix⟩ : ∃ ix, q - 1 - j = ix := ⟨_, rfl⟩
            have hya : al[ix]? = some y := by rw [← hix, ← HRat.out j hc]; exact hy
            have hyo := (HRok.out y (List.mem_of_getElem? hy)).1
            obtain ⟨b, o, rfl, d0, d1, d2⟩ := rd_fld HT5.out.rd hya
            have eI : (q : Int) - 1 - (j : Int) = (ix : Int) := by omega
            have hixq : (ix : Int) < (q : Int) := by omega
            have hixq2 : decide (ix < q) = true := by rw [decide_eq_true_iff]; omega
            have k3 : decide (j < q) = true := decide_eq_true hc
            obtain ⟨a, ha⟩ : ∃ a, y.n.size = a := ⟨_, rfl⟩
            obtain ⟨a2, ha2⟩ : ∃ a2, y.v.size = a2 := ⟨_, rfl⟩
            obtain ⟨N, hN⟩ : ∃ N, a + a2 + 32 = N := ⟨_, rfl⟩
            have hNs : sz y = N := by unfold sz; rw [ha, ha2, hN]
            have hxn : a ≤ 140737488355328 := by rw [← ha]; exact hyo.1
            have hxv : a2 ≤ 140737488355328 := by rw [← ha2]; exact hyo.2
            have hmm := HPm.out y hy
            rw [HS.out, hNs] at hmm
            have hNr : r < N := by have := HR.out; omega
            have eN : (a : Int) + (a2 : Int) + 32 = (N : Int) := by omega
            have k4 : decide (r < N) = true := by rw [decide_eq_true_iff]; omega
            clear hy hya hyo hix hN hNs hmm
            go_upto_region 25 with (fail)
            have HT6 := Lib.hid (HT5.out.alloc (.cells #[.string y.n, .string y.v, .bool y.nv] 23))
            generalize wr.alloc (.cells #[.string y.n, .string y.v, .bool y.nv] 23) = w6 at HT6 ⊢
            rotate_left
            have k3 : decide (j < q) = false := decide_eq_false hc
            go_upto_region 25 with (fail)
            have HT6 := HT5
            generalize wr = w6 at HT6 ⊢
            all_goals
              go_wp2_with (first
                | (go_at_call 28; (with_reducible refine (tLen HT6.out j Htl.out).mono ?_); rintro e w7 ⟨rfl, rfl⟩)
                | (go_at_call 29; (with_reducible refine (tSize HT6.out s HS.out).mono ?_); rintro e w7 ⟨rfl, rfl⟩)
                | (go_at_call 30; (with_reducible refine (tMax HT6.out).mono ?_); rintro e w7 ⟨rfl, rfl⟩))
              go_loopg [14, 15, 16] j (fun gh vk x15 x16 w' => ∃ kk : Nat, gh + kk = j ∧ vk = .int .i64 (kk : Int) ∧ TA w1.heap.size w1 w' p h (R.take j) (.slice A0 q c') al)
              case atStart => exact ⟨0, by omega, rfl, by rw [HA0.out]; exact HT6.out⟩
              case round =>
                obtain ⟨kk, hkk, rfl, ht⟩ := hrel
                have hA := HA0.out
                subst hA
                have HT7 := Lib.hid ht
                clear ht HT6
                cases gk with
                | succ g1 =>
                  have hkj : kk < j := by omega
                  have hkq2 : kk < q := by omega
                  obtain ⟨y, hy⟩ : ∃ y, R[kk]? = some y := ⟨_, List.getElem?_eq_getElem (by rw [HRl.out]; exact hkq2)⟩
                  obtain ⟨ix, hix⟩ : ∃ ix, q - 1 - kk = ix := ⟨_, rfl⟩
                  have hya : al[ix]? = some y := by rw [← hix, ← HRat.out kk hkq2]; exact hy
                  have hynv := (HRok.out y (List.mem_of_getElem? hy)).2
                  have hyt : (R.take j)[kk]? = some y := by rw [List.getElem?_take_of_lt hkj]; exact hy
                  have hat := at_entry HT7.out.ok hyt
                  have Hat := Lib.hid hat
                  have hji : i64 (62 + (kk : Int)) := by unfold i64; omega
                  have eI : (q : Int) - 1 - (kk : Int) = (ix : Int) := by omega
                  have hixq : (ix : Int) < (q : Int) := by omega
                  have hixq2 : decide (ix < q) = true := by rw [decide_eq_true_iff]; omega
                  have k3 : decide (kk < j) = true := decide_eq_true hkj
                  have Hya := Lib.hid hya
                  have Hynv := Lib.hid hynv
                  clear hy hya hix hynv hyt hat
                  go_wp2_with (first
                    | (go_at_call 21; (with_reducible refine (tAt HT7.out (62 + (kk : Int)) hji y.n y.v Hat.out).mono ?_); rintro e w8 ⟨rfl, t8, b8⟩
                       have HT8 := Lib.hid (t8.alloc (.cells #[.string y.n, .string y.v, .bool false] 23))
                       clear t8 b8))
                  obtain ⟨b2, o2, ee, d0, d1, d2⟩ := rd_fld HT8.out.rd Hya.out
                  cases ee
                  rw [Hynv.out] at d2
                  have X8 := Blk.new w8 23 [.string y.n, .string y.v, .bool false]
                  have x0 := X8.cell 0
                  have x1 := X8.cell 1
                  have x2 := X8.cell 2
                  simp only [List.getElem?_cons_zero, List.getElem?_cons_succ] at x0 x1 x2
                  clear X8
                  have eW1 : IntKind.i64.wrap ((q : Int) - 1) = (q : Int) - 1 := by rw [IntKind.wrap_i64]; omega
                  have eW2 : IntKind.i64.wrap (ix : Int) = (ix : Int) := by rw [IntKind.wrap_i64]; omega
                  generalize w8.heap.size = g8 at x0 x1 x2 ⊢
                  generalize w8.alloc (.cells #[.string y.n, .string y.v, .bool false] 23) = w9 at HT8 x0 x1 x2 d0 d1 d2 ⊢
                  go_quiet (fail)
                  go_wp2
                  go_roundg g1
                  case measure => omega
                  case rel => exact ⟨kk + 1, by omega, by go_num, HT8.out.drewN _⟩
                | zero =>
                  obtain rfl : kk = j := by omega
                  go_wp2
                  go_ret
                  exact ⟨rfl, B1.out.trans (HT7.out.below.mono B1.out.size)⟩
end Go.Proofs.Ytemgojgkklkmbaa
