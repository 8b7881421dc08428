/- Stage 10: FieldsLengths, the walk. -/
import Derived.Test.YtilabahcngjflaaDoorJlC
import Derived.Test.YtilabahcngjflaaDoorJiX
import Derived.Deep.Cut
import Derived.Deep.DeepCutAuto
import Derived.Deep.CutBlock
namespace Go.Proofs.YtilabahcngjflaaDoor
open Go.RowKit Go.Own Go.Tbl Go.Fie
set_option linter.unusedVariables false
set_option linter.unusedSimpArgs false
set_option maxRecDepth 100000
theorem dat_app (a b : ByteArray) : (a ++ b).data.toList = a.data.toList ++ b.data.toList := by
  rw [ByteArray.data_append, Array.toList_append]
theorem of_list {s : ByteArray} {l : List UInt8} (h : s.data.toList = l) : s = ⟨l.toArray⟩ := by
  rw [← Lib.mk_data s, h]
set_option maxHeartbeats 4000000 in
theorem digits_c (n z : Nat) (hn : n < 1000000000) (hz : z ≤ 3) (w : World) : Calls Tryd.prog 19 #[.int .i64 (n : Int), .int .i64 (z : Int)] w fun e w' => e = .returned (.string (dgt n z)) ∧ Below w.heap.size w w' := by
  have hl := digs10_len 8 n hn
  have HL := Lib.hid hl
  have Hn := Lib.hid hn
  have Hz := Lib.hid hz
  clear hl hz
  go_enter Tryd.func19, Tryd.ntmps19
  go_wp2
  go_loopg [0, 5] (digs10 n).length (fun gh a b w' => ∃ (k : Nat) (T : ByteArray), a = .int .i64 (k : Int) ∧ b = .string T ∧ k ≤ n ∧ Below w.heap.size w w' ∧ ((T = nNone ∧ k = n ∧ gh = (digs10 n).length) ∨ (T ≠ nNone ∧ zd k ++ T.data.toList = digs10 n ∧ gh = (zd k).length)))
  case atStart => exact ⟨n, nNone, rfl, rfl, Nat.le_refl _, Below.refl _ _, .inl ⟨rfl, rfl, rfl⟩⟩
  case round =>
    obtain ⟨k, T, rfl, rfl, hk, hb, hcase⟩ := hrel
    have HB := Lib.hid hb
    clear hb
    have hin : ∀ (T1 : ByteArray), T1 = ⟨#[dch k]⟩ ++ T → T1 ≠ nNone ∧ T1.data.toList = dch k :: T.data.toList := by
      rintro T1 rfl
      have e : ((⟨#[dch k]⟩ : ByteArray) ++ T).data.toList = dch k :: T.data.toList := by rw [dat_app]; rfl
      refine ⟨fun h => ?_, e⟩
      rw [h] at e
      cases e
    cases gk with
    | zero =>
      have h2 : T ≠ nNone ∧ k = 0 ∧ T.data.toList = digs10 n := by
        rcases hcase with ⟨_, _, h⟩ | ⟨h1, h2, h3⟩
        · have := digs10_pos n; omega
        · have hk0 := zd_zero.1 h3.symm
          subst hk0
          exact ⟨h1, rfl, by rw [← h2]; rfl⟩
      obtain ⟨h3, rfl, h4⟩ := h2
      have hem : T.toList.isEmpty = false := by rw [emp]; exact decide_eq_false fun h => h3 ((eqE_iff T).1 h)
      have H4 := Lib.hid h4
      clear hcase hin h3 h4
      go_wp2_with (fail)
      go_loopg [6, 5] z (fun gh a b w' => ∃ (j : Nat) (U : ByteArray), gh + j = z ∧ a = .int .i64 (j : Int) ∧ b = .string U ∧ Below w.heap.size w w' ∧ U.data.toList = List.replicate j 48 ++ digs10 n)
      case atStart => exact ⟨0, T, by omega, rfl, rfl, HB.out, by rw [H4.out]; rfl⟩
      case round =>
        obtain ⟨j, U, hj, rfl, rfl, hbw, hu⟩ := hrel
        have HBw := Lib.hid hbw
        have HU := Lib.hid hu
        have hzz := Hz.out
        cases gk with
        | zero =>
          obtain rfl : j = z := by omega
          clear hbw hu
          go_wp2_with (fail)
          go_ret
          exact ⟨by rw [show dgt n j = U from (of_list HU.out).symm]; rfl, HBw.out⟩
        | succ g1 =>
          have k1 : (j : Int) < (z : Int) := by omega
          have hus : U.size ≤ 13 := by
            rw [Lib.size_eq, hu, List.length_append, List.length_replicate]
            have := HL.out
            omega
          have hsum : ¬ 9223372036854775807 < 1 + U.size := by omega
          obtain ⟨U1, hU1⟩ : ∃ U1, ({ data := #[48] } ++ U : ByteArray) = U1 := ⟨_, rfl⟩
          have HU1 : Hid (U1.data.toList = List.replicate (j + 1) 48 ++ digs10 n) := by
            rw [Hid, ← hU1, dat_app, hu]
            rfl
          clear hbw hu
          go_wp2_with (fail)
          go_roundg g1
          case measure => omega
          case rel => exact ⟨j + 1, U1, by omega, by go_num, rfl, HBw.out, HU1.out⟩
    | succ g1 =>
      obtain ⟨r, hr⟩ : ∃ r, k % 10 = r := ⟨_, rfl⟩
      have e1 : (k : Int) % 10 = (r : Int) := by omega
      obtain ⟨y, hy⟩ : ∃ y, 48 + r = y := ⟨_, rfl⟩
      have e2 : 48 + (r : Int) = (y : Int) := by omega
      have e3 : (y : Int) % 256 = (y : Int) := by omega
      have hbv : BV (dch k) = .int .u8 (y : Int) := by rw [BV, dch_toNat, hr, hy]
      have hcv := run_conv_bytes (P := Tryd.prog) (src := 38) (dst := 9) (e := 5) Tryd.underlying38 Tryd.underlying5 Tryd.underlying9 (c := 1) (xs := [dch k]) (w := wr.alloc (.cells #[.int .u8 (y : Int)] 5)) (A := some ⟨wr.heap.size, 0, none⟩) (n := 1) (by
        have := Rd.of_blk (n := 1) (size := 1) (Blk.new wr 5 [.int .u8 (y : Int)]) (by simp)
        simpa [hbv] using this)
      obtain ⟨d, hd⟩ : ∃ d, k / 10 = d := ⟨_, rfl⟩
      have e4 : (k : Int) / 10 = (d : Int) := by omega
      obtain ⟨T1, hT1⟩ : ∃ T1, ({ data := #[dch k] } ++ T : ByteArray) = T1 := ⟨_, rfl⟩
      obtain ⟨hn1, hl1⟩ := hin T1 hT1.symm
      have hts : T.size ≤ 9 := by
        rw [Lib.size_eq]
        have := HL.out
        rcases hcase with ⟨h, _⟩ | ⟨_, h, _⟩
        · rw [h]; simp
        · have h2 := congrArg List.length h
          rw [List.length_append] at h2
          omega
      have hsum : ¬ 9223372036854775807 < 1 + T.size := by omega
      have hrel1 : Hid (T1 ≠ nNone ∧ zd d ++ T1.data.toList = digs10 n ∧ g1 = (zd d).length) := by
        refine ⟨hn1, ?_, ?_⟩
        · rw [hl1, ← hd]
          rcases hcase with ⟨rfl, rfl, _⟩ | ⟨_, h, h3⟩
          · rw [digs10_step k]
            first | done | rfl
          · have hk0 : k ≠ 0 := fun h0 => by rw [zd_zero.2 h0] at h3; omega
            rw [← h, zd_step hk0]
            simp
        · rw [← hd]
          rcases hcase with ⟨rfl, rfl, h⟩ | ⟨_, _, h3⟩
          · have h := h
            rw [digs10_step k, List.length_append] at h
            simp at h
            omega
          · have hk0 : k ≠ 0 := fun h0 => by rw [zd_zero.2 h0] at h3; omega
            rw [zd_step hk0, List.length_append] at h3
            simp at h3
            omega
      have hway : (0 : Int) < (k : Int) ∨ (k = 0 ∧ T = nNone) := by
        rcases hcase with ⟨rfl, _, _⟩ | ⟨_, _, h3⟩
        · rcases Nat.eq_zero_or_pos k with h | h
          · exact .inr ⟨h, rfl⟩
          · exact .inl (by omega)
        · have hk0 : k ≠ 0 := fun h0 => by rw [zd_zero.2 h0] at h3; omega
          exact .inl (by omega)
      have hdn : d ≤ n := by omega
      have HT1 := Lib.hid hT1
      have B2 := Lib.hid (HB.out.alloc HB.out.size (.cells #[.int .u8 (y : Int)] 5))
      clear hcase hin hn1 hl1 hbv hts
      rcases hway with hw | ⟨rfl, rfl⟩
      · clear hr hy hd
        go_wp2_with (fail)
        go_roundg g1
        case measure => omega
        case rel => exact ⟨d, T1, by first | rfl | go_num, rfl, hdn, B2.out, .inr hrel1.out⟩
      · obtain rfl : r = 0 := by omega
        obtain rfl : y = 48 := by omega
        obtain rfl : d = 0 := by omega
        have hcv2 : (convert 38 9 (.slice (some ⟨wr.heap.size, 0, none⟩) 1 1)).run Tryd.prog (wr.alloc (.cells #[.int .u8 48] 5)) = .ok (.string ⟨#[dch 0]⟩) (wr.alloc (.cells #[.int .u8 48] 5)) := hcv
        clear hcv hr hy hd e1 e2 e3 e4
        go_wp2_with (fail)
        go_roundg g1
        case measure => omega
        case rel => exact ⟨0, T1, by first | rfl | go_num, rfl, hdn, B2.out, .inr hrel1.out⟩
set_option maxHeartbeats 16000000 in
theorem lawLengths {W : World} {x : Int} (hx : (Lit.int .i64 x).wf = true) {y : Int} (hy : (Lit.int .i64 y).wf = true) {z : Int} (hz : (Lit.int .i64 z).wf = true) (hC : True) : Calls Tryd.prog 7 #[.int .i64 x, .int .i64 y, .int .i64 z] W fun e w' => e = .returned (.bool true) ∧ Below W.heap.size W w' := by
  have bx := i64_of hx
  have by_ := i64_of hy
  have G0 := Lib.hid (shown_c W)
  clear hx hy hz
  obtain ⟨x1, hx1⟩ : ∃ n : Nat, (if x < 0 then -(x + 1) else x) = (n : Int) := by
    by_cases h : x < 0
    · exact ⟨(-(x + 1)).toNat, by rw [if_pos h]; omega⟩
    · exact ⟨x.toNat, by rw [if_neg h]; omega⟩
  obtain ⟨y1, hy1⟩ : ∃ n : Nat, (if y < 0 then -(y + 1) else y) = (n : Int) := by
    by_cases h : y < 0
    · exact ⟨(-(y + 1)).toNat, by rw [if_pos h]; omega⟩
    · exact ⟨y.toNat, by rw [if_neg h]; omega⟩
  have HX1 := Lib.hid hx1
  have HY1 := Lib.hid hy1
  have bx1 : x1 ≤ 9223372036854775807 := by
    by_cases h : x < 0
    · rw [if_pos h] at hx1; omega
    · rw [if_neg h] at hx1; omega
  have by1 : y1 ≤ 9223372036854775807 := by
    by_cases h : y < 0
    · rw [if_pos h] at hy1; omega
    · rw [if_neg h] at hy1; omega
  clear hx1 hy1
  go_enter Tryd.func7, Tryd.ntmps7
  go_upto_if 18 with (first
    | (go_at_call 10; (with_reducible refine G0.out.mono ?_); rintro e w1 ⟨rfl, hb1⟩
       have B1 := Lib.hid hb1
       clear hb1 G0))
  go_cut [0] (fun s wx => s = .int .i64 (x1 : Int) ∧ wx = w1)
  case first =>
    have h1 := HX1.out
    by_cases h : x < 0
    · rw [if_pos h] at h1
      go_wp2
      go_meet
      exact ⟨by first | (congr 1; omega) | congr 1, rfl⟩
    · rw [if_neg h] at h1
      go_wp2
      go_meet
      exact ⟨by congr 1, rfl⟩
  case rest =>
    obtain ⟨rfl, hwx⟩ := hcut
    have hwx := hwx.symm
    subst hwx
    clear bx HX1
    go_upto_if 23 with (fail)
    go_cut [1] (fun s wx => s = .int .i64 (y1 : Int) ∧ wx = w1)
    case first =>
      have h1 := HY1.out
      by_cases h : y < 0
      · rw [if_pos h] at h1
        go_wp2
        go_meet
        exact ⟨by first | (congr 1; omega) | congr 1, rfl⟩
      · rw [if_neg h] at h1
        go_wp2
        go_meet
        exact ⟨by congr 1, rfl⟩
    case rest =>
      obtain ⟨rfl, hwx⟩ := hcut
      have hwx := hwx.symm
      subst hwx
      clear by_ HY1
      obtain ⟨x2, hx2⟩ : ∃ x2, x1 % 1000000000 = x2 := ⟨_, rfl⟩
      obtain ⟨y2, hy2⟩ : ∃ y2, y1 % 1000000000 = y2 := ⟨_, rfl⟩
      have ex2 : (x1 : Int) % 1000000000 = (x2 : Int) := by omega
      have ey2 : (y1 : Int) % 1000000000 = (y2 : Int) := by omega
      have lx2 : x2 < 1000000000 := by omega
      have ly2 : y2 < 1000000000 := by omega
      obtain ⟨za1, za2⟩ := and_bd z 3 (by omega) 3 rfl
      obtain ⟨za, hza⟩ := Int.eq_ofNat_of_zero_le za1
      have lza : za ≤ 3 := by rw [hza] at za2; omega
      obtain ⟨zb1, zb2⟩ := and_bd (z / 4) 3 (by omega) 3 rfl
      obtain ⟨zb, hzb⟩ := Int.eq_ofNat_of_zero_le zb1
      have lzb : zb ≤ 3 := by rw [hzb] at zb2; omega
      clear za1 za2 zb1 zb2 hx2 hy2
      obtain ⟨T, hT⟩ : ∃ T, dgt x2 za = T := ⟨_, rfl⟩
      obtain ⟨U, hU⟩ : ∃ U, dgt y2 zb = U := ⟨_, rfl⟩
      have okT : okL T = true := by rw [← hT]; exact dgt_okL lx2 lza
      have okU : okL U = true := by rw [← hU]; exact dgt_okL ly2 lzb
      have szT : T.size ≤ 12 := by rw [← hT]; exact (dgt_size lx2 lza).2
      have szU : U.size ≤ 12 := by rw [← hU]; exact (dgt_size ly2 lzb).2
      have nT : numV T = x2 := by rw [← hT]; exact dgt_num x2 za
      have G1 : Hid (∀ w, Calls Tryd.prog 19 #[.int .i64 (x2 : Int), .int .i64 (za : Int)] w fun e w' => e = .returned (.string T) ∧ Below w.heap.size w w') := fun w => by
        have := digits_c x2 za lx2 lza w
        rwa [hT] at this
      have G2 : Hid (∀ w, Calls Tryd.prog 19 #[.int .i64 (y2 : Int), .int .i64 (zb : Int)] w fun e w' => e = .returned (.string U) ∧ Below w.heap.size w w') := fun w => by
        have := digits_c y2 zb ly2 lzb w
        rwa [hU] at this
      obtain ⟨M5, S5, A5, P5, st5, ln5, hm5⟩ := msgOf (response (top2 ++ [⟨nCL, T, false⟩, ⟨nCL, U, false⟩]))
      obtain ⟨bb, hbb⟩ : ∃ x, decide (T = U) = x := ⟨_, rfl⟩
      have qTU : (T.toList == U.toList) = bb := (eqS T U).trans hbb
      have fok1 : ∀ t : ByteArray, t.size ≤ 12 → fok ⟨nCL, t, false⟩ := fun t h => ⟨by show nCL.size ≤ _; decide, by show t.size ≤ _; omega⟩
      have fok2 : ∀ f ∈ top2, fok f := ok_of (by decide +kernel)
      have fok3 : fok ⟨nX, nY, false⟩ := ⟨by decide, by decide⟩
      have R1 : Hid (∀ (w : World) (A : Option Addr) (c : Nat), Rd w 3 A 2 (fcellsL (top2 ++ [⟨nCL, T, false⟩])) → Calls Tryd.prog 15 #[.slice A 2 c] w fun e w' => e = .returned (.tuple #[.agg #[.string nNone, .string nNone, .string nNone, .string nNone, .int .i64 200, .int .i64 (x2 : Int)], .bool true]) ∧ Below w.heap.size w w') := fun w A c hr => by
        have := response_c (c := c) hr (fok_app fok2 (fun f hf => by rw [List.mem_singleton.1 hf]; exact fok1 T szT)) (by omega) nNone nNone nNone nNone 200 (x2 : Int) (by rw [resp_len T okT, nT]; rfl)
        rwa [resp_len T okT] at this
      have R2 : Hid (∀ (w : World) (A : Option Addr) (c : Nat), Rd w 3 A 4 (fcellsL (top2 ++ [⟨nCL, T, false⟩, ⟨nX, nY, false⟩, ⟨nCL, T, false⟩])) → Calls Tryd.prog 15 #[.slice A 4 c] w fun e w' => e = .returned (.tuple #[.agg #[.string nNone, .string nNone, .string nNone, .string nNone, .int .i64 200, .int .i64 (x2 : Int)], .bool true]) ∧ Below w.heap.size w w') := fun w A c hr => by
        have := response_c (c := c) hr (fok_app fok2 (fun f hf => by
          simp only [List.mem_cons, List.not_mem_nil, or_false] at hf
          rcases hf with rfl | rfl | rfl
          · exact fok1 T szT
          · exact fok3
          · exact fok1 T szT)) (by omega) nNone nNone nNone nNone 200 (x2 : Int) (by rw [resp_again T okT, nT]; rfl)
        rwa [resp_again T okT] at this
      have R3 : Hid (∀ (w : World) (A : Option Addr) (c : Nat), Rd w 3 A 3 (fcellsL (top2 ++ [⟨nCL, T, false⟩, ⟨nCL, U, false⟩])) → Calls Tryd.prog 15 #[.slice A 3 c] w fun e w' => e = .returned (.tuple #[.agg #[.string M5, .string S5, .string A5, .string P5, .int .i64 st5, .int .i64 ln5], .bool bb]) ∧ Below w.heap.size w w') := fun w A c hr => by
        have := response_c (c := c) hr (fok_app fok2 (fun f hf => by
          simp only [List.mem_cons, List.not_mem_nil, or_false] at hf
          rcases hf with rfl | rfl
          · exact fok1 T szT
          · exact fok1 U szU)) (by omega) _ _ _ _ _ _ hm5
        rwa [resp_two T U okT okU, hbb] at this
      clear hT hU okT okU szT szU nT hm5 hbb fok1 fok2 fok3 lx2 ly2 lza lzb
      go_wp2_with (first
        | (go_at_call 19; (with_reducible refine (G1.out _).mono ?_); rintro e w2 ⟨rfl, hb2⟩
           have B2 := Lib.hid (below_from B1.out hb2)
           clear hb2 B1)
        | (go_at_call 19; (with_reducible refine (G2.out _).mono ?_); rintro e w3 ⟨rfl, hb3⟩
           have B3 := Lib.hid (below_from B2.out hb3)
           have H3 := Lib.hid (of_b (w := w3) _ rfl [.string nStatus, .string n200, .string nCL, .string T] 4 4 2 [(nStatus, n200), (nCL, T)] rfl rfl rfl (by omega))
           clear hb3 B2)
        | (go_at_call 18; (with_reducible refine H3.out.mono ?_); rintro e w4 ⟨A4, c4, rfl, ho4, hb4⟩
           have B4 := Lib.hid (below_from B3.out hb4)
           have H4 := Lib.hid (R1.out _ _ c4 (Rd.of_own ho4))
           clear ho4 hb4 B3 H3)
        | (go_at_call 15; (with_reducible refine H4.out.mono ?_); rintro e w5 ⟨rfl, hb5⟩
           have hb := below_al hb5 (.cells #[.string nNone, .string nNone, .string nNone, .string nNone, .int .i64 200, .int .i64 (x2 : Int)] 28)
           have B5 := Lib.hid (below_from B4.out hb)
           have X5 := Lib.hid (Blk.new w5 28 [.string nNone, .string nNone, .string nNone, .string nNone, .int .i64 200, .int .i64 (x2 : Int)])
           have H5 := Lib.hid (of_b (w := w5.alloc (.cells #[.string nNone, .string nNone, .string nNone, .string nNone, .int .i64 200, .int .i64 (x2 : Int)] 28)) (w5.heap.size + 1) (by simp) [.string nStatus, .string n200, .string nCL, .string T, .string nX, .string nY, .string nCL, .string T] 8 8 4 [(nStatus, n200), (nCL, T), (nX, nY), (nCL, T)] rfl rfl rfl (by omega))
           clear hb5 hb B4 H4)
        | (go_at_call 18; (with_reducible refine H5.out.mono ?_); rintro e w6 ⟨A6, c6, rfl, ho6, hb6⟩
           have B6 := Lib.hid (below_from B5.out hb6)
           have X6 := Lib.hid (X5.out.below hb6 X5.out.lt)
           have H6 := Lib.hid (R2.out _ _ c6 (Rd.of_own ho6))
           clear ho6 hb6 B5 X5 H5)
        | (go_at_call 15; (with_reducible refine H6.out.mono ?_); rintro e w7 ⟨rfl, hb7⟩
           have hb := below_al hb7 (.cells #[.string nNone, .string nNone, .string nNone, .string nNone, .int .i64 200, .int .i64 (x2 : Int)] 28)
           have B7 := Lib.hid (below_from B6.out hb)
           have X7 := Lib.hid (X6.out.below hb X6.out.lt)
           have Y7 := Lib.hid (Blk.new w7 28 [.string nNone, .string nNone, .string nNone, .string nNone, .int .i64 200, .int .i64 (x2 : Int)])
           have H7 := Lib.hid (of_b (w := w7.alloc (.cells #[.string nNone, .string nNone, .string nNone, .string nNone, .int .i64 200, .int .i64 (x2 : Int)] 28)) (w7.heap.size + 1) (by simp) [.string nStatus, .string n200, .string nCL, .string T, .string nCL, .string U] 6 6 3 [(nStatus, n200), (nCL, T), (nCL, U)] rfl rfl rfl (by omega))
           clear hb7 hb B6 X6 H6)
        | (go_at_call 18; (with_reducible refine H7.out.mono ?_); rintro e w8 ⟨A8, c8, rfl, ho8, hb8⟩
           have B8 := Lib.hid (below_from B7.out hb8)
           have X8 := Lib.hid (X7.out.below hb8 X7.out.lt)
           have Y8 := Lib.hid (Y7.out.below hb8 Y7.out.lt)
           have H8 := Lib.hid (R3.out _ _ c8 (Rd.of_own ho8))
           clear ho8 hb8 B7 X7 Y7 H7)
        | (go_at_call 15; (with_reducible refine H8.out.mono ?_); rintro e w9 ⟨rfl, hb9⟩
           have hb := below_al hb9 (.cells #[.string M5, .string S5, .string A5, .string P5, .int .i64 st5, .int .i64 ln5] 28)
           have B9 := Lib.hid (below_from B8.out hb)
           have x9 := X8.out.below hb X8.out.lt
           have y9 := Y8.out.below hb Y8.out.lt
           obtain ⟨x0, x1, x2', x3, x4, x5⟩ := cells6 x9
           obtain ⟨y0, y1, y2', y3, y4, y5⟩ := cells6 y9
           clear hb9 hb B8 X8 Y8 H8 x9 y9))
      go_ret
      exact ⟨ret_bool (by simp), B9.out⟩
end Go.Proofs.YtilabahcngjflaaDoor
