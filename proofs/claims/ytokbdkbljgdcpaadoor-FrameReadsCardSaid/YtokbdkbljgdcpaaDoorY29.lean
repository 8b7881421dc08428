/- Several texts in one: Wq3. -/
import Derived.Test.YtokbdkbljgdcpaaDoorY18
import Derived.Test.YtokbdkbljgdcpaaDoorY27
import Derived.Test.YtokbdkbljgdcpaaDoorY23
import Derived.Test.YtokbdkbljgdcpaaDoorY26
/- The contract of Write: way 3. -/
namespace Go.Proofs.YtokbdkbljgdcpaaDoor
open Go.RowKit Go.Own Go.Frm
set_option linter.unusedVariables false
set_option maxRecDepth 100000
set_option maxHeartbeats 4000000 in
theorem write_3 (f : Fm) (hc : okF f) (A B : Option Addr) (n c m d : Nat) {w : World} (hG : Gl w) (hp : Rd w 1 A n (f.pay.map BV)) (hn : n ≤ 100000000) (hnc : n ≤ c) (hrd : Rd w 2 B m (scells f.list)) (hm : m ≤ 100000000) (hmay : mayB f = true) (hbig : (body f).length ≤ 16777215) (hpad : f.pad = 0) :
    Calls Tryd.prog 14 #[frV f (.slice A n c) (.slice B m d)] w (WrP w (wr f)) := by
  have hpl : f.pay.length = n := by simpa using hp.1
  have hll := rd_set_len hrd
  have P := (may_iff f).1 hmay
  have hk : f.kind = ((f.k : Nat) : Int) := by have := P.k0; unfold Fm.k; omega
  have hs : f.stream = ((f.stream.toNat : Nat) : Int) := by have := P.s0; omega
  have hp0 := P.p1
  have hk2 := P.k1
  have hs2 := P.s1
  have hfl := (bits_of f P).lt
  obtain ⟨fl, hflN⟩ : ∃ fl, flagsN f = fl := ⟨_, rfl⟩
  have hw0 : wr f = be (body f).length 3 ++ (be f.k 1 ++ (be (flagsN f) 1 ++ (be f.stream.toNat 4 ++ (padA f ++ (mustB f ++ (f.pay ++ padZ f)))))) := by simp [wr, headB, body]
  have hbl := body_len f
  rw [padA_len, padZ_len, hpad, hpl] at hbl
  obtain ⟨mu, hmu⟩ : ∃ mu, mustB f = mu := ⟨_, rfl⟩
  obtain ⟨l1, hl1⟩ : ∃ l1, mu.length = l1 := ⟨_, rfl⟩
  rw [hmu, hl1] at hbl
  obtain ⟨L, hL⟩ : ∃ L, (body f).length = L := ⟨_, rfl⟩
  rw [hL] at hbl hbig
  rw [hL, hmu, hflN] at hw0
  rw [hflN] at hfl
  have hA : padA f = [] := by unfold padA; rw [hpad]; rfl
  have hZ : padZ f = [] := by unfold padZ; rw [hpad]; rfl
  have hbl2 : L = l1 + n := by simpa using hbl
  rw [hA, hZ] at hw0
  have hkk : f.k < 256 := by have := P.k0; omega
  have hss : f.stream.toNat < 2147483648 := by have := P.s0; omega
  obtain ⟨R, hR⟩ : ∃ R, wr f = R := ⟨_, rfl⟩
  rw [hR] at hw0 ⊢
  have hcfl := fun W (hg : Gl W) => flagsOf_c f P A B n c m d hg hpl hll
  rw [hflN] at hcfl
  have hcmu := fun W (hg : Gl W) (hr : Rd W 2 B m (scells f.list)) => mustOf_c f P hc A B n c m d hg hr hm
  rw [hmu] at hcmu
  obtain ⟨k, hkv⟩ : ∃ k, f.k = k := ⟨_, rfl⟩
  obtain ⟨s, hsv⟩ : ∃ s, f.stream.toNat = s := ⟨_, rfl⟩
  rw [hkv] at hk
  rw [hsv] at hs
  rw [hkv, hsv] at hw0
  rw [hkv] at hkk
  rw [hsv] at hss
  have hcma := fun W (hg : Gl W) (hr : Rd W 2 B m (scells f.list)) => mayBe_any f A B n c m d hg hpl hll hr (by omega) _ hmay
  have hmul : mu.length ≤ 700000100 := by
    rw [← hmu, mustB_len, hll]
    cases (f.prio || hW f.k) <;> cases hT f.k <;> cases hC f.k <;> cases hI f.k <;> simp <;> omega
  rw [hl1] at hmul
  obtain ⟨kind, stream, fin, eh, ack, prio, pay, flags, pad, depend, excl, weight, code, list, last, inc⟩ := f
  simp only at *
  subst hk hs hpad
  have HG := Lib.hid (hG.alloc (.cells #[(.int .i64 (k : Int)), (.int .i64 (s : Int)), (.bool fin), (.bool eh), (.bool ack), (.bool prio), (.slice A n c), (.int .i64 flags), (.int .i64 0), (.int .i64 depend), (.bool excl), (.int .i64 weight), (.int .u32 (code : Int)), (.slice B m d), (.int .i64 last), (.int .i64 inc)] 27))
  have HX := Lib.hid (Blk.new w 27 (frC (Fm.mk (k : Int) (s : Int) fin eh ack prio pay flags 0 depend excl weight code list last inc) (.slice A n c) (.slice B m d)))
  have HB : Hid (Below w.heap.size w (w.alloc (.cells #[(.int .i64 (k : Int)), (.int .i64 (s : Int)), (.bool fin), (.bool eh), (.bool ack), (.bool prio), (.slice A n c), (.int .i64 flags), (.int .i64 0), (.int .i64 depend), (.bool excl), (.int .i64 weight), (.int .u32 (code : Int)), (.slice B m d), (.int .i64 last), (.int .i64 inc)] 27))) := (Below.refl _ _).alloc (Nat.le_refl _) _
  have HP := Lib.hid hp
  have HR := Lib.hid hrd
  have HMA := Lib.hid hcma
  have HMU := Lib.hid hcmu
  have HL1 := Lib.hid hl1
  have HFL := Lib.hid hcfl
  have HW0 := Lib.hid hw0
  have HBL := Lib.hid hbl2
  have HPL := Lib.hid hpl
  obtain ⟨ln, hln⟩ : ∃ ln, l1 + n = ln := ⟨_, rfl⟩
  have wa : IntKind.i64.wrap ((l1 : Int) + (n : Int)) = (ln : Int) := by rw [IntKind.wrap_i64]; omega
  have wb : IntKind.i64.wrap ((ln : Int) + 0) = (L : Int) := by rw [IntKind.wrap_i64]; omega
  obtain rfl : L = ln := by omega
  have wc : ¬ (16777215 : Int) < (L : Int) := by omega
  have wd : ¬ 16777215 < L := by omega
  obtain ⟨C, hC⟩ : ∃ C, 9 + L = C := ⟨_, rfl⟩
  have we : IntKind.i64.wrap (9 + (L : Int)) = (C : Int) := by rw [IntKind.wrap_i64]; omega
  have hmk := run_make_w (C := C) (by omega)
  clear hG hp hrd hcma hmay hpl hll hcmu hl1 hmu hkv hsv P hcfl hw0 hR hflN hL hA hZ hbl hbl2
  go_enter Tryd.func14, Tryd.ntmps14
  go_wp2_with (first
    | (go_at_call 31; (with_reducible refine (HMA.out _ HG.out (HR.out.below HB.out)).mono ?_); rintro e w1 ⟨rfl, hb⟩
       have hx5 := blk_below HX.out hb
       have hb5 := HB.out.trans (hb.mono HB.out.size)
       have hg5 := HG.out.below hb
       clear HX HB HG 
       have HX := Lib.hid hx5
       have HB := Lib.hid hb5
       have HG := Lib.hid hg5
       obtain ⟨z0, z1, z2, z3, z4, z5, z6, z7, z8, z9, z10, z11, z12, z13, z14, z15⟩ := frCells HX.out
       simp only at z0 z1 z2 z3 z4 z5 z6 z7 z8 z9 z10 z11 z12 z13 z14 z15
       clear hb hx5 hb5 hg5)
    | (go_at_call 32; (with_reducible refine (HMU.out _ HG.out (HR.out.below HB.out)).mono ?_); rintro e w1 ⟨A1, c1, rfl, ho1, hb⟩
       rw [HL1.out] at ho1 ⊢
       have hx5 := blk_below HX.out hb
       have hb5 := HB.out.trans (hb.mono HB.out.size)
       have hg5 := HG.out.below hb
       clear HX HB HG z0 z1 z2 z3 z4 z5 z6 z7 z8 z9 z10 z11 z12 z13 z14 z15
       have HX := Lib.hid hx5
       have HB := Lib.hid hb5
       have HG := Lib.hid hg5
       obtain ⟨z0, z1, z2, z3, z4, z5, z6, z7, z8, z9, z10, z11, z12, z13, z14, z15⟩ := frCells HX.out
       simp only at z0 z1 z2 z3 z4 z5 z6 z7 z8 z9 z10 z11 z12 z13 z14 z15
       have WT := Lib.hid (wt_new (w := w1) (C := C) (by omega))
       have B3 : Hid (Below w1.heap.size w1 ((w1.alloc (.cells (zeros zeroB C).toArray 5)).alloc (.cells #[.slice (some ⟨w1.heap.size, 0, none⟩) 0 C] 76))) := ((Below.refl _ _).alloc (Nat.le_refl _) _).alloc (by simp) _
       have X3 := HX
       have G3 := HG
       have M3 := Lib.hid (Rd.of_own ho1)
       have P3 := Lib.hid (HP.out.below HB.out)
       have L3 := HX.out.lt
       have S3 := Lib.hid HB.out.size
       clear hb hx5 hb5 hg5)
    | (go_at_call 33; (with_reducible refine (put3_c (v := L) WT.out (by omega) (by simp only [List.length_append, be_length, List.length_nil]; omega)).mono ?_); rintro e w5 ⟨rfl, hw, hb⟩
       (try rw [List.nil_append] at hw)
       have hb5 := B3.out.trans hb
       clear WT B3 z0 z1 z2 z3 z4 z5 z6 z7 z8 z9 z10 z11 z12 z13 z14 z15
       have WT := Lib.hid hw
       have B3 := Lib.hid hb5
       obtain ⟨z0, z1, z2, z3, z4, z5, z6, z7, z8, z9, z10, z11, z12, z13, z14, z15⟩ := frCells (X3.out.below hb5 L3)
       simp only at z0 z1 z2 z3 z4 z5 z6 z7 z8 z9 z10 z11 z12 z13 z14 z15
       clear hw hb hb5)
    | (go_at_call 33; (with_reducible refine (put1_c (v := k) WT.out (by omega) (by simp only [List.length_append, be_length]; omega)).mono ?_); rintro e w5 ⟨rfl, hw, hb⟩
       (try rw [List.nil_append] at hw)
       have hb5 := B3.out.trans hb
       clear WT B3 z0 z1 z2 z3 z4 z5 z6 z7 z8 z9 z10 z11 z12 z13 z14 z15
       have WT := Lib.hid hw
       have B3 := Lib.hid hb5
       obtain ⟨z0, z1, z2, z3, z4, z5, z6, z7, z8, z9, z10, z11, z12, z13, z14, z15⟩ := frCells (X3.out.below hb5 L3)
       simp only at z0 z1 z2 z3 z4 z5 z6 z7 z8 z9 z10 z11 z12 z13 z14 z15
       clear hw hb hb5)
    | (go_at_call 34; (with_reducible refine (HFL.out _ (G3.out.below B3.out)).mono ?_); rintro e w5 ⟨rfl, hb⟩
       have hw := WT.out.below hb
       have hb5 := B3.out.trans (hb.mono B3.out.size)
       clear WT B3 z0 z1 z2 z3 z4 z5 z6 z7 z8 z9 z10 z11 z12 z13 z14 z15
       have WT := Lib.hid hw
       have B3 := Lib.hid hb5
       obtain ⟨z0, z1, z2, z3, z4, z5, z6, z7, z8, z9, z10, z11, z12, z13, z14, z15⟩ := frCells (X3.out.below hb5 L3)
       simp only at z0 z1 z2 z3 z4 z5 z6 z7 z8 z9 z10 z11 z12 z13 z14 z15
       clear hw hb hb5)
    | (go_at_call 33; (with_reducible refine (put1_c (v := fl) WT.out (by omega) (by simp only [List.length_append, be_length]; omega)).mono ?_); rintro e w5 ⟨rfl, hw, hb⟩
       (try rw [List.nil_append] at hw)
       have hb5 := B3.out.trans hb
       clear WT B3 z0 z1 z2 z3 z4 z5 z6 z7 z8 z9 z10 z11 z12 z13 z14 z15
       have WT := Lib.hid hw
       have B3 := Lib.hid hb5
       obtain ⟨z0, z1, z2, z3, z4, z5, z6, z7, z8, z9, z10, z11, z12, z13, z14, z15⟩ := frCells (X3.out.below hb5 L3)
       simp only at z0 z1 z2 z3 z4 z5 z6 z7 z8 z9 z10 z11 z12 z13 z14 z15
       clear hw hb hb5)
    | (go_at_call 33; (with_reducible refine (put4_c (v := s) WT.out (by omega) (by simp only [List.length_append, be_length]; omega)).mono ?_); rintro e w5 ⟨rfl, hw, hb⟩
       (try rw [List.nil_append] at hw)
       have hb5 := B3.out.trans hb
       clear WT B3 z0 z1 z2 z3 z4 z5 z6 z7 z8 z9 z10 z11 z12 z13 z14 z15
       have WT := Lib.hid hw
       have B3 := Lib.hid hb5
       obtain ⟨z0, z1, z2, z3, z4, z5, z6, z7, z8, z9, z10, z11, z12, z13, z14, z15⟩ := frCells (X3.out.below hb5 L3)
       simp only at z0 z1 z2 z3 z4 z5 z6 z7 z8 z9 z10 z11 z12 z13 z14 z15
       obtain ⟨Aw, cw, hwb, hwo, hwp⟩ := id hw
       obtain ⟨kw, hkw⟩ : ∃ kw, (be L 3 ++ be k 1 ++ be fl 1 ++ be s 4).length = kw := ⟨_, rfl⟩
       rw [hkw] at hwb hwo
       have y0 := hwb.cell 0
       simp only [List.getElem?_cons_zero] at y0
       have WB := Lib.hid hwb
       have WO := Lib.hid hwo
       have KW := Lib.hid hkw
       have lw : kw ≤ 1000 := by rw [← hkw]; simp only [List.length_append, be_length]; omega
       have lw0 : 9 ≤ kw := by rw [← hkw]; simp only [List.length_append, be_length]; omega
       have SBw := Lib.hid hb5.size
       have WBw := WB
       have WOw := WO
       have B3w := B3
       clear hwb hwo hkw
       clear hw hb hb5)
    | (at_builtin
       refine wpList_append_rd2 rfl (.tmp 44) (.tmp 45) 76 22 rfl EW Tryd.underlying22 (base := w1.heap.size) (.slice Aw (kw) cw) (kw) ((be L 3 ++ be k 1 ++ be fl 1 ++ be s 4).map BV) rfl WOw.out A1 l1 c1 (mu.map BV) rfl (M3.out.below B3w.out) (BV_one _) (by omega) (by unfold maxLen; omega) SBw.out ?_
       intro Ax cx wx ho6 hf6 h26
       obtain ⟨x6, x7, o7, b5, b7⟩ := wt_put (ys := mu) WBw.out WOw.out (Nat.le_succ _) SBw.out ho6 hf6
       have y6 := x6.cell 0
       have y7 := x7.cell 0
       simp only [List.getElem?_cons_zero] at y6 y7
       have yf := x6.frozen 0
       have yl := x6.lt
       have B3x := Lib.hid (B3w.out.trans b7)
       have SBx := Lib.hid B3x.out.size
       have WBx := Lib.hid x7
       have WOx := Lib.hid o7
       clear z0 z1 z2 z3 z4 z5 z6 z7 z8 z9 z10 z11 z12 z13 z14 z15
       obtain ⟨z0, z1, z2, z3, z4, z5, z6, z7, z8, z9, z10, z11, z12, z13, z14, z15⟩ := frCells (X3.out.below (B3w.out.trans b5) L3)
       simp only at z0 z1 z2 z3 z4 z5 z6 z7 z8 z9 z10 z11 z12 z13 z14 z15
       clear x6 x7 o7 b5 b7 ho6 hf6 h26)
    | (at_builtin
       refine wpList_append_rd2 rfl (.tmp 47) (.tmp 49) 76 22 rfl EW Tryd.underlying22 (base := w1.heap.size) (.slice Ax (kw + l1) cx) (kw + l1) ((be L 3 ++ be k 1 ++ be fl 1 ++ be s 4 ++ mu).map BV) rfl WOx.out A n c (pay.map BV) rfl (P3.out.below B3x.out) (BV_one _) (by omega) (by unfold maxLen; omega) SBx.out ?_
       intro Ay cy wy ho6 hf6 h26
       obtain ⟨x6, x7, o7, b5, b7⟩ := wt_put (ys := pay) WBx.out WOx.out (Nat.le_succ _) SBx.out ho6 hf6
       have y6 := x6.cell 0
       have y7 := x7.cell 0
       simp only [List.getElem?_cons_zero] at y6 y7
       have yf := x6.frozen 0
       have yl := x6.lt
       have B3y := Lib.hid (B3x.out.trans b7)
       have SBy := Lib.hid B3y.out.size
       have WBy := Lib.hid x7
       have WOy := Lib.hid o7
       clear z0 z1 z2 z3 z4 z5 z6 z7 z8 z9 z10 z11 z12 z13 z14 z15
       obtain ⟨z0, z1, z2, z3, z4, z5, z6, z7, z8, z9, z10, z11, z12, z13, z14, z15⟩ := frCells (X3.out.below (B3x.out.trans b5) L3)
       simp only at z0 z1 z2 z3 z4 z5 z6 z7 z8 z9 z10 z11 z12 z13 z14 z15
       clear x6 x7 o7 b5 b7 ho6 hf6 h26))
  go_ret2
  have hRe : R = be L 3 ++ be k 1 ++ be fl 1 ++ be s 4 ++ mu ++ pay := by rw [HW0.out]; simp
  have hRl : R.length = kw + l1 + n := by rw [hRe]; simp only [List.length_append, HL1.out, HPL.out]; have := KW.out; simp only [List.length_append] at this; omega
  refine ⟨Ay, cy, congrArg (fun z => Ending.returned (.tuple #[Value.slice Ay z cy, .int .i64 0])) hRl.symm, ?_, HB.out.trans (B3y.out.mono HB.out.size)⟩
  rw [hRl, hRe]
  exact own_lower WOy.out HB.out.size
end Go.Proofs.YtokbdkbljgdcpaaDoor
