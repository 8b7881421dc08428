/- Stage 8: the law SettingsApply: the walk. -/
import Derived.Test.YthdikinpociiaaaSeF
import Derived.Test.YthdikinpociiaaaSeM
import Derived.Test.YthdikinpociiaaaSeJ
namespace Go.Proofs.Ythdikinpociiaaa
open Go.RowKit Go.Own Go.Set8
set_option linter.unusedVariables false
set_option maxRecDepth 100000
theorem setts_arg16 {W : World} {d : Nat} {A : Option Addr} {n c : Nat} (h : HoldsT Try.prog W (d + 3) 24 [.slice A n c]) : c * 16 ≤ 140737488351232 := by
  obtain ⟨h1, h2, h3, vs, hr, hv⟩ := HoldsT.slice (d := d + 2) Try.underlying24 h
  have hb : Try.prog.bytesOf 35 = 16 := by kernel_rfl
  rwa [hb] at h3
section
open Go.ChangeShapes Go.WideShapes Go.ChangeAt
theorem opened_setts16 {H : Type} {enc : TypeId × Value → H} {W : World} {base : Nat} {v : Value} {x : DataW H} {ps : List MemPlace} (hv : Value.okWide Try.prog W .any base 24 v)
    (h : DataW.Trod enc Try.prog W 0 (fun _ => true) true 24 v x ps) (hw : ∀ n ∈ x.weights Try.prog 24, n ≤ reachBytes) :
    ∃ (A : Option Addr) (n c : Nat) (l : List (Int × Nat)), v = .slice A n c ∧ (Rd W 2 A n (scells l) ∧ (∀ s ∈ l, setOk s) ∧ l.length = n ∧ n ≤ c ∧ c * 16 ≤ 140737488351232) := by
  obtain ⟨A, n, c, rfl, hs⟩ := opened_slice 9 Try.underlying24 hv h hw
  obtain ⟨l, h1, h2, h3, h4, _⟩ := setts_arg (d := 6) hs
  exact ⟨A, n, c, l, rfl, h1, h2, h3, h4, setts_arg16 (d := 6) hs⟩
end
theorem own_none8 (w : World) : (w.alloc (.cells #[] 35)).ownsRow w.heap.size 35 2 (.slice (some ⟨w.heap.size, 0, none⟩) 0 0) 0 [] :=
  ⟨by simp, .inr ⟨w.heap.size, 0, #[], rfl, Nat.le_refl _, Blk.new w 35 [], Nat.le_refl _, by simp [maxLen], by simp, by simp⟩⟩
theorem st_none8 {S : Nat → Prop} {w0 w : World} {L : List Ob} (s : St S w0 w L) : St S w0 (w.alloc (.cells #[] 35)) (L ++ [SLo w0.heap.size 35 2 (.slice (some ⟨w.heap.size, 0, none⟩) 0 0) 0 []]) :=
  s.add (St.floor [] [] (St.made_own (own_none8 w) (bl1 w _)) s.size)
theorem rall_g {w : World} (v : Va) (l : List (Int × Nat)) (srv : Bool) (x : Va) (gi : Bool) (gc : Int) (h : allV v l srv = (x, ⟨gi, gc⟩)) {A : Option Addr} {n c : Nat} (hl : Rd w 2 A n (scells l)) (hok : ∀ s ∈ l, s.2 < 4294967296) (hn : n ≤ 9223372036854775807) :
    Calls Try.prog 11 #[(.agg #[.int .i64 v.tab, .bool v.push, .int .i64 v.str, .int .i64 v.win, .int .i64 v.frm, .int .i64 v.lst]), .slice A n c, .bool srv] w fun e w' => e = .returned (.tuple #[(.agg #[.int .i64 x.tab, .bool x.push, .int .i64 x.str, .int .i64 x.win, .int .i64 x.frm, .int .i64 x.lst]), .agg #[.bool gi, .int .u32 gc, .int .i64 0]]) ∧ Below w.heap.size w w' := rall_c v l srv x ⟨gi, gc⟩ h hl hok hn
set_option maxHeartbeats 16000000 in
theorem lawApply {w0 : World} (v : Va) {A : Option Addr} {n c : Nat} {l : List (Int × Nat)} (hin : Rd w0 2 A n (scells l) ∧ (∀ s ∈ l, setOk s) ∧ l.length = n ∧ n ≤ c ∧ c * 16 ≤ 140737488351232) (srv : Bool) :
    Calls Try.prog 3 #[(.agg #[.int .i64 v.tab, .bool v.push, .int .i64 v.str, .int .i64 v.win, .int .i64 v.frm, .int .i64 v.lst]), .slice A n c, .bool srv] w0 fun e w' => e = .returned (.bool true) ∧ Below w0.heap.size w0 w' := by
  obtain ⟨hl, hok, hln, hnc, hc⟩ := hin
  obtain ⟨x, ⟨fi, fc⟩, hx⟩ : ∃ x g, allV v l srv = (x, g) := ⟨_, _, rfl⟩
  have HX := Lib.hid hx
  have HL := Lib.hid hl
  have HLN := Lib.hid hln
  have HOK : Hid (∀ s ∈ l, s.2 < 4294967296) := fun s hs => (hok s hs).2
  have S0 := Lib.hid (st1 w0 23 [.int .i64 v.tab, .bool v.push, .int .i64 v.str, .int .i64 v.win, .int .i64 v.frm, .int .i64 v.lst])
  have eqn := fun V => vals_neq V
  have egn : ∀ (I : Bool) (V : Int) (W : World), (binOp .neq 29 (.agg #[.bool I, .int .u32 V, .int .i64 0]) (.agg #[.bool I, .int .u32 V, .int .i64 0])).run Try.prog W = .ok (.bool false) W := fun I V W => flt_neq ⟨I, V⟩ W
  have hn9 : n ≤ 9223372036854775807 := by omega
  have hb16 : (0 + n) * 16 ≤ 140737488355328 := by omega
  clear hl hok hln hx hc
  go_enter Try.func3, Try.ntmps3
  go_wp2_with (first
    | (go_at_call 9; (with_reducible refine shown8_c.mono ?_); rintro e w1 ⟨rfl, hb⟩
       have S1 := Lib.hid (St.next S0.out hb)
       obtain ⟨k00, k01, k02, k03, k04, k05⟩ := cells6 (St.blk0 S1.out)
       have l0 := (St.blk0 S1.out).lt
       have m0 := Nat.lt_succ_of_lt l0
       have S2 := Lib.hid (st_none8 S1.out)
       clear hb)
    | (at_builtin
       refine wpList_append_rd rfl (.tmp 15) (.tmp 16) 24 rfl ES (.slice (some ⟨w1.heap.size, 0, none⟩) 0 0) 0 (scells []) rfl (St.own1 S2.out) A n c (scells l) rfl (St.rd S2.out HL.out (fun _ _ h => h)) (scells_one _) hb16 (by unfold maxLen; omega) S2.out.size ?_
       intro A3 c3 w3 ho3 hf3 h23
       have s3 := St.appended1 S2.out ho3 hf3 h23
       rw [Nat.zero_add] at s3 ⊢
       have S3 : Hid (St (fun _ => False) w0 w3 [BLo w0.heap.size 23 [.int .i64 v.tab, .bool v.push, .int .i64 v.str, .int .i64 v.win, .int .i64 v.frm, .int .i64 v.lst], SLo w0.heap.size 35 2 (.slice A3 n c3) n (scells l)]) := s3
       clear k00 k01 k02 k03 k04 k05 l0 m0
       obtain ⟨k00, k01, k02, k03, k04, k05⟩ := cells6 (St.blk0 S3.out)
       have l0 := (St.blk0 S3.out).lt
       have m0 := Nat.lt_succ_of_lt l0
       clear ho3 hf3 h23 s3)
    | (go_at_call 10; (with_reducible refine (all_g v l srv x fi fc HX.out (Rd.of_own (St.own1 S3.out)) HOK.out hn9).mono ?_); rintro e w4 ⟨rfl, hb⟩
       have S4 := Lib.hid (St.next S3.out hb)
       clear k00 k01 k02 k03 k04 k05 l0 m0
       obtain ⟨k00, k01, k02, k03, k04, k05⟩ := cells6 (St.blk0 S4.out)
       have l0 := (St.blk0 S4.out).lt
       have m0 := Nat.lt_succ_of_lt l0
       have S5 := Lib.hid (st_block2 S4.out 23 29 [.int .i64 x.tab, .bool x.push, .int .i64 x.str, .int .i64 x.win, .int .i64 x.frm, .int .i64 x.lst] [.bool fi, .int .u32 fc, .int .i64 0])
       clear hb)
    | (go_at_call 11; (with_reducible refine (rall_g v l srv x fi fc HX.out (St.rd S5.out HL.out (fun _ _ h => h)) HOK.out hn9).mono ?_); rintro e w5 ⟨rfl, hb⟩
       have S6 := Lib.hid (St.next S5.out hb)
       clear k00 k01 k02 k03 k04 k05 l0 m0
       obtain ⟨k00, k01, k02, k03, k04, k05⟩ := cells6 (St.blk0 S6.out)
       have l0 := (St.blk0 S6.out).lt
       have m0 := Nat.lt_succ_of_lt l0
       obtain ⟨k20, k21, k22, k23, k24, k25⟩ := cells6 (St.blk2 S6.out)
       have l2 := (St.blk2 S6.out).lt
       have m2 := Nat.lt_succ_of_lt l2
       obtain ⟨k30, k31, k32⟩ := cells3 (St.blk3 S6.out)
       have l3 := (St.blk3 S6.out).lt
       have m3 := Nat.lt_succ_of_lt l3
       have S7 := Lib.hid (st_block2 S6.out 23 29 [.int .i64 x.tab, .bool x.push, .int .i64 x.str, .int .i64 x.win, .int .i64 x.frm, .int .i64 x.lst] [.bool fi, .int .u32 fc, .int .i64 0])
       clear hb)
    | (go_at_call 12; (with_reducible refine (same8_c l (Rd.of_own (St.own1 S7.out)) (St.rd S7.out HL.out (fun _ _ h => h)) hn9).mono ?_); rintro e w6 ⟨rfl, kk, hk⟩
       have S8 := Lib.hid (St.drop1 (St.drewN S7.out kk))
       rw [← hk] at S8
       clear hk
       clear k00 k01 k02 k03 k04 k05 l0 m0
       clear k20 k21 k22 k23 k24 k25 l2 m2
       clear k30 k31 k32 l3 m3))
  obtain ⟨pa, hpa⟩ : ∃ p, w4.heap.size = p := ⟨_, rfl⟩
  obtain ⟨pb, hpb⟩ : ∃ p, w5.heap.size = p := ⟨_, rfl⟩
  rw [hpa, hpb] at S8 ⊢
  obtain ⟨mm, hmm⟩ : ∃ mm, mm = min n 1000 := ⟨_, rfl⟩
  clear hpa hpb
  go_loopg [13] mm (fun gh i w' => ∃ (k : Nat) (y : Va) (i1 : Bool) (i2 : Int), gh + k = mm ∧ i = .int .i64 (k : Int) ∧ St (fun _ => False) w0 w' [BLo w0.heap.size 23 [.int .i64 v.tab, .bool v.push, .int .i64 v.str, .int .i64 v.win, .int .i64 v.frm, .int .i64 v.lst], BLo pa 23 [.int .i64 y.tab, .bool y.push, .int .i64 y.str, .int .i64 y.win, .int .i64 y.frm, .int .i64 y.lst], BLo (pa + 1) 29 [.bool i1, .int .u32 i2, .int .i64 0], BLo pb 23 [.int .i64 y.tab, .bool y.push, .int .i64 y.str, .int .i64 y.win, .int .i64 y.frm, .int .i64 y.lst], BLo (pb + 1) 29 [.bool i1, .int .u32 i2, .int .i64 0]])
  case atStart => exact ⟨0, x, fi, fc, by omega, rfl, S8.out⟩
  case round =>
    obtain ⟨k, y, i1, i2, hk, rfl, hs⟩ := hrel
    cases gk with
    | succ g1 =>
      have hkn : k < n := by omega
      have hk5 : k < 1000 := by omega
      obtain ⟨⟨a, m⟩, ha⟩ : ∃ s, l[k]? = some s := ⟨_, List.getElem?_eq_getElem (by rw [HLN.out]; exact hkn)⟩
      obtain ⟨b, o, rfl, c0, c1⟩ := rd_set HL.out ha
      have HC0 := Lib.hid c0
      have HC1 := Lib.hid c1
      have hm := HOK.out _ (List.mem_of_getElem? ha)
      obtain ⟨y1, ⟨gi, gc⟩, hap⟩ : ∃ y1 g1', applyV v (a, m) srv = (y1, g1') := ⟨_, _, rfl⟩
      have HM := Lib.hid hm
      have HAP := Lib.hid hap
      have HJ := Lib.hid hk
      have HS := Lib.hid hs
      clear hs hm hap hk ha c0 c1
      go_upto_region 10 with (fail)
      go_cut [56] (fun s wx => St (fun _ => False) w0 wx [BLo w0.heap.size 23 [.int .i64 v.tab, .bool v.push, .int .i64 v.str, .int .i64 v.win, .int .i64 v.frm, .int .i64 v.lst], BLo pa 23 [.int .i64 y1.tab, .bool y1.push, .int .i64 y1.str, .int .i64 y1.win, .int .i64 y1.frm, .int .i64 y1.lst], BLo (pa + 1) 29 [.bool gi, .int .u32 gc, .int .i64 0], BLo pb 23 [.int .i64 y.tab, .bool y.push, .int .i64 y.str, .int .i64 y.win, .int .i64 y.frm, .int .i64 y.lst], BLo (pb + 1) 29 [.bool i1, .int .u32 i2, .int .i64 0]])
      case first =>
        obtain ⟨k00, k01, k02, k03, k04, k05⟩ := cells6 (St.blk0 HS.out)
        have e0 := HS.out.fr.cell HC0.out (fun h => h)
        have e1 := HS.out.fr.cell HC1.out (fun h => h)
        go_region_with (first
          | (go_at_call 13; (with_reducible refine (apply_g v a m HM.out srv y1 gi gc HAP.out).mono ?_); rintro e w8 ⟨rfl, hb⟩
             have S8 := Lib.hid (St.next HS.out.drew hb)
             obtain ⟨x0, x1, x2, x3, x4, x5⟩ := cells6 (St.blk1 S8.out)
             obtain ⟨u0, u1, u2⟩ := cells3 (St.blk2 S8.out)
             have f2 := (St.blk1 S8.out).frozen
             have f3 := (St.blk2 S8.out).frozen
             clear hb))
        all_goals
          go_wp2
          go_meet
          case rel => exact (St.set2 (St.set2 (St.set2 (St.set1 (St.set1 (St.set1 (St.set1 (St.set1 (St.set1 S8.out 0 (.int .i64 y1.tab)) 1 (.bool y1.push)) 2 (.int .i64 y1.str)) 3 (.int .i64 y1.win)) 4 (.int .i64 y1.frm)) 5 (.int .i64 y1.lst)) 0 (.bool gi)) 1 (.int .u32 gc)) 2 (.int .i64 0))
      case' rest =>
        have H1 := Lib.hid hcut
        clear hcut
      go_upto_region 11 with (fail)
      go_cut [66] (fun s wx => St (fun _ => False) w0 wx [BLo w0.heap.size 23 [.int .i64 v.tab, .bool v.push, .int .i64 v.str, .int .i64 v.win, .int .i64 v.frm, .int .i64 v.lst], BLo pa 23 [.int .i64 y1.tab, .bool y1.push, .int .i64 y1.str, .int .i64 y1.win, .int .i64 y1.frm, .int .i64 y1.lst], BLo (pa + 1) 29 [.bool gi, .int .u32 gc, .int .i64 0], BLo pb 23 [.int .i64 y1.tab, .bool y1.push, .int .i64 y1.str, .int .i64 y1.win, .int .i64 y1.frm, .int .i64 y1.lst], BLo (pb + 1) 29 [.bool gi, .int .u32 gc, .int .i64 0]])
      case first =>
        obtain ⟨k00, k01, k02, k03, k04, k05⟩ := cells6 (St.blk0 H1.out)
        have e0 := H1.out.fr.cell HC0.out (fun h => h)
        have e1 := H1.out.fr.cell HC1.out (fun h => h)
        go_region_with (first
          | (go_at_call 14; (with_reducible refine (rapply_g v a m HM.out srv y1 gi gc HAP.out).mono ?_); rintro e w8 ⟨rfl, hb⟩
             have S9 := Lib.hid (St.next H1.out.drew hb)
             obtain ⟨x0, x1, x2, x3, x4, x5⟩ := cells6 (St.blk3 S9.out)
             obtain ⟨u0, u1, u2⟩ := cells3 (St.blk4 S9.out)
             have f2 := (St.blk3 S9.out).frozen
             have f3 := (St.blk4 S9.out).frozen
             clear hb))
        all_goals
          go_wp2
          go_meet
          case rel => exact (St.set4 (St.set4 (St.set4 (St.set3 (St.set3 (St.set3 (St.set3 (St.set3 (St.set3 S9.out 0 (.int .i64 y1.tab)) 1 (.bool y1.push)) 2 (.int .i64 y1.str)) 3 (.int .i64 y1.win)) 4 (.int .i64 y1.frm)) 5 (.int .i64 y1.lst)) 0 (.bool gi)) 1 (.int .u32 gc)) 2 (.int .i64 0))
      case' rest =>
        have H2 := Lib.hid hcut
        obtain ⟨x0, x1, x2, x3, x4, x5⟩ := cells6 (St.blk1 hcut)
        obtain ⟨u0, u1, u2⟩ := cells3 (St.blk2 hcut)
        obtain ⟨z0, z1, z2, z3, z4, z5⟩ := cells6 (St.blk3 hcut)
        obtain ⟨t0, t1, t2⟩ := cells3 (St.blk4 hcut)
        clear hcut
        go_wp2
        go_roundg g1
        case measure => omega
        case rel => exact ⟨k + 1, y1, gi, gc, by have := HJ.out; omega, by go_num, H2.out⟩
    | zero =>
      obtain rfl : k = mm := by omega
      have HS := Lib.hid hs
      clear hs hk
      by_cases h5 : n ≤ 1000
      · have e : k = n := by omega
        have h6 : ¬ k < n := by omega
        clear hmm h5 e
        go_wp2
        go_ret
        exact ⟨rfl, St.below HS.out⟩
      · have e : k = 1000 := by omega
        have h6 : 1000 < n := by omega
        clear hmm h5
        subst e
        go_wp2
        go_ret
        exact ⟨rfl, St.below HS.out⟩
end Go.Proofs.Ythdikinpociiaaa
