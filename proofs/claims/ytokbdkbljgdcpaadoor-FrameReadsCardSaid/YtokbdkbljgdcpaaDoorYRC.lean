/- The document's read of a SETTINGS payload. -/
import Derived.Test.YtokbdkbljgdcpaaDoorYRA
namespace Go.Proofs.YtokbdkbljgdcpaaDoor
open Go.RowKit Go.Own Go.Frm
set_option linter.unusedVariables false
set_option linter.unusedSimpArgs false
set_option maxRecDepth 100000
theorem guard_app {P : Program} {w : World} {ops : Array Oper} {dst : Option Nat} {args : Array Operand} {ts : Array TypeId} {ty : TypeId} {pos : String} {aft : Array Edge} {g : Option (Nat × Bool)} {a b : Act} {K : Act → World → Prop} {Q : Exit → Act → World → Prop} {E' : Prop}
    (h : if Region.wanted (⟨dst, .call { callee := .builtin .append, args := args, argTypes := ts }, ty, pos, aft, g⟩ : Oper) (yielded ops b.tmps) = true then Oper.wp P (⟨dst, .call { callee := .builtin .append, args := args, argTypes := ts }, ty, pos, aft, g⟩ : Oper) a w K Q else E') :
    if Region.wanted (⟨dst, .call { callee := .builtin .append, args := args, argTypes := ts }, ty, pos, aft, g⟩ : Oper) (yielded ops b.tmps) = true then Oper.wp P (⟨dst, .call { callee := .builtin .append, args := args, argTypes := ts }, ty, pos, aft, g⟩ : Oper) a w K Q else E' := h
set_option maxHeartbeats 16000000 in
theorem read_4 (k fl : Nat) (hk4 : k = 4) (hfl : fl < 256) (xs : List UInt8) (hx : xs.length ≤ 16777215) (m : Nat) (h6 : xs.length = 6 * m) (t0 : Bool) (b0 : (bits .and .i64 (fl : Int) 1 != 0) = t0) {w : World} :
    Calls Tryd.prog 49 #[.int .i64 (k : Int), .int .i64 (fl : Int), .string ⟨xs.toArray⟩] w fun e w' => ∃ B d, e = .returned (.agg #[(.int .i64 (k : Int)), (.int .i64 0), (.bool false), (.bool false), (.bool t0), (.bool false), (.slice none 0 0), (.int .i64 0), (.int .i64 0), (.int .i64 0), (.bool false), (.int .i64 0), (.int .u32 0), (.slice B m d), (.int .i64 0), (.int .i64 0)]) ∧
      Rd w' 2 B m (scells (settsN m xs)) ∧ Below w.heap.size w w' ∧ ∀ a, B = some a → w.heap.size ≤ a.block := by
  have Ve : Hid (hE k = false) := by rw [hk4]; rfl
  have Vh : Hid (hH k = false) := by rw [hk4]; rfl
  have Va : Hid (hA k = true) := by rw [hk4]; rfl
  have Vr : Hid (hR k = false) := by rw [hk4]; rfl
  have Vb : Hid (hB k = false) := by rw [hk4]; rfl
  have Vf : Hid (hF k = false) := by rw [hk4]; rfl
  have Vp : Hid (hP k = false) := by rw [hk4]; rfl
  have Vc : Hid (hC k = false) := by rw [hk4]; rfl
  have Vl : Hid (hL k = true) := by rw [hk4]; rfl
  have Vt : Hid (hT k = false) := by rw [hk4]; rfl
  have Vi : Hid (hI k = false) := by rw [hk4]; rfl
  have Vw : Hid (hW k = false) := by rw [hk4]; rfl
  have hq : ((k : Int) == 2) = false := by rw [hk4]; rfl
  have S0 := Lib.hid ((St.nil (fun _ => False) w).block 27 zero16)
  have H6 := Lib.hid h6
  have HX := Lib.hid hx
  have SX : Hid (xs.length ≤ 140737488355328) := (by omega : xs.length ≤ 140737488355328)
  have N4 : Hid ((4 : Int) = ((4 : Nat) : Int)) := rfl
  have N2 : Hid ((2 : Int) = ((2 : Nat) : Int)) := rfl
  have hLN : m ≤ 2796203 := by omega
  clear hk4 h6 hx
  go_enter Tryd.func49, Tryd.ntmps49
  go_upto_region 3 with (first
    | (go_at_call 48; (with_reducible refine (has_c k _).mono ?_); rintro e w1 ⟨rfl, hb⟩
       have SH := Lib.hid (S0.out.next hb)
       clear hb
       have SG := Lib.hid (SH.out.block 27 [(.int .i64 (k : Int)), (.int .i64 0), (.bool false), (.bool false), (.bool false), (.bool false), (.slice none 0 0), (.int .i64 0), (.int .i64 0), (.int .i64 0), (.bool false), (.int .i64 0), (.int .u32 0), (.slice none 0 0), (.int .i64 0), (.int .i64 0)])
       clear SH S0))
  generalize w1.alloc (.cells ([(.int .i64 (k : Int)), (.int .i64 0), (.bool false), (.bool false), (.bool false), (.bool false), (.slice none 0 0), (.int .i64 0), (.int .i64 0), (.int .i64 0), (.bool false), (.int .i64 0), (.int .u32 0), (.slice none 0 0), (.int .i64 0), (.int .i64 0)] : List Value).toArray 27) = w2 at SG ⊢
  generalize w1.heap.size = g at SG ⊢
  have HS : Hid (St (fun _ => False) w w2 [BLo w.heap.size 27 zero16, BLo g 27 [(.int .i64 (k : Int)), (.int .i64 0), (.bool false), (.bool false), (.bool false), (.bool false), (.slice none 0 0), (.int .i64 0), (.int .i64 0), (.int .i64 0), (.bool false), (.int .i64 0), (.int .u32 0), (.slice none 0 0), (.int .i64 0), (.int .i64 0)]]) := SG
  clear SG
  have hb := St.blk1 HS.out
  have hlt := hb.lt
  have f2 := hb.frozen 2
  have f3 := hb.frozen 3
  have f4 := hb.frozen 4
  have f5 := hb.frozen 5
  have c2 := hb.cell 2
  have c3 := hb.cell 3
  have c4 := hb.cell 4
  have c5 := hb.cell 5
  simp only [List.getElem?_cons_zero, List.getElem?_cons_succ] at c2 c3 c4 c5
  clear hb
  have HS2 := Lib.hid (slo_nil (St.set1 (St.set1 (St.set1 (St.set1 HS.out 2 (.bool false)) 4 (.bool t0)) 3 (.bool false)) 5 (.bool false)))
  go_wp2_with (first
    | (go_at_call 47; (with_reducible refine (ltr_e k _ Ve.out _).mono ?_); rintro e w2 ⟨rfl, rfl⟩)
    | (go_at_call 47; (with_reducible refine (ltr_a k _ Va.out _).mono ?_); rintro e w2 ⟨rfl, rfl⟩)
    | (go_at_call 47; (with_reducible refine (ltr_h k _ Vh.out _).mono ?_); rintro e w2 ⟨rfl, rfl⟩)
    | (go_at_call 47; (with_reducible refine (ltr_r k _ Vr.out _).mono ?_); rintro e w2 ⟨rfl, rfl⟩)
    | (go_at_call 47; (with_reducible refine (ltr_f k _ Vf.out _).mono ?_); rintro e w2 ⟨rfl, rfl⟩)
    | (go_at_call 47; (with_reducible refine (ltr_p k _ Vp.out _).mono ?_); rintro e w2 ⟨rfl, rfl⟩)
    | (go_at_call 47; (with_reducible refine (ltr_t k _ Vt.out _).mono ?_); rintro e w2 ⟨rfl, rfl⟩)
    | (go_at_call 47; (with_reducible refine (ltr_c k _ Vc.out _).mono ?_); rintro e w2 ⟨rfl, rfl⟩)
    | (go_at_call 47; (with_reducible refine (ltr_i k _ Vi.out _).mono ?_); rintro e w2 ⟨rfl, rfl⟩)
    | (go_at_call 47; (with_reducible refine (ltr_l k _ Vl.out _).mono ?_); rintro e w2 ⟨rfl, rfl⟩))
  obtain ⟨w3, hw3⟩ : ∃ w3, ((((w2.setCell ⟨g, 2, none⟩ (.bool false)).setCell ⟨g, 4, none⟩ (.bool t0)).setCell ⟨g, 3, none⟩ (.bool false)).setCell ⟨g, 5, none⟩ (.bool false)) = w3 := ⟨_, rfl⟩
  rw [hw3] at HS2 ⊢
  have HS3 : Hid (St (fun _ => False) w w3 [BLo w.heap.size 27 zero16, BLo g 27 [(.int .i64 (k : Int)), (.int .i64 0), (.bool false), (.bool false), (.bool t0), (.bool false), (.slice none 0 0), (.int .i64 0), (.int .i64 0), (.int .i64 0), (.bool false), (.int .i64 0), (.int .u32 0), (.slice none 0 0), (.int .i64 0), (.int .i64 0)], SLo w.heap.size 50 2 (.slice none 0 0) 0 (scells (settsN 0 xs))]) := HS2
  clear hw3 HS2 HS f2 f3 f4 f5 c2 c3 c4 c5 hlt
  go_loopg [10] m (fun gh i w' => ∃ (j : Nat) (A : Option Addr) (c : Nat), gh + j = m ∧ i = .int .i64 ((6 * j : Nat) : Int) ∧ St (fun _ => False) w w' [BLo w.heap.size 27 zero16, BLo g 27 [(.int .i64 (k : Int)), (.int .i64 0), (.bool false), (.bool false), (.bool t0), (.bool false), (.slice none 0 0), (.int .i64 0), (.int .i64 0), (.int .i64 0), (.bool false), (.int .i64 0), (.int .u32 0), (.slice A j c), (.int .i64 0), (.int .i64 0)], SLo w.heap.size 50 2 (.slice A j c) j (scells (settsN j xs))])
  case atStart => exact ⟨0, none, 0, by omega, rfl, HS3.out⟩
  case round =>
    obtain ⟨j, A, c, hj, rfl, hs⟩ := hrel
    have HJ := Lib.hid hs
    clear hs HS3
    obtain ⟨i6, hi6⟩ : ∃ q, 6 * j = q := ⟨_, rfl⟩
    rw [hi6]
    cases gk with
    | succ g1 =>
      as_aux_lemma =>
        have k1 : i6 < xs.length := by rw [H6.out]; omega
        obtain ⟨i8, hi8⟩ : ∃ q, i6 + 2 = q := ⟨_, rfl⟩
        obtain ⟨i12, hi12⟩ : ∃ q, i6 + 6 = q := ⟨_, rfl⟩
        obtain ⟨av, hav⟩ : ∃ v, num ((xs.drop i6).take 2) = v := ⟨_, rfl⟩
        obtain ⟨vv, hvv⟩ : ∃ v, num ((xs.drop i8).take 4) = v := ⟨_, rfl⟩
        have ha2 : av < 65536 := by rw [← hav]; exact num_take_lt _ 2
        have hv2 : vv < 4294967296 := by rw [← hvv]; exact num_take_lt _ 4
        have hsn : settsN (j + 1) xs = settsN j xs ++ [((av : Int), vv)] := by rw [settsN_snoc, hi6, hi8, hav, hvv]
        have hsc : scells (settsN (j + 1) xs) = scells (settsN j xs) ++ scells [((av : Int), vv)] := by rw [hsn, scells_append]
        have HSC := Lib.hid hsc
        have HAV := Lib.hid hav
        have HVV := Lib.hid hvv
        have M2 : Hid (i6 + 2 ≤ xs.length) := by show _ ≤ _; rw [H6.out]; omega
        have M4 : Hid (i8 + 4 ≤ xs.length) := by show _ ≤ _; rw [H6.out]; omega
        have hl4 := HX.out
        have u1 : IntKind.i64.wrap ((i6 : Int) + 2) = (i8 : Int) := by rw [i64w (by omega)]; omega
        have u2 : IntKind.i64.wrap (av : Int) = (av : Int) := i64w (by omega)
        have u3 : IntKind.u32.wrap (vv : Int) = (vv : Int) := by rw [IntKind.wrap_u32]; omega
        have u4 : IntKind.i64.wrap ((i6 : Int) + 6) = (i12 : Int) := by rw [i64w (by omega)]; omega
        have SA := Lib.hid (St.drew (HJ.out.alloc (.cells #[.int .i64 (av : Int), .int .u32 (vv : Int)] 50)))
        have hb3 := St.blk1 SA.out
        have y5 := hb3.cell 13
        have hb0 := St.blk1 HJ.out
        have y0 := hb0.cell 13
        have y1 := hb0.drew.cell 13
        have yl := hb0.lt
        simp only [List.getElem?_cons_zero, List.getElem?_cons_succ] at y0 y1 y5
        have RN := Lib.hid (rd_one_set (Blk.new wr 50 [.int .i64 (av : Int), .int .u32 (vv : Int)]).drew)
        have hz3 := SA.out.size
        have HZ3 := Lib.hid hz3
        clear hav hvv hsn hsc hl4 hb0 hb3 ha2 hv2 hz3
        go_upto_if 119 with (fail)
        go_cut [119] (fun s wx => wx = wr)
        case first =>
          go_wp2
          go_meet
          case rel => rfl
        case' rest =>
          rw [hcut]
          clear hcut
          go_step
          go_step
          go_cut [135] (fun s wx => ∃ (A4 : Option Addr) (c4 : Nat), St (fun _ => False) w wx [BLo w.heap.size 27 zero16, BLo g 27 [(.int .i64 (k : Int)), (.int .i64 0), (.bool false), (.bool false), (.bool t0), (.bool false), (.slice none 0 0), (.int .i64 0), (.int .i64 0), (.int .i64 0), (.bool false), (.int .i64 0), (.int .u32 0), (.slice A4 (j + 1) c4), (.int .i64 0), (.int .i64 0)], SLo w.heap.size 50 2 (.slice A4 (j + 1) c4) (j + 1) (scells (settsN (j + 1) xs))])
        case first =>
          clear Ve Vh Va Vr Vb Vf Vp Vc Vl Vt Vi Vw hq HX H6 HJ k1 hi6 hi8 hi12 u4
          go_upto_region 30 with (fail)
          go_region_law (first
            | (with_reducible refine guard_app ?_
               refine step_append_rd rfl (.tmp 123) (.tmp 134) 25 rfl ES (.slice A j c) j (scells (settsN j xs)) rfl SA.out.own2 (some ⟨wr.heap.size, 0, none⟩) 1 1 (scells [((av : Int), vv)]) rfl RN.out (scells_one _) (by omega) (by unfold maxLen; omega) HZ3.out ?_
               intro A4 c4 w4 ho4 hf4 h24
               have S4' := Lib.hid (SA.out.appended2 ho4 hf4 h24)
               have X4 := St.blk1 S4'.out
               have v1 := X4.cell 13
               have vf := X4.frozen 13
               have vl := X4.lt
               simp only [List.getElem?_cons_zero, List.getElem?_cons_succ] at v1
               clear ho4 hf4 h24 X4)
            | (go_simp; go_at_call 42; (with_reducible refine (get_w xs i6 2 _ _ rfl N2.out M2.out SX.out (by omega) av HAV.out _).mono ?_); rintro e w3 ⟨rfl, hw3⟩; rw [hw3]; clear hw3)
            | (go_simp; go_at_call 42; (with_reducible refine (get_w xs i8 4 _ _ rfl N4.out M4.out SX.out (by omega) vv HVV.out _).mono ?_); rintro e w3 ⟨rfl, hw3⟩; rw [hw3]; clear hw3))
          all_goals
            go_wp2
            go_meet
            case rel =>
              have hfin := St.set1 S4'.out 13 (.slice A4 (j + 1) c4)
              rw [← HSC.out] at hfin
              exact ⟨A4, c4, hfin⟩
        case rest =>
          obtain ⟨A4, c4, hs4⟩ := hcut
          have HS4 := Lib.hid hs4
          clear hs4
          go_wp2
          go_roundg g1
          case measure => omega
          case rel => exact ⟨j + 1, A4, c4, by omega, by rw [show i12 = 6 * (j + 1) by omega], HS4.out⟩
    | zero =>
      have k1 : ¬ i6 < xs.length := by rw [H6.out]; omega
      obtain rfl : j = m := by omega
      have hb := St.blk1 HJ.out
      have hlt := hb.lt
      have z0 := hb.cell 0
      have z1 := hb.cell 1
      have z2 := hb.cell 2
      have z3 := hb.cell 3
      have z4 := hb.cell 4
      have z5 := hb.cell 5
      have z6 := hb.cell 6
      have z7 := hb.cell 7
      have z8 := hb.cell 8
      have z9 := hb.cell 9
      have z10 := hb.cell 10
      have z11 := hb.cell 11
      have z12 := hb.cell 12
      have z13 := hb.cell 13
      have z14 := hb.cell 14
      have z15 := hb.cell 15
      simp only [List.getElem?_cons_zero, List.getElem?_cons_succ] at z0 z1 z2 z3 z4 z5 z6 z7 z8 z9 z10 z11 z12 z13 z14 z15
      have hp := St.blk0 HJ.out
      have hpl := hp.lt
      have y0 := hp.cell 0
      have y1 := hp.cell 1
      have y2 := hp.cell 2
      have y3 := hp.cell 3
      have y4 := hp.cell 4
      have y5 := hp.cell 5
      have y6 := hp.cell 6
      have y7 := hp.cell 7
      have y8 := hp.cell 8
      have y9 := hp.cell 9
      have y10 := hp.cell 10
      have y11 := hp.cell 11
      have y12 := hp.cell 12
      have y13 := hp.cell 13
      have y14 := hp.cell 14
      have y15 := hp.cell 15
      simp only [zero16, List.getElem?_cons_zero, List.getElem?_cons_succ] at y0 y1 y2 y3 y4 y5 y6 y7 y8 y9 y10 y11 y12 y13 y14 y15
      have fz : ∀ i, _ = false := fun i => hp.frozen i
      clear hb hp
      go_wp2_with (first
        | (go_at_call 47; (with_reducible refine (ltr_b k _ Vb.out _).mono ?_); rintro e w2 ⟨rfl, rfl⟩))
      have hs2 := (St.set0 (St.set0 (St.set0 (St.set0 (St.set0 (St.set0 (St.set0 (St.set0 (St.set0 (St.set0 (St.set0 (St.set0 (St.set0 (St.set0 (St.set0 (St.set0 HJ.out 0 (.int .i64 (k : Int))) 1 (.int .i64 0)) 2 (.bool false)) 3 (.bool false)) 4 (.bool t0)) 5 (.bool false)) 6 (.slice none 0 0)) 7 (.int .i64 0)) 8 (.int .i64 0)) 9 (.int .i64 0)) 10 (.bool false)) 11 (.int .i64 0)) 12 (.int .u32 0)) 13 (.slice A j c)) 14 (.int .i64 0)) 15 (.int .i64 0))
      obtain ⟨wf, hwf⟩ : ∃ wf, ((((((((((((((((w2.setCell ⟨w.heap.size, 0, none⟩ (.int .i64 (k : Int))).setCell ⟨w.heap.size, 1, none⟩ (.int .i64 0)).setCell ⟨w.heap.size, 2, none⟩ (.bool false)).setCell ⟨w.heap.size, 3, none⟩ (.bool false)).setCell ⟨w.heap.size, 4, none⟩ (.bool t0)).setCell ⟨w.heap.size, 5, none⟩ (.bool false)).setCell ⟨w.heap.size, 6, none⟩ (.slice none 0 0)).setCell ⟨w.heap.size, 7, none⟩ (.int .i64 0)).setCell ⟨w.heap.size, 8, none⟩ (.int .i64 0)).setCell ⟨w.heap.size, 9, none⟩ (.int .i64 0)).setCell ⟨w.heap.size, 10, none⟩ (.bool false)).setCell ⟨w.heap.size, 11, none⟩ (.int .i64 0)).setCell ⟨w.heap.size, 12, none⟩ (.int .u32 0)).setCell ⟨w.heap.size, 13, none⟩ (.slice A j c)).setCell ⟨w.heap.size, 14, none⟩ (.int .i64 0)).setCell ⟨w.heap.size, 15, none⟩ (.int .i64 0)) = wf := ⟨_, rfl⟩
      rw [hwf] at hs2 ⊢
      have hB : Blk wf w.heap.size 27 [.int .i64 (k : Int), .int .i64 0, .bool false, .bool false, .bool t0, .bool false, .slice none 0 0, .int .i64 0, .int .i64 0, .int .i64 0, .bool false, .int .i64 0, .int .u32 0, .slice A j c, .int .i64 0, .int .i64 0] := St.blk0 hs2
      have hR : Rd wf 2 A j (scells (settsN j xs)) := Rd.of_own (St.own2 hs2)
      have hBW := hs2.below
      obtain ⟨F, hF, _, hge, _⟩ := St.focus2 hs2
      have hA : ∀ a, A = some a → w.heap.size ≤ a.block := fun a h => (hge a.block (by rw [hF.2, h]; rfl)).resolve_left id
      clear hs2 hwf hF hge
      exact bodyPost_ret (res_frame (p := 6) rfl rfl rfl hB) rfl ⟨A, c, rfl, hR, hBW, hA⟩
end Go.Proofs.YtokbdkbljgdcpaaDoor
