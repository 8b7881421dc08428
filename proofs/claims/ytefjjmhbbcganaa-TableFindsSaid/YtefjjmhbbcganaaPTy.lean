/- The program's table: fields, the iterator over all fields. -/
import Derived.Test.YtefjjmhbbcganaaPTc
import Derived.Test.YtefjjmhbbcganaaRng
import Derived.OwnWalkIn
import Derived.TacticsInMore
import Derived.LoopNIn
import Derived.LoopIn
import Derived.Shelf.Abstract
import Derived.Shelf.RegionOpen
namespace Go.Proofs.Ytefjjmhbbcganaa
open Go.RowKit Go.Own Go.Tbl
set_option linter.unusedVariables false
attribute [local go_sem] Oper.semAt_some

/-- what yield is handed -/
def encX (x : Fld × Nat) : Array Value := #[.int .i64 (x.2 : Int), .agg #[.string x.1.n, .string x.1.v, .bool x.1.nv]]
def allX (l : List Fld) : List (Fld × Nat) := (statL ++ l).zipIdx 1
theorem allX_at {l : List Fld} {k : Nat} {f : Fld} (h : (statL ++ l)[k]? = some f) : (allX l)[k]? = some (f, 1 + k) := by
  unfold allX
  rw [List.getElem?_zipIdx, h]
  rfl
theorem allX_length (l : List Fld) : (allX l).length = 61 + l.length := by unfold allX; rw [List.length_zipIdx, List.length_append, statL_length]
theorem wpListIn_store_arr {F : Fence} {n : Nat} {ops : Array Oper} {rest : List Oper} {o : Oper} {a : Act} {w : World} {Q : Exit → Act → World → Prop} (hgd : o.guard = none) (x y : Operand) (ho : o.op = .store 51 x y)
    (g : Nat) (hx : a.eval x = .pointer (some ⟨g, 0, none⟩)) (l m : List Fld) (hl : l.length = 62) (hm : m.length = 62) (hy : a.eval y = .agg (fcellsL m).toArray) (hg : Blk w g 51 (fcellsL l))
    (h : ∀ w', Blk w' g 51 (fcellsL m) → Fr (· = g) w w' → wpListIn F n Try.prog ops Q rest (a.put o.dst undef) w') : wpListIn F n Try.prog ops Q (o :: rest) a w := by
  refine wpListIn_plain hgd fun K hK => ?_
  have hr := run_storeVar_row (P := Try.prog) w g 51 51 (fcellsL l).toArray (fcellsL m).toArray hg (by rw [zero_arr.2]; simp [fcellsL_length, hm]) (by simp [fcellsL_length, hl, hm]) (fcells_all _)
  unfold Oper.wpIn
  refine ⟨by simp [Oper.about, ho], ?_⟩
  rw [Oper.semAt_plain F _ _ (by rw [ho]; intro c hc'; cases hc')]
  simp only [execOp, ho, hx, hy, Instr.storeAt, Instr.sureAddr, Sem.run_bind, Sem.run_pure, Result.andThen_ok, hr]
  exact hK _ _ (h _ (setRow_heap w g _ _ 51 _ hg) ⟨rfl, rfl, rfl, by simp [World.setRow], fun k _ hk => setRow_other w g k _ hk⟩)
theorem PTx.keepB {w w' : World} {p : Nat} {A : Option Addr} {n c h : Nat} {l : List Fld} {S : Nat → Prop} (t : PTx w p A n c h l) (hk : KeepB S w w') (hp : ¬ S p) (hA : ∀ a, A = some a → ¬ S a.block) : PTx w' p A n c h l := by
  refine ⟨hk _ _ _ t.at_ hp, ⟨t.own.1, ?_⟩, t.ok, t.small, t.top⟩
  rcases t.own.2 with hz | ⟨g, cap, cur, e, h1, h2, rest⟩
  · exact .inl hz
  · refine .inr ⟨g, cap, cur, e, h1, ?_, rest⟩
    simp only [Value.slice.injEq] at e
    have h3 := hk g 23 cur.toList (by unfold Blk; simpa using h2) (hA _ e.1)
    unfold Blk at h3
    simpa using h3
set_option maxRecDepth 100000 in
set_option maxHeartbeats 4000000 in
theorem fields_seq {w : World} {p : Nat} {A : Option Addr} {n c h : Nat} {l : List Fld} (t : PTx w p A n c h l) (S : Nat → Prop) (hSp : ¬ S p) (hSA : ∀ a, A = some a → ¬ S a.block) (hSw : ∀ i, S i → i < w.heap.size)
    (m : Nat) (hm : 3 ≤ m) (ll : Nat) (J : Nat → World → Prop) (Jx : World → Prop) (W : World) (hW : Below w.heap.size w W) (hJa : ∀ k W W', J k W → Below W.heap.size W W' → J k W') (h0 : J 0 W)
    (hY : ∀ k x W1, (allX l)[k]? = some x → J k W1 → YieldAt Fence.wide (m - 1) Try.prog ll (encX x) W1 fun e W' => (e = .returned (.bool true) ∧ J (k + 1) W' ∧ KeepB S W1 W') ∨ (e = .returned (.bool false) ∧ Jx W')) :
    CallsIn Fence.wide m Try.prog 37 (#[.pointer (some ⟨p, 0, none⟩)] ++ #[.func (.yield ll) #[] #[]]) W fun e W' => (∃ v, e = .returned v) ∧ (J (allX l).length W' ∨ Jx W') := by
  have hz := zero_arr.1
  have tW := t.below hW
  have Tt := Lib.hid tW
  have HJa := Lib.hid hJa
  have HY := Lib.hid hY
  have HSw := Lib.hid hSw
  have HSA := Lib.hid hSA
  have HSp := Lib.hid hSp
  have hWs := hW.size
  have Hl : Hid (l.length = n) := t.len
  have H0 := Lib.hid h0
  clear hJa hY hSw hSA hSp t tW h0
  refine callsIn_of_wp Try.func37 rfl trivial ?_ rfl
  simp only [Try.ntmps37, List.size_toArray, List.length_cons, List.length_nil, Nat.reduceAdd, Nat.reduceSub, Array.replicate_succ, Array.replicate_zero, List.push_toArray, List.append_toArray, List.nil_append, List.cons_append]
  gi_wp2_with (first
    | (refine ⟨(trivial : Fence.wide.fn 32), fun _ => by omega, ?_⟩; refine (callsIn_wide.2 (statF_any _)).mono ?_; rintro e w1 ⟨rfl, b1⟩
       have B1 := Lib.hid b1
       have X1 := Lib.hid (Blk.new w1 51 (fcellsL zeroL))
       have hs1 := b1.size
       clear b1)
    | (refine wpListIn_store_arr (o := ⟨_, .store 51 _ _, _, _, _, _⟩) rfl _ _ rfl w1.heap.size rfl zeroL arrL zeroL_length arrL_length rfl X1.out ?_
       intro w5 hb5 hf5
       have X5 := Lib.hid hb5
       have B5 := Lib.hid ((B1.out.alloc B1.out.size (.cells (fcellsL zeroL).toArray 51)).trans (hf5.below (by simp; omega) (fun i _ e => by omega)))
       clear hf5 hb5))
  have hJ5 : J 0 w5 := HJa.out 0 W w5 H0.out B5.out
  have HJ5 := Lib.hid hJ5
  have hbs := B5.out.size
  clear hJ5 hz
  gi_loopw [5] (fun i wr => ∃ k : Nat, k ≤ 61 ∧ i = .int .i64 ((k : Int) + 1) ∧ J k wr ∧ KeepB S w5 wr) (fun i _ => 62 - (intOf i).toNat)
  case atStart => exact ⟨0, by omega, rfl, HJ5.out, KeepB.refl _ _⟩
  case round =>
    obtain ⟨k, hk, rfl, hJs, hkb⟩ := hrel
    have X := hkb _ _ _ X5.out (fun h => by have := HSw.out _ h; omega)
    have HX := Lib.hid X
    have HKB := Lib.hid hkb
    have HJs := Lib.hid hJs
    clear X hkb
    by_cases hlt : k < 61
    · obtain ⟨f, hf⟩ : ∃ f, statL[k]? = some f := ⟨_, List.getElem?_eq_getElem (by rw [statL_length]; exact hlt)⟩
      obtain ⟨c0, c1, c2⟩ := pStatic_cells (k := k + 1) (f := f) hf HX.out
      have hxa := allX_at (l := l) (k := k) (f := f) (by rw [List.getElem?_append_left (by rw [statL_length]; exact hlt)]; exact hf)
      obtain ⟨fn, tmps, assign, body, hy, hR⟩ := HY.out k (f, 1 + k) wr hxa hJs
      have e : encX (f, 1 + k) = #[.int .i64 ((k : Int) + 1), .agg #[.string f.n, .string f.v, .bool f.nv]] := by simp [encX]; omega
      rw [e] at hy
      have hk62 : (k : Int) + 1 < 62 := by omega
      clear hxa hf e hJs
      gi_wp2
      refine ⟨fun _ => by omega, hR.mono ?_⟩
      rintro e W3 (⟨rfl, hJ3, hk3⟩ | ⟨rfl, hJx3⟩)
      · gi_wp2
        go_roundw
        case rel => exact ⟨k + 1, by omega, by go_num, hJ3, HKB.out.trans hk3⟩
        case measure => simp [intOf]; omega
      · gi_wp2
        refine bodyPost_ret (results_none rfl _ _ _) rfl ?_
        exact ⟨⟨_, rfl⟩, .inr hJx3⟩
    · obtain rfl : k = 61 := by omega
      have T5 := (Tt.out.fr (Fr.of_below (S := fun i => W.heap.size ≤ i) B5.out (fun _ _ h => h)) (by have := Blk.lt Tt.out.at_; omega) (fun a ha => by have := Tt.out.lt a ha; omega)).keepB HKB.out HSp.out HSA.out
      have HT5 := Lib.hid T5
      obtain ⟨t0, _, _⟩ := T5.cells
      have hn := T5.n_small
      clear T5 hlt HX
      simp only [show (((61 : Nat) : Int) + 1) = 62 from rfl]
      gi_wp2
      gi_loopw [25, 6, 7] (fun i x6 x7 wx => ∃ k : Nat, k ≤ n ∧ i = .int .i64 (k : Int) ∧ J (61 + k) wx ∧ KeepB S wr wx) (fun i _ _ _ => n - (intOf i).toNat)
      case atStart => exact ⟨0, by omega, rfl, HJs.out, KeepB.refl _ _⟩
      case round =>
        clear t0
        obtain ⟨k, hk, rfl, hJx, hkx⟩ := hrel
        have T6 := HT5.out.keepB hkx HSp.out HSA.out
        have HT6 := Lib.hid T6
        have HKX := Lib.hid hkx
        have HJx := Lib.hid hJx
        clear T6 hkx hJx
        by_cases hlt : k < n
        · obtain ⟨f, hf⟩ : ∃ f, l[k]? = some f := ⟨_, List.getElem?_eq_getElem (by rw [Hl.out]; exact hlt)⟩
          obtain ⟨b, o, hA, d0, d1, d2⟩ := rd_fld HT6.out.rd hf
          subst hA
          have hbx : b < wr.heap.size := World.block_lt_of_cell? _ _ d0
          have hxa := allX_at (l := l) (k := 61 + k) (f := f) (by rw [List.getElem?_append_right (by rw [statL_length]; omega), statL_length, Nat.add_sub_cancel_left]; exact hf)
          have hba := (Below.refl wr.heap.size wr).alloc (Nat.le_refl _) (.cells #[.string f.n, .string f.v, .bool f.nv] 23)
          obtain ⟨fn, tmps, assign, body, hy, hR⟩ := HY.out (61 + k) (f, 1 + (61 + k)) (wr.alloc (.cells #[.string f.n, .string f.v, .bool f.nv] 23)) hxa (HJa.out _ _ _ HJx.out hba)
          have e : encX (f, 1 + (61 + k)) = #[.int .i64 (62 + (k : Int)), .agg #[.string f.n, .string f.v, .bool f.nv]] := by simp [encX]; omega
          rw [e] at hy
          have hk1 : (k : Int) < (n : Int) := by omega
          have HBA := Lib.hid hba
          clear hxa hf e hba
          gi_wp2
          refine ⟨fun _ => by omega, hR.mono ?_⟩
          rintro e W3 (⟨rfl, hJ3, hk3⟩ | ⟨rfl, hJx3⟩)
          · gi_wp2
            go_roundw
            case rel => exact ⟨k + 1, by omega, by go_num, hJ3, HKX.out.trans ((KeepB.below HBA.out).trans hk3)⟩
            case measure => simp [intOf]; omega
          · gi_wp2
            refine bodyPost_ret (results_none rfl _ _ _) rfl ?_
            exact ⟨⟨_, rfl⟩, .inr hJx3⟩
        · obtain rfl : k = n := by omega
          gi_wp2
          go_end0
          refine ⟨⟨_, rfl⟩, .inl ?_⟩
          rw [allX_length, Hl.out]
          exact HJx.out
end Go.Proofs.Ytefjjmhbbcganaa
