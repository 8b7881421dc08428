/- Stage 12: whole rows stored; fail. -/
import Derived.Test.YtnflegdoeomhcaaVa
import Derived.Test.YtnflegdoeomhcaaQu
import Derived.Deep.RegionWith
import Derived.Deep.Cut
import Derived.Deep.DeepCutAuto
import Derived.StillTailTactics
namespace Go.Own
open Go.RowKit
set_option linter.unusedVariables false
/-- a store of a whole row, or of a part of it, in a block that is known -/
theorem wp_store_in {P : Program} {w : World} {o : Oper} {a : Act} {K : Act → World → Prop} {Q : Exit → Act → World → Prop} (ty : TypeId) (x y : Operand) (ho : o.op = .store ty x y)
    (g k : Nat) (cells : List Value) (hx : a.eval x = .pointer (some ⟨g, k, none⟩)) (hy : a.eval y = .agg cells.toArray) {t : TypeId} {old : List Value} (hg : Blk w g t old)
    (hi : (P.info? ty).map (·.size) = some cells.length) (hold : k + cells.length ≤ old.length) (h1 : cells.all (·.oneCell') = true)
    (h : ∀ w', Blk w' g t (splice old k cells) → Fr (· = g) w w' → K (a.put o.dst undef) w') : o.wp P a w K Q := by
  have hst := run_storeCells_at P g k t cells 0 old.toArray w hg (by simpa using hold) (fun v hv => List.all_eq_true.1 h1 v hv)
  simp only [Nat.add_zero] at hst
  have he : (splice old k cells) = old.take k ++ cells ++ old.drop (k + cells.length) := by rw [splice, List.append_assoc]
  have hrun : (storeVar ty ⟨g, k, none⟩ (.agg cells.toArray)).run P w = .ok () (w.setRow g (splice old k cells).toArray) := by
    rw [he]
    cases hq : P.info? ty with
    | none => simp [hq] at hi
    | some i =>
      have hs : cells.length = i.size := by simp [hq] at hi; omega
      simp [storeVar, sizeOf, typeInfo, hq, Value.cells, hs, hst]
  unfold Oper.wp execOp
  simp only [ho, hx, hy, Instr.storeAt, Instr.sureAddr, Sem.run_bind, Sem.run_pure, Result.andThen_ok, hrun]
  exact h _ (setRow_heap w g _ _ t _ hg) ⟨rfl, rfl, rfl, by simp [World.setRow], fun k _ hk => setRow_other w g k _ hk⟩
theorem wpList_store_in {P : Program} {w : World} {ops : Array Oper} {rest : List Oper} {o : Oper} {a : Act} {Q : Exit → Act → World → Prop} (hgd : o.guard = none) (hdst : o.dst = none) (ty : TypeId) (x y : Operand) (ho : o.op = .store ty x y)
    (g k : Nat) (cells : List Value) (hx : a.eval x = .pointer (some ⟨g, k, none⟩)) (hy : a.eval y = .agg cells.toArray) {t : TypeId} {old : List Value} (hg : Blk w g t old)
    (hi : (P.info? ty).map (·.size) = some cells.length) (hold : k + cells.length ≤ old.length) (h1 : cells.all (·.oneCell') = true)
    (h : ∀ w', Blk w' g t (splice old k cells) → Fr (· = g) w w' → wpList P ops Q rest a w') : wpList P ops Q (o :: rest) a w :=
  wpList_plain hgd fun K hK => wp_store_in ty x y ho g k cells hx hy hg hi hold h1 fun w' hb hf => by
    rw [show a.put o.dst undef = a by rw [hdst]; rfl]
    exact hK _ _ (h w' hb hf)
theorem Rd.fr0 {w w' : World} {S : Nat → Prop} {size n : Nat} {A : Option Addr} {vs : List Value} (h : Rd w size A n vs) (hf : Fr S w w') (hs : 0 < n → ∀ a, A = some a → ¬ S a.block) : Rd w' size A n vs := by
  refine ⟨h.1, fun hn => ?_⟩
  obtain ⟨b, o, e, hc⟩ := h.2 hn
  exact ⟨b, o, e, fun j u hu => hf.cell (hc j u hu) (show ¬ S b from hs hn _ e)⟩
/-- what was there lies apart from what was made -/
theorem Rd.far {w : World} {size n : Nat} {A : Option Addr} {vs : List Value} (h : Rd w size A n vs) (hs : 0 < size) {p : Nat} (hp : w.heap.size ≤ p) : 0 < n → ∀ a, A = some a → a.block ≠ p := fun hn a ha e => by
  obtain ⟨b, o, e2, hc⟩ := h.2 hn
  rw [ha] at e2
  cases e2
  have hl : 0 < vs.length := by rw [h.1]; exact Nat.mul_pos hn hs
  have := World.block_lt_of_cell? w _ (hc 0 _ (List.getElem?_eq_getElem hl))
  simp only at e this
  omega
theorem splice_all (old cells : List Value) (h : old.length = cells.length) : splice old 0 cells = cells := by
  simp [splice, ← h]
theorem wpList_store_blk {P : Program} {w : World} {ops : Array Oper} {rest : List Oper} {o : Oper} {a : Act} {Q : Exit → Act → World → Prop} (hgd : o.guard = none) (hdst : o.dst = none) (ty : TypeId) (x y : Operand) (ho : o.op = .store ty x y)
    (g : Nat) (cells : List Value) (hx : a.eval x = .pointer (some ⟨g, 0, none⟩)) (hy : a.eval y = .agg cells.toArray) {t : TypeId} {old : List Value} (hg : Blk w g t old)
    (hi : (P.info? ty).map (·.size) = some cells.length) (hold : old.length = cells.length) (h1 : cells.all (·.oneCell') = true)
    (h : ∀ w', Blk w' g t cells → Fr (· = g) w w' → wpList P ops Q rest a w') : wpList P ops Q (o :: rest) a w :=
  wpList_store_in hgd hdst ty x y ho g 0 cells hx hy hg hi (by omega) h1 fun w' hb hf => h w' (by rw [splice_all _ _ hold] at hb; exact hb) hf
theorem step_store_blk {P : Program} {ops : Array Oper} {w : World} {o : Oper} {a : Act} {K : Act → World → Prop} {Q : Exit → Act → World → Prop} {E : Prop} (hgd : o.guard = none) (hdst : o.dst = none) (ty : TypeId) (x y : Operand) (ho : o.op = .store ty x y)
    (g : Nat) (cells : List Value) (hx : a.eval x = .pointer (some ⟨g, 0, none⟩)) (hy : a.eval y = .agg cells.toArray) {t : TypeId} {old : List Value} (hg : Blk w g t old)
    (hi : (P.info? ty).map (·.size) = some cells.length) (hold : old.length = cells.length) (h1 : cells.all (·.oneCell') = true)
    (h : ∀ w', Blk w' g t cells → Fr (· = g) w w' → K a w') : if Region.wanted o (yielded ops a.tmps) = true then Oper.wp P o a w K Q else E := by
  have hw : Region.wanted o (yielded ops a.tmps) = true := by simp [Region.wanted, hgd]
  rw [if_pos hw]
  exact wp_store_in ty x y ho g 0 cells hx hy hg hi (by omega) h1 fun w' hb hf => by rw [show a.put o.dst undef = a by rw [hdst]; rfl]; exact h w' (by rw [splice_all _ _ hold] at hb; exact hb) hf
theorem guard_store_s (ty : TypeId) (x y : Operand) {P : Program} {w : World} {ops : Array Oper} {dst : Option Nat} {t : TypeId} {pos : String} {aft : Array Edge} {g : Option (Nat × Bool)} {a b : Act} {K : Act → World → Prop} {Q : Exit → Act → World → Prop} {E : Prop}
    (h : if Region.wanted (⟨dst, .store ty x y, t, pos, aft, g⟩ : Oper) (yielded ops b.tmps) = true then Oper.wp P (⟨dst, .store ty x y, t, pos, aft, g⟩ : Oper) a w K Q else E) :
    if Region.wanted (⟨dst, .store ty x y, t, pos, aft, g⟩ : Oper) (yielded ops b.tmps) = true then Oper.wp P (⟨dst, .store ty x y, t, pos, aft, g⟩ : Oper) a w K Q else E := h
theorem guard_store (ty : TypeId) (x y : Operand) {P : Program} {w : World} {ops : Array Oper} {rest : List Oper} {dst : Option Nat} {t : TypeId} {pos : String} {aft : Array Edge} {g : Option (Nat × Bool)} {a : Act} {Q : Exit → Act → World → Prop}
    (h : wpList P ops Q (⟨dst, .store ty x y, t, pos, aft, g⟩ :: rest) a w) : wpList P ops Q (⟨dst, .store ty x y, t, pos, aft, g⟩ :: rest) a w := h
section
variable {S : Nat → Prop} {w0 w w' : World} {L L1 L2 : List Ob} {p : Nat} {t : TypeId} {cs cs' : List Value} {A : Ob}
/-- a block among other things has changed whole -/
theorem St.blkToL (L1 : List Ob) {L2 : List Ob} (s : St S w0 w (L1 ++ BLo p t cs :: L2)) (hb : Blk w' p t cs') (hf : Fr (· = p) w w') : St S w0 w' (L1 ++ BLo p t cs' :: L2) := by
  obtain ⟨F, ⟨h, rfl⟩, _, _, go⟩ := St.focus L1 _ L2 s
  have := go w' (BLo p t cs') [] (St.changed (framed_BLo ..) ⟨hb, rfl⟩ (fun i hi => .inl hi) (hf.mono fun i _ e => e))
  rwa [List.append_nil] at this
theorem St.ins1 {e : TypeId} (s : St S w0 w (A :: L)) : St S w0 w (A :: SLo 0 e 1 (.slice none 0 0) 0 [] :: L) := by
  obtain ⟨⟨T, ⟨F, G, hA, hF, hG, hd, rfl⟩, hT⟩, hf⟩ := s
  refine ⟨⟨_, ⟨F, fun i => (Value.slice none 0 0).ownBlock = some i ∨ G i, hA, hF, ⟨_, G, framed_SLo .., ⟨World.ownsRow_nil _ _ _ _, rfl⟩, hG, fun i hi => by simp [Value.ownBlock] at hi, rfl⟩, fun i hi hn => ?_, rfl⟩, fun i hi => hT i ?_⟩, hf⟩
  · rcases hn with hn | hn
    · simp [Value.ownBlock] at hn
    · exact hd i hi hn
  · rcases hi with hi | hi | hi
    · exact .inl hi
    · simp [Value.ownBlock] at hi
    · exact .inr hi
end
end Go.Own
namespace Go.Proofs.Ytnflegdoeomhcaa
open Go.RowKit Go.Own Go.Frm
set_option linter.unusedVariables false
set_option linter.unusedSimpArgs false
set_option maxRecDepth 100000
section
variable {S : Nat → Prop} {w0 w : World} {L : List Ob} {p : Nat} {a : Asm}
theorem info_asm : (Try.prog.info? 50).map (·.size) = some 22 := by kernel_rfl
theorem info_fault : (Try.prog.info? 34).map (·.size) = some 3 := by kernel_rfl
/-- a frame and a fault that are made, among other things -/
theorem St.two (s : St S w0 w L) (W : World) (hW : (w.alloc (.cells zero16.toArray 32)).alloc (.cells #[.bool false, .int .u32 0, .int .i64 0] 34) = W) : St S w0 W (L ++ [BLo w.heap.size 32 zero16, BLo (w.heap.size + 1) 34 [.bool false, .int .u32 0, .int .i64 0]]) := by
  subst hW
  exact s.add (two_new w zero16 [.bool false, .int .u32 0, .int .i64 0])
/-- a frame and a fault that were told lie where they were made; what comes out -/
theorem St.untwo {r d : Nat} {c16 c3 : List Value} (s : St S w0 w (L ++ [BLo r 32 c16, BLo d 34 c3])) {W W' : World} {c16' c3' : List Value} (h1 : Blk W r 32 c16') (f1 : Fr (· = r) w W) (h2 : Blk W' d 34 c3') (f2 : Fr (· = d) W W') : Blk W' r 32 c16' ∧ St S w0 W' L := by
  have s1 := St.blkToL L s h1 f1
  have s2 : St S w0 W ((L ++ [BLo r 32 c16']) ++ [BLo d 34 c3]) := by rw [List.append_assoc]; exact s1
  have s3 := St.blkToL _ s2 h2 f2
  rw [List.append_assoc] at s3
  have hb : Blk W' r 32 c16' := St.blk L _ s3
  have s4 := St.drop L _ _ s3
  have s5 := St.drop L _ [] s4
  rw [List.append_nil] at s5
  exact ⟨hb, s5⟩
theorem flt_cells {a : Asm} {pv lv : Value} (h : Blk w p 50 (acells a pv lv)) : w.cell? ⟨p, 19, none⟩ = some (.bool a.brk) ∧ w.cell? ⟨p, 20, none⟩ = some (.int .u32 (a.code : Int)) ∧ w.cell? ⟨p, 21, none⟩ = some (.int .i64 0) :=
  ⟨(h.cell 19).trans rfl, (h.cell 20).trans rfl, (h.cell 21).trans rfl⟩
set_option maxHeartbeats 4000000 in
theorem fail_c (s : St S w0 w (AO p a :: L)) (c : Nat) : Calls Try.prog 17 #[.pointer (some ⟨p, 0, none⟩), .int .u32 (c : Int)] w fun e w' => e = .returned (.tuple #[.agg #[.int .i64 0, .int .i64 0, .bool false, .bool false, .bool false, .bool false, .slice none 0 0, .int .i64 0, .int .i64 0, .int .i64 0, .bool false, .int .i64 0, .int .u32 0, .slice none 0 0, .int .i64 0, .int .i64 0], .bool false, .agg #[.bool true, .int .u32 (c : Int), .int .i64 0]]) ∧ St S w0 w' (AO p (.broken c) :: L) := by
  obtain ⟨P, pc, B, ll, lc, s⟩ := ao_open s
  have HS := Lib.hid s
  clear s
  go_enter Try.func17, Try.ntmps17
  go_upto_region 1 with (fail)
  obtain ⟨r, hr⟩ : ∃ r, w.heap.size = r := ⟨_, rfl⟩
  obtain ⟨W1, hW1⟩ : ∃ W1, (w.alloc (.cells #[.int .i64 0, .int .i64 0, .bool false, .bool false, .bool false, .bool false, .slice none 0 0, .int .i64 0, .int .i64 0, .int .i64 0, .bool false, .int .i64 0, .int .u32 0, .slice none 0 0, .int .i64 0, .int .i64 0] 32)).alloc (.cells #[.bool false, .int .u32 0, .int .i64 0] 34) = W1 := ⟨_, rfl⟩
  have t1 := St.two HS.out W1 hW1
  rw [hr] at t1
  rw [hW1, hr]
  have T1 : Hid (St S w0 W1 (AoL p a (.slice P a.f.pay.length pc) (.slice B ll lc) (L ++ [BLo r 32 zero16, BLo (r + 1) 34 [.bool false, .int .u32 0, .int .i64 0]]))) := t1
  have hl := (St.blk0 T1.out).lt
  clear hr hW1 HS t1
  go_upto_region 2 with (first
    | (with_reducible refine guard_store 50 _ _ ?_
       refine wpList_store_blk rfl rfl 50 _ _ rfl p _ rfl rfl (St.blk0 T1.out) info_asm rfl rfl ?_
       intro W2 hb2 hf2
       have t2 := St.ins1 (e := 5) (St.drop1 (St.blkTo T1.out hb2 hf2))
       have T2 : Hid (St S w0 W2 (AoL p (.broken c) (.slice none 0 0) (.slice none 0 0) (L ++ [BLo r 32 zero16, BLo (r + 1) 34 [.bool false, .int .u32 0, .int .i64 0]]))) := t2
       clear t2 hb2 hf2))
  have hl2 := (St.blk0 T2.out).lt
  obtain ⟨_, _, z0, z1, z2, z3, z4, z5, z6, z7, z8, z9, z10, z11, z12, z13, z14, z15, z16, z17, z18, z19, z20, z21⟩ := see_a T2.out
  clear z0 z1 z2 z3 z4 z5 z6 z7 z8 z9 z10 z11 z12 z13 z14 z15 z16 z17 z18
  have T3 : Hid (St S w0 W2.drew ((AO p (.broken c) :: L) ++ [BLo r 32 zero16, BLo (r + 1) 34 [.bool false, .int .u32 0, .int .i64 0]])) := (ao_close T2.out).drew
  have HQ : Hid (Blk W2.drew (r + 1) 34 [.bool false, .int .u32 0, .int .i64 0]) := St.blk ((AO p (.broken c) :: L) ++ [BLo r 32 zero16]) [] (by rw [List.append_assoc]; exact T3.out)
  have hp2 : Blk W2.drew p 50 (acells (.broken c) (.slice none 0 0) (.slice none 0 0)) := St.blk0 T2.out.drew
  have hq1 : Blk W2.drew r 32 zero16 := St.blk (AO p (.broken c) :: L) _ T3.out
  have n1 : p ≠ r := hp2.ne_ hq1 (by decide)
  have n2 : p ≠ r + 1 := hp2.ne_ HQ.out (by decide)
  have HN : Hid (¬ (r + 1 = r)) := by unfold Hid; omega
  have hs := flt_cells hp2
  have HC : Hid (∀ W3, Fr (· = r) W2.drew W3 → W3.cell? ⟨p, 19, none⟩ = some (.bool true) ∧ W3.cell? ⟨p, 20, none⟩ = some (.int .u32 (c : Int)) ∧ W3.cell? ⟨p, 21, none⟩ = some (.int .i64 0)) := fun W3 hf => flt_cells (hp2.fr hf n1)
  have HD : Hid (∀ W3 W4, Fr (· = r) W2.drew W3 → Fr (· = r + 1) W3 W4 → W4.cell? ⟨p, 19, none⟩ = some (.bool true) ∧ W4.cell? ⟨p, 20, none⟩ = some (.int .u32 (c : Int)) ∧ W4.cell? ⟨p, 21, none⟩ = some (.int .i64 0)) := fun W3 W4 hf hg => flt_cells ((hp2.fr hf n1).fr hg n2)
  have HQ1 := Lib.hid hq1
  have HQ2 := HQ
  clear T1 T2 hl z19 z20 z21 hp2 hq1 HQ n1 n2
  refine wp_region_held_drew (S := (fun W => W.cell? ⟨p, 19, none⟩ = some (.bool true) ∧ W.cell? ⟨p, 20, none⟩ = some (.int .u32 (c : Int)) ∧ W.cell? ⟨p, 21, none⟩ = some (.int .i64 0))) (by kernel_rfl) ?_ (fun hHeld => ?_)
  · exact hs
  clear hs
  refine wpAnyH_take (i := 0) (oi := { dst := some 12, op := Op.build 32 #[], type := 32, pos := "block.go:99", after := #[], guard := none }) (v := ?_) rfl (by kernel_rfl) (by kernel_rfl) (by kernel_rfl) (fun _ _ _ h => h) (Or.inl ⟨by kernel_rfl, ?_⟩) hHeld ?_
  rotate_left
  · intro w hSw; (try dsimp only at hSw); go_simp; try with_reducible rfl
  simp only [Act.put, List.setIfInBounds_toArray, List.set_cons_zero, List.set_cons_succ]
  refine wpAnyH_take (i := 1) (oi := { dst := some 13, op := Op.move (Operand.tmp 0), type := 25, pos := "block.go:99", after := #[{ on := 6, ground := Ground.gcOnly Departure.lateStores }], guard := none }) (v := ?_) rfl (by kernel_rfl) (by kernel_rfl) (by kernel_rfl) (fun _ _ _ h => h) (Or.inl ⟨by kernel_rfl, ?_⟩) hHeld ?_
  rotate_left
  · intro w hSw; (try dsimp only at hSw); go_simp; try with_reducible rfl
  simp only [Act.put, List.setIfInBounds_toArray, List.set_cons_zero, List.set_cons_succ]
  refine wpAnyH_take (i := 2) (oi := { dst := some 14, op := Op.nilCheck (Operand.tmp 13), type := 0, pos := "block.go:99", after := #[{ on := 1, ground := Ground.data }, { on := 6, ground := Ground.gcOnly Departure.lateStores }], guard := none }) (v := ?_) rfl (by kernel_rfl) (by kernel_rfl) (by kernel_rfl) (fun _ _ _ h => h) (Or.inl ⟨by kernel_rfl, ?_⟩) hHeld ?_
  rotate_left
  · intro w hSw; (try dsimp only at hSw); go_simp; try with_reducible rfl
  simp only [Act.put, List.setIfInBounds_toArray, List.set_cons_zero, List.set_cons_succ]
  refine wpAnyH_take (i := 3) (oi := { dst := some 15, op := Op.fieldAddr 50 (Operand.tmp 14) 4, type := 0, pos := "block.go:99", after := #[{ on := 2, ground := Ground.data }, { on := 6, ground := Ground.gcOnly Departure.lateStores }], guard := none }) (v := ?_) rfl (by kernel_rfl) (by kernel_rfl) (by kernel_rfl) (fun _ _ _ h => h) (Or.inl ⟨by kernel_rfl, ?_⟩) hHeld ?_
  rotate_left
  · intro w hSw; (try dsimp only at hSw); go_simp; try with_reducible rfl
  simp only [Act.put, List.setIfInBounds_toArray, List.set_cons_zero, List.set_cons_succ]
  refine wpAnyH_take (i := 4) (oi := { dst := some 16, op := Op.load 34 (Operand.tmp 15), type := 34, pos := "block.go:99", after := #[{ on := 3, ground := Ground.data }, { on := 6, ground := Ground.gcOnly Departure.lateStores }], guard := none }) (v := ?_) rfl (by kernel_rfl) (by kernel_rfl) (by kernel_rfl) (fun _ _ _ h => h) (Or.inl ⟨by kernel_rfl, ?_⟩) hHeld ?_
  rotate_left
  · intro w hSw; (try dsimp only at hSw); go_simp; try with_reducible rfl
  simp only [Act.put, List.setIfInBounds_toArray, List.set_cons_zero, List.set_cons_succ]
  refine wpAnyH_ready (rs := [5]) (by kernel_rfl) (by simp) ?_
  refine AllReadyH.cons rfl (fun K hK => ?_) AllReadyH.nil
  refine step_store_blk rfl rfl 32 _ _ rfl r _ rfl rfl HQ1.out info_frame rfl rfl ?_
  intro W3 hb3 hf3
  have hc3 := HC.out W3 hf3
  have HB3 := Lib.hid hb3
  have HF3 := Lib.hid hf3
  clear hb3 hf3
  refine hK.out _ _ ?_ (fun hHeld2 => ?_)
  · exact hc3
  clear hK K hHeld
  rename _ => hHeld
  (try simp only [Act.put, List.setIfInBounds_toArray, List.set_cons_zero, List.set_cons_succ])
  refine wpAnyH_take (i := 6) (oi := { dst := some 5, op := Op.assign (Operand.const (Value.bool false)), type := 4, pos := "block.go:99", after := #[{ on := 5, ground := Ground.chain }, { on := 0, ground := Ground.phase }, { on := 1, ground := Ground.textOnly Departure.lateStores }, { on := 2, ground := Ground.textOnly Departure.lateStores }, { on := 3, ground := Ground.textOnly Departure.lateStores }, { on := 4, ground := Ground.textOnly Departure.lateStores }, { on := 5, ground := Ground.phase }], guard := none }) (v := ?_) rfl (by kernel_rfl) (by kernel_rfl) (by kernel_rfl) (fun _ _ _ h => h) (Or.inl ⟨by kernel_rfl, ?_⟩) hHeld ?_
  rotate_left
  · intro w hSw; (try dsimp only at hSw); go_simp; try with_reducible rfl
  simp only [Act.put, List.setIfInBounds_toArray, List.set_cons_zero, List.set_cons_succ]
  refine wpAnyH_ready (rs := [7]) (by kernel_rfl) (by simp) ?_
  refine AllReadyH.cons rfl (fun K hK => ?_) AllReadyH.nil
  refine step_store_blk rfl rfl 34 _ _ rfl (r + 1) _ rfl rfl (HQ2.out.fr HF3.out HN.out) info_fault rfl rfl ?_
  intro W4 hb4 hf4
  have hc4 := HD.out W3 W4 HF3.out hf4
  have HB4 := Lib.hid hb4
  have HF4 := Lib.hid hf4
  clear hb4 hf4
  refine hK.out _ _ ?_ (fun hHeld2 => ?_)
  · exact hc4
  clear hK K hHeld
  rename _ => hHeld
  (try simp only [Act.put, List.setIfInBounds_toArray, List.set_cons_zero, List.set_cons_succ])
  refine wpAnyH_done (by kernel_rfl) ?_ _
  go_wp2
  obtain ⟨k1, k2⟩ := St.untwo T3.out HB3.out HF3.out HB4.out HF4.out
  exact bodyPost_ret (res_fbf (p := 4) (q := 6) (r := 5) rfl rfl rfl rfl rfl k1 HB4.out) rfl ⟨rfl, k2⟩
end
end Go.Proofs.Ytnflegdoeomhcaa
