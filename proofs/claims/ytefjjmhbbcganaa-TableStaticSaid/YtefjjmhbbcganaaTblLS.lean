/- TableStatic, the walk (over the interface TblPT). -/
import Derived.Test.YtefjjmhbbcganaaTblW
namespace Go.Proofs.Ytefjjmhbbcganaa
open Go.RowKit Go.Own Go.Tbl
set_option linter.unusedVariables false
attribute [local go_sem ↓] Go.wp_at_zero Go.wp_at_succ

theorem pSize_f (f : Fld) (hf : fok f) (N : Nat) (hN : sz f = N) (w : World) : Calls Try.prog 13 #[.agg #[.string f.n, .string f.v, .bool f.nv]] w fun e w' => e = .returned (.int .i64 (N : Int)) ∧ Below w.heap.size w w' := by
  subst hN
  exact pSize_c f hf w
set_option maxRecDepth 100000 in
set_option maxHeartbeats 2000000 in
theorem lawStatic_no (i : Int) (hi : i64 i) (hin : i < 1 ∨ 61 < i) (f : Fld) (hf : fok f) (w : World) : Calls Try.prog 3 #[.int .i64 i, .agg #[.string f.n, .string f.v, .bool f.nv]] w fun e w' => e = .returned (.bool true) ∧ Below w.heap.size w w' := by
  obtain ⟨N, hN⟩ : ∃ N, sz f = N := ⟨_, rfl⟩
  have hR : atL statL i = none := by unfold atL; rw [if_pos (by rw [statL_length]; omega)]
  have HR := Lib.hid hR
  clear hR
  have hcase : i < 1 ∨ (1 ≤ i ∧ decide (i ≤ 61) = false) := by
    rcases hin with h | h
    · exact .inl h
    · exact .inr ⟨by omega, by simp; omega⟩
  rcases hcase with h1 | ⟨h1, h2⟩
  all_goals
    go_enter Try.func3, Try.ntmps3
    go_wp2_with (first
      | (go_at_call 10; (with_reducible refine (shown4 _).mono ?_); rintro e w1 ⟨rfl, b1⟩; have B1 := Lib.hid (((Below.refl w.heap.size w).alloc (Nat.le_refl _) _).trans (b1.mono (by simp))); have V1 := Lib.hid ((Blk.new w 23 [.string f.n, .string f.v, .bool f.nv]).below b1 (by simp)); clear b1)
      | (go_at_call 11; (with_reducible refine (rStatics_w _).mono ?_); rintro e w2 ⟨g, rfl, ho2, hg2, b2⟩; have B2 := Lib.hid (B1.out.trans (b2.mono B1.out.size)); have V2 := Lib.hid (V1.out.below b2 (Blk.lt V1.out)); have O2 := Lib.hid ho2; have G2 := Lib.hid hg2; clear b2 ho2 hg2)
      | (go_at_call 12; (with_reducible refine (pStatic_n i hi _ _ HR.out).mono ?_); rintro e w3 ⟨rfl, b3⟩; unfold atV; have B3 := Lib.hid (B2.out.trans (b3.mono B2.out.size)); have V3 := Lib.hid ((V2.out.below b3 (Blk.lt V2.out)).alloc (.cells #[.string ⟨#[]⟩, .string ⟨#[]⟩, .bool false] 23)); have q0 := V3.out.cell 0; have q1 := V3.out.cell 1; have q2 := V3.out.cell 2; simp only [List.getElem?_cons_zero, List.getElem?_cons_succ] at q0 q1 q2; clear b3))
    try simp only [h2]
    have X3 := Lib.hid (Blk.new w3 23 [.string ⟨#[]⟩, .string ⟨#[]⟩, .bool false])
    have C3 := Lib.hid (B3.out.alloc B3.out.size (.cells #[.string ⟨#[]⟩, .string ⟨#[]⟩, .bool false] 23))
    have r0 := X3.out.cell 0
    have r1 := X3.out.cell 1
    have r2 := X3.out.cell 2
    simp only [List.getElem?_cons_zero, List.getElem?_cons_succ] at r0 r1 r2
    have e3 : (w3.alloc (.cells #[.string ⟨#[]⟩, .string ⟨#[]⟩, .bool false] 23)) = (w3.alloc (.cells #[.string ⟨#[]⟩, .string ⟨#[]⟩, .bool false] 23)) := rfl
    generalize w3.heap.size = x3 at X3 r0 r1 r2 ⊢
    have X3' : Hid (Blk (w3.alloc (.cells #[.string ⟨#[]⟩, .string ⟨#[]⟩, .bool false] 23)) x3 23 [.string ⟨#[]⟩, .string ⟨#[]⟩, .bool false]) := X3
    clear X3 e3
    generalize w3.alloc (.cells #[.string ⟨#[]⟩, .string ⟨#[]⟩, .bool false] 23) = wa at X3' C3 V3 q0 q1 q2 r0 r1 r2 ⊢
    have q0' : wa.drew.cell? ⟨w.heap.size, 0, none⟩ = some (.string f.n) := q0
    have q1' : wa.drew.cell? ⟨w.heap.size, 1, none⟩ = some (.string f.v) := q1
    have q2' : wa.drew.cell? ⟨w.heap.size, 2, none⟩ = some (.bool f.nv) := q2
    have V3d : Hid (Blk wa.drew w.heap.size 23 [.string f.n, .string f.v, .bool f.nv]) := V3.out.drewN 1
    have X3d : Hid (Blk wa.drew x3 23 [.string ⟨#[]⟩, .string ⟨#[]⟩, .bool false]) := X3'.out.drewN 1
    have C3d : Hid (Below w.heap.size w wa.drew) := below_drewN C3.out 1
    go_region_with
        (first
        | (go_at_call 13; (with_reducible refine (pSize_f f hf N hN _).mono ?_); rintro e w4 ⟨rfl, b4⟩
           have V4 := Lib.hid (V3d.out.below b4 (Blk.lt V3d.out))
           have X4 := Lib.hid (X3d.out.below b4 (Blk.lt X3d.out))
           have u0 := V4.out.cell 0
           have u1 := V4.out.cell 1
           have u2 := V4.out.cell 2
           simp only [List.getElem?_cons_zero, List.getElem?_cons_succ] at u0 u1 u2
           have C4 := Lib.hid (C3d.out.trans (b4.mono C3d.out.size))
           clear b4)
        | (go_at_call 14; (with_reducible refine (rFSize_n f hf N hN _).mono ?_); rintro e w5 ⟨rfl, b5⟩
           have V5 := Lib.hid (V4.out.below b5 (Blk.lt V4.out))
           have X5 := Lib.hid (X4.out.below b5 (Blk.lt X4.out))
           have z0 := V5.out.cell 0
           have z1 := V5.out.cell 1
           have z2 := V5.out.cell 2
           have y0 := X5.out.cell 0
           have y1 := X5.out.cell 1
           have y2 := X5.out.cell 2
           simp only [List.getElem?_cons_zero, List.getElem?_cons_succ] at z0 z1 z2 y0 y1 y2
           have C5 := Lib.hid (C4.out.trans (b5.mono C4.out.size))
           clear b5))
    all_goals
      simp only [Exit.then]
      refine ‹∀ (a : Act) (w : World), Code.wp Try.prog (Code.cond _ _ _) _ a w → _› _ _ ?_
      simp [Act.put, List.getElem_toArray]
      go_wp2
      go_quiet (fail)
      simp only [Exit.then]
      refine ‹∀ (a : Act) (w : World), Code.wp Try.prog Code.ret _ a w → _› _ _ ?_
      go_wp2
      go_ret
      exact ⟨rfl, below_drewN C5.out nq⟩
set_option maxRecDepth 100000 in
set_option maxHeartbeats 2000000 in
theorem lawStatic_yes (i : Int) (hi : i64 i) (k : Nat) (hik : i - 1 = (k : Int)) (hk : k < 61) (x : Fld) (hx : statL[k]? = some x) (f : Fld) (hf : fok f) (w : World) : Calls Try.prog 3 #[.int .i64 i, .agg #[.string f.n, .string f.v, .bool f.nv]] w fun e w' => e = .returned (.bool true) ∧ Below w.heap.size w w' := by
  obtain ⟨N, hN⟩ : ∃ N, sz f = N := ⟨_, rfl⟩
  have hR : atL statL i = some x := by unfold atL; rw [if_neg (by rw [statL_length]; omega), hik]; exact hx
  have HR := Lib.hid hR
  have Hx := Lib.hid hx
  have h1 : 1 ≤ i := by omega
  have h2 : i ≤ 61 := by omega
  have hrem : Int.tmod (k : Int) 61 = (k : Int) := Int.tmod_eq_of_lt (by omega) (by omega)
  have k1 : (k : Int) < 61 := by omega
  clear hR hx
  go_enter Try.func3, Try.ntmps3
  go_wp2_with (first
    | (go_at_call 10; (with_reducible refine (shown4 _).mono ?_); rintro e w1 ⟨rfl, b1⟩; have B1 := Lib.hid (((Below.refl w.heap.size w).alloc (Nat.le_refl _) _).trans (b1.mono (by simp))); have V1 := Lib.hid ((Blk.new w 23 [.string f.n, .string f.v, .bool f.nv]).below b1 (by simp)); clear b1)
    | (go_at_call 11; (with_reducible refine (rStatics_w _).mono ?_); rintro e w2 ⟨g, rfl, ho2, hg2, b2⟩; have B2 := Lib.hid (B1.out.trans (b2.mono B1.out.size)); have V2 := Lib.hid (V1.out.below b2 (Blk.lt V1.out)); have O2 := Lib.hid ho2; have G2 := Lib.hid hg2; obtain ⟨bb, oo, hA, d0, d1, d2⟩ := rd_fld (Rd.of_own ho2) Hx.out; cases hA; simp only [Nat.zero_add] at d0 d1 d2; have hg : g < w2.heap.size := World.block_lt_of_cell? _ _ d0; clear b2 ho2 hg2)
    | (go_at_call 12; (with_reducible refine (pStatic_n i hi _ _ HR.out).mono ?_); rintro e w3 ⟨rfl, b3⟩; unfold atV; have B3 := Lib.hid (B2.out.trans (b3.mono B2.out.size)); have V3 := Lib.hid ((V2.out.below b3 (Blk.lt V2.out)).alloc (.cells #[.string x.n, .string x.v, .bool x.nv] 23)); have q0 := V3.out.cell 0; have q1 := V3.out.cell 1; have q2 := V3.out.cell 2; simp only [List.getElem?_cons_zero, List.getElem?_cons_succ] at q0 q1 q2; have D3 : Hid (Below w2.heap.size w2 w3) := b3; clear b3))
  have X3 := Lib.hid (Blk.new w3 23 [.string x.n, .string x.v, .bool x.nv])
  have C3 := Lib.hid (B3.out.alloc B3.out.size (.cells #[.string x.n, .string x.v, .bool x.nv] 23))
  have E3 := Lib.hid (D3.out.alloc D3.out.size (.cells #[.string x.n, .string x.v, .bool x.nv] 23))
  have r0 := X3.out.cell 0
  have r1 := X3.out.cell 1
  have r2 := X3.out.cell 2
  simp only [List.getElem?_cons_zero, List.getElem?_cons_succ] at r0 r1 r2
  have e3 : (w3.alloc (.cells #[.string x.n, .string x.v, .bool x.nv] 23)) = (w3.alloc (.cells #[.string x.n, .string x.v, .bool x.nv] 23)) := rfl
  generalize w3.heap.size = x3 at X3 r0 r1 r2 ⊢
  have X3' : Hid (Blk (w3.alloc (.cells #[.string x.n, .string x.v, .bool x.nv] 23)) x3 23 [.string x.n, .string x.v, .bool x.nv]) := X3
  clear X3 e3
  generalize w3.alloc (.cells #[.string x.n, .string x.v, .bool x.nv] 23) = wa at X3' E3 C3 V3 q0 q1 q2 r0 r1 r2 ⊢
  have q0' : wa.drew.cell? ⟨w.heap.size, 0, none⟩ = some (.string f.n) := q0
  have q1' : wa.drew.cell? ⟨w.heap.size, 1, none⟩ = some (.string f.v) := q1
  have q2' : wa.drew.cell? ⟨w.heap.size, 2, none⟩ = some (.bool f.nv) := q2
  have V3d : Hid (Blk wa.drew w.heap.size 23 [.string f.n, .string f.v, .bool f.nv]) := V3.out.drewN 1
  have X3d : Hid (Blk wa.drew x3 23 [.string x.n, .string x.v, .bool x.nv]) := X3'.out.drewN 1
  have E3d : Hid (Below w2.heap.size w2 wa.drew) := below_drewN E3.out 1
  have C3d : Hid (Below w.heap.size w wa.drew) := below_drewN C3.out 1
  go_region_with
      (first
      | (go_at_call 13; (with_reducible refine (pSize_f f hf N hN _).mono ?_); rintro e w4 ⟨rfl, b4⟩
         have V4 := Lib.hid (V3d.out.below b4 (Blk.lt V3d.out))
         have X4 := Lib.hid (X3d.out.below b4 (Blk.lt X3d.out))
         have u0 := V4.out.cell 0
         have u1 := V4.out.cell 1
         have u2 := V4.out.cell 2
         simp only [List.getElem?_cons_zero, List.getElem?_cons_succ] at u0 u1 u2
         have C4 := Lib.hid (C3d.out.trans (b4.mono C3d.out.size))
         have E4 := Lib.hid (E3d.out.trans (b4.mono E3d.out.size))
         clear b4)
      | (go_at_call 14; (with_reducible refine (rFSize_n f hf N hN _).mono ?_); rintro e w5 ⟨rfl, b5⟩
         have V5 := Lib.hid (V4.out.below b5 (Blk.lt V4.out))
         have X5 := Lib.hid (X4.out.below b5 (Blk.lt X4.out))
         have z0 := V5.out.cell 0
         have z1 := V5.out.cell 1
         have z2 := V5.out.cell 2
         have y0 := X5.out.cell 0
         have y1 := X5.out.cell 1
         have y2 := X5.out.cell 2
         simp only [List.getElem?_cons_zero, List.getElem?_cons_succ] at z0 z1 z2 y0 y1 y2
         have C5 := Lib.hid (C4.out.trans (b5.mono C4.out.size))
         have E5 := Lib.hid (E4.out.trans (b5.mono E4.out.size))
         have F5 := Fr.of_below (S := fun i => w2.heap.size ≤ i) E5.out (fun _ _ h => h)
         have g0 := F5.cell d0 (Nat.not_le.2 hg)
         have g1 := F5.cell d1 (Nat.not_le.2 hg)
         have g2 := F5.cell d2 (Nat.not_le.2 hg)
         clear b5 F5))
  all_goals
    simp only [Exit.then]
    refine ‹∀ (a : Act) (w : World), Code.wp Try.prog (Code.cond _ _ _) _ a w → _› _ _ ?_
    simp [Act.put, List.getElem_toArray]
    go_wp2
    go_big_quiet (fail)
    simp only [Exit.then]
    refine ‹∀ (a : Act) (w : World), Code.wp Try.prog Code.ret _ a w → _› _ _ ?_
    go_wp2
    go_ret
    exact ⟨rfl, below_drewN C5.out nq⟩
/-- TableStatic answers true -/
theorem lawStatic (i : Int) (hi : i64 i) (f : Fld) (hf : fok f) (w : World) : Calls Try.prog 3 #[.int .i64 i, .agg #[.string f.n, .string f.v, .bool f.nv]] w fun e w' => e = .returned (.bool true) ∧ Below w.heap.size w w' := by
  by_cases hin : i < 1 ∨ 61 < i
  · exact lawStatic_no i hi hin f hf w
  · have hk : (i - 1).toNat < 61 := by omega
    exact lawStatic_yes i hi (i - 1).toNat (by omega) hk _ (List.getElem?_eq_getElem (by rw [statL_length]; exact hk)) f hf w
end Go.Proofs.Ytefjjmhbbcganaa
