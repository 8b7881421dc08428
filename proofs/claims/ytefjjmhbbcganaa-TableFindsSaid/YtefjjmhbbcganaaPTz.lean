/- The program's table: Find. -/
import Derived.Test.YtefjjmhbbcganaaPTy
namespace Go.Proofs.Ytefjjmhbbcganaa
open Go.RowKit Go.Own Go.Tbl
set_option linter.unusedVariables false
attribute [local go_sem] Oper.semAt_some

/-- the number of the first field of that name among the first k ones, or 0 -/
def NamedS (all : List Fld) (f : Fld) (k q : Nat) : Prop := (q = 0 ∧ Miss (nameB f) all k) ∨ ∃ j g, q = j + 1 ∧ j < k ∧ all[j]? = some g ∧ nameB f g = true ∧ Miss (nameB f) all j
theorem NamedS.zero (all : List Fld) (f : Fld) : NamedS all f 0 0 := .inl ⟨rfl, Miss.zero _ _⟩
theorem NamedS.keep {all : List Fld} {f x : Fld} {k q : Nat} (h : NamedS all f k q) (hx : all[k]? = some x) (hp : q ≠ 0 ∨ nameB f x = false) : NamedS all f (k + 1) q := by
  rcases h with ⟨rfl, hm⟩ | ⟨j, g, rfl, hj, rest⟩
  · rcases hp with hp | hp
    · exact absurd rfl hp
    · exact .inl ⟨rfl, hm.step hx hp⟩
  · exact .inr ⟨j, g, rfl, by omega, rest⟩
theorem NamedS.set {all : List Fld} {f x : Fld} {k : Nat} (h : NamedS all f k 0) (hx : all[k]? = some x) (hp : nameB f x = true) : NamedS all f (k + 1) (k + 1) := by
  rcases h with ⟨_, hm⟩ | ⟨j, g, e, _⟩
  · exact .inr ⟨k, x, rfl, by omega, hx, hp, hm⟩
  · omega
theorem NamedS.find {all : List Fld} {f : Fld} {k q : Nat} (h : NamedS all f k q) (hk : all.length ≤ k) (hs : Miss (sameB f) all k) : findF all f = (q, false) := by
  rcases h with ⟨rfl, hm⟩ | ⟨j, g, rfl, hj, h1, h2, h3⟩
  · exact find_none (hs.all hk) (hm.all hk)
  · exact find_name (hs.all hk) (place_hit h1 h2 h3)
theorem sameB_def (f g : Fld) : sameB f g = (g.n.toList == f.n.toList && g.v.toList == f.v.toList) := rfl
theorem nameB_def (f g : Fld) : nameB f g = (g.n.toList == f.n.toList) := rfl

theorem statL_never : ∀ g ∈ statL, g.nv = false := by
  have h : (statL.all fun g => !g.nv) = true := by kernel_rfl
  intro g hg
  simpa using List.all_eq_true.1 h g hg
theorem allX_inv {l : List Fld} {k : Nat} {x : Fld × Nat} (h : (allX l)[k]? = some x) : (statL ++ l)[k]? = some x.1 ∧ x.2 = k + 1 := by
  unfold allX at h
  rw [List.getElem?_zipIdx] at h
  cases hq : (statL ++ l)[k]? with
  | none => rw [hq] at h; simp at h
  | some f =>
    rw [hq] at h
    simp at h
    subst h
    exact ⟨rfl, Nat.add_comm _ _⟩
structure FI (w : World) (f : Fld) (all : List Fld) (k : Nat) (W : World) : Prop where
  bf : Blk W w.heap.size 23 [.string f.n, .string f.v, .bool false]
  b4 : Blk W (w.heap.size + 1) 3 [.int .i64 0]
  b5 : Blk W (w.heap.size + 1 + 1) 4 [.bool false]
  b6 : ∃ q : Nat, Blk W (w.heap.size + 1 + 1 + 1) 3 [.int .i64 (q : Int)] ∧ NamedS all f k q
  miss : Miss (sameB f) all k
  below : Below w.heap.size w W
structure FX (w : World) (f : Fld) (all : List Fld) (k : Nat) (W : World) : Prop where
  b4 : Blk W (w.heap.size + 1) 3 [.int .i64 ((k + 1 : Nat) : Int)]
  b5 : Blk W (w.heap.size + 1 + 1) 4 [.bool true]
  hit : ∃ g, all[k]? = some g ∧ sameB f g = true
  miss : Miss (sameB f) all k
  below : Below w.heap.size w W
theorem FI.turns {w : World} {f : Fld} {all : List Fld} {k B : Nat} {W W' : World} (h : FI w f all k W) (hB : w.heap.size ≤ B) (ht : Turns B W W') : FI w f all k W' := by
  obtain ⟨q, hq, hn⟩ := h.b6
  exact ⟨ht.blk h.bf, ht.blk h.b4, ht.blk h.b5, ⟨q, ht.blk hq, hn⟩, h.miss, ht.below h.below hB⟩
theorem FX.turns {w : World} {f : Fld} {all : List Fld} {k B : Nat} {W W' : World} (h : FX w f all k W) (hB : w.heap.size ≤ B) (ht : Turns B W W') : FX w f all k W' :=
  ⟨ht.blk h.b4, ht.blk h.b5, h.hit, h.miss, ht.below h.below hB⟩
theorem FI.next {w : World} {f : Fld} {all : List Fld} {k : Nat} {W W' : World} (h : FI w f all k W) (hb : Below W.heap.size W W') : FI w f all k W' := by
  obtain ⟨q, hq, hn⟩ := h.b6
  exact ⟨h.bf.below hb h.bf.lt, h.b4.below hb h.b4.lt, h.b5.below hb h.b5.lt, ⟨q, hq.below hb hq.lt, hn⟩, h.miss, h.below.trans (hb.mono h.below.size)⟩
def findS (w : World) (i : Nat) : Prop := i = w.heap.size + 1 ∨ i = w.heap.size + 1 + 1 ∨ i = w.heap.size + 1 + 1 + 1
set_option maxRecDepth 100000 in
set_option maxHeartbeats 4000000 in
theorem xFind_n {w : World} {p : Nat} {A : Option Addr} {n c h : Nat} {l : List Fld} (t : PTx w p A n c h l) (f : Fld) (R1 : Nat) (R2 : Bool) (hR : findF (statL ++ l) f = (R1, R2)) :
    Calls Try.prog 24 #[.pointer (some ⟨p, 0, none⟩), .agg #[.string f.n, .string f.v, .bool f.nv]] w fun e w' => e = .returned (.tuple #[.int .i64 (R1 : Int), .bool R2]) ∧ Below w.heap.size w w' := by
  have hpl := Blk.lt t.at_
  have hnv : ∀ g ∈ statL ++ l, g.nv = false := by
    intro g hg
    rcases List.mem_append.1 hg with hg | hg
    · exact statL_never g hg
    · exact (t.ok g hg).2
  have Hnv := Lib.hid hnv
  have HR := Lib.hid hR
  have Ht := Lib.hid t
  have hlen : (statL ++ l).length = (allX l).length := by rw [allX_length, List.length_append, statL_length]
  have Hlen := Lib.hid hlen
  clear t hnv hlen hR
  refine (callsIn_wide (n := 9)).1 ?_
  refine callsIn_of_wp_marks Try.func24 rfl trivial ?_ rfl
  simp only [Try.ntmps24, List.size_toArray, List.length_cons, List.length_nil, Nat.reduceAdd, Nat.reduceSub, Array.replicate_succ, Array.replicate_zero, List.push_toArray, List.append_toArray, List.nil_append, List.cons_append]
  gi_wp2
  obtain ⟨W4, hW4⟩ : ∃ W4, ((((w.alloc (.cells #[.string f.n, .string f.v, .bool false] 23)).alloc (.cells #[.int .i64 0] 3)).alloc (.cells #[.bool false] 4)).alloc (.cells #[.int .i64 0] 3)) = W4 := ⟨_, rfl⟩
  have hs4 : W4.heap.size = w.heap.size + 1 + 1 + 1 + 1 := by rw [← hW4]; simp
  have hb4 : Below w.heap.size w W4 := by rw [← hW4]; exact ((((Below.refl _ w).alloc (Nat.le_refl _) _).alloc (by simp) _).alloc (by simp; omega) _).alloc (by simp; omega) _
  have hI4 : FI w f (statL ++ l) 0 W4 := by
    refine ⟨?_, ?_, ?_, ⟨0, ?_, NamedS.zero _ _⟩, Miss.zero _ _, hb4⟩
    · rw [← hW4]; exact (((Blk.new w 23 [.string f.n, .string f.v, .bool false]).alloc _).alloc _).alloc _
    · rw [← hW4]
      have := ((Blk.new (w.alloc (.cells #[.string f.n, .string f.v, .bool false] 23)) 3 [.int .i64 0]).alloc (.cells #[.bool false] 4)).alloc (.cells #[.int .i64 0] 3)
      simpa using this
    · rw [← hW4]
      have := (Blk.new ((w.alloc (.cells #[.string f.n, .string f.v, .bool false] 23)).alloc (.cells #[.int .i64 0] 3)) 4 [.bool false]).alloc (.cells #[.int .i64 0] 3)
      simpa using this
    · rw [← hW4]
      have := Blk.new (((w.alloc (.cells #[.string f.n, .string f.v, .bool false] 23)).alloc (.cells #[.int .i64 0] 3)).alloc (.cells #[.bool false] 4)) 3 [.int .i64 0]
      simpa using this
  have HT4 := Lib.hid (Ht.out.below hb4)
  have HA : Hid (∀ a, A = some a → ¬ findS w a.block) := fun a ha e => by have := Ht.out.lt a ha; unfold findS at e; omega
  rw [hW4]
  have HI4 := Lib.hid hI4
  have Hs4 := Lib.hid hs4
  clear hW4 hI4 hs4 hb4
  refine wpIn_range_bound rfl (by omega) (gf := 37) (first := #[.pointer (some ⟨p, 0, none⟩)]) rfl trivial (enters_of Try.func37 (by kernel_rfl) rfl)
    (allX l) encX (fun _ => rfl) (KeepB (findS w)) (fun h k => h.trans k) (fun W W' h => KeepB.turns h) (fun W W' h => KeepB.below h)
    (FI w f (statL ++ l)) (FX w f (statL ++ l)) (fun k W W' h ht => h.turns (by have := Hs4.out; omega) ht) (fun k W W' h ht => h.turns (by have := Hs4.out; omega) ht) (fun k W W' h hb => h.next hb) HI4.out
    (fun ll J Jx W hW hJ h0 hY => fields_seq HT4.out (findS w) (by unfold findS; omega) HA.out (fun i hi => by have := Hs4.out; unfold findS at hi; omega) (9 - 1) (by omega) ll J Jx W hW hJ h0 hY)
    (fun k x a' W => ∃ g, w.heap.size + 4 ≤ g ∧ Blk W g 23 (fcells x.1) ∧ a' = { tmps := #[.pointer (some ⟨p, 0, none⟩), .agg #[.string f.n, .string f.v, .bool f.nv], undef, .pointer (some ⟨w.heap.size, 0, none⟩), .pointer (some ⟨w.heap.size + 1, 0, none⟩), .pointer (some ⟨w.heap.size + 1 + 1, 0, none⟩), .pointer (some ⟨w.heap.size + 1 + 1 + 1, 0, none⟩), .int .i64 (x.2 : Int), .pointer (some ⟨g, 0, none⟩), .pointer (some ⟨w.heap.size, 2, none⟩), .pointer (some ⟨p, 0, none⟩), .func (.func 37) #[.pointer (some ⟨p, 0, none⟩)] #[], .int .i64 (x.2 : Int), .agg #[.string x.1.n, .string x.1.v, .bool x.1.nv], undef, undef, undef, undef, undef, undef, undef, undef, undef, undef, undef, undef, undef, undef, undef], defers := [] })
    (fun k x a' W W' ⟨g, hg, hb, e⟩ ht => ⟨g, hg, ht.blk hb, e⟩) ?assign ?body ?done ?stop
  case assign =>
    intro ll k x W K hx hI hK
    unfold encX
    gi_wp2
    exact hK _ _ ((Below.refl _ _).alloc (Nat.le_refl _) _) (hI.next ((Below.refl _ _).alloc (Nat.le_refl _) _)) ⟨W.heap.size, by have := hI.below.size; have := hI.b4.lt; have := hI.b6.choose_spec.1.lt; omega, Blk.new W 23 (fcells x.1), rfl⟩
  case body =>
    rintro ll k ⟨x, xn⟩ a' W hx hI ⟨g, hg, hbx, rfl⟩
    obtain ⟨hx1, hx2⟩ := allX_inv hx
    simp only at hx1 hx2
    subst hx2
    have hxnv := Hnv.out x (List.mem_of_getElem? hx1)
    have Hx1 := Lib.hid hx1
    have HI := Lib.hid hI
    obtain ⟨q, hq, hns⟩ := hI.b6
    have Hns := Lib.hid hns
    have x0 := hbx.cell 0
    have x1 := hbx.cell 1
    have x2 := hbx.cell 2
    have f0 := hI.bf.cell 0
    have f1 := hI.bf.cell 1
    have f2 := hI.bf.cell 2
    have r4 := hI.b4.cell 0
    have r5 := hI.b5.cell 0
    have r6 := hq.cell 0
    have z4 := hI.b4.frozen 0
    have z5 := hI.b5.frozen 0
    have z6 := hq.frozen 0
    simp only [fcells, List.getElem?_cons_zero, List.getElem?_cons_succ, hxnv] at x0 x1 x2 f0 f1 f2 r4 r5 r6
    have Hq := Lib.hid hq
    have hw4 : w.heap.size ≤ w.heap.size + 1 := by omega
    obtain ⟨b1, hb1⟩ : ∃ b1, (x.n.toList == f.n.toList) = b1 := ⟨_, rfl⟩
    obtain ⟨b2, hb2⟩ : ∃ b2, (x.v.toList == f.v.toList) = b2 := ⟨_, rfl⟩
    have hs : sameB f x = (b1 && b2) := by rw [sameB, hb1, hb2]
    have hn : nameB f x = b1 := by rw [nameB, hb1]
    have Hs := Lib.hid hs
    have Hn := Lib.hid hn
    clear hx hI hq hns hx1 hs hn hbx hxnv
    rw [show ((k + 1 : Nat) : Int) = (k : Int) + 1 by omega]
    cases b1
    · gi_wp2
      all_goals exact ⟨KeepsOthers.refl _, KeepB.refl _ _, ⟨HI.out.bf, HI.out.b4, HI.out.b5, ⟨q, Hq.out, Hns.out.keep Hx1.out (.inr Hn.out)⟩, HI.out.miss.step Hx1.out (by rw [Hs.out]; rfl), HI.out.below⟩⟩
    · cases b2
      · by_cases h0 : q = 0
        · subst h0
          gi_wp2
          refine ⟨KeepsOthers.setCell _ _ _, (KeepB.refl _ _).setCell (p := ⟨w.heap.size + 1 + 1 + 1, 0, none⟩) (.inr (.inr rfl)) _, ⟨HI.out.bf.far (p := ⟨w.heap.size + 1 + 1 + 1, 0, none⟩) (by show w.heap.size ≠ w.heap.size + 1 + 1 + 1; omega) _, HI.out.b4.far (p := ⟨w.heap.size + 1 + 1 + 1, 0, none⟩) (by show w.heap.size + 1 ≠ w.heap.size + 1 + 1 + 1; omega) _, HI.out.b5.far (p := ⟨w.heap.size + 1 + 1 + 1, 0, none⟩) (by show w.heap.size + 1 + 1 ≠ w.heap.size + 1 + 1 + 1; omega) _, ⟨k + 1, Hq.out.set_ 0 _, Hns.out.set Hx1.out Hn.out⟩, HI.out.miss.step Hx1.out (by rw [Hs.out]; rfl), HI.out.below.setCell (p := ⟨w.heap.size + 1 + 1 + 1, 0, none⟩) (by show w.heap.size ≤ w.heap.size + 1 + 1 + 1; omega) _⟩⟩
        · have h1 : ((q : Int) == 0) = false := by simp; omega
          gi_wp2
          exact ⟨KeepsOthers.refl _, KeepB.refl _ _, ⟨HI.out.bf, HI.out.b4, HI.out.b5, ⟨q, Hq.out, Hns.out.keep Hx1.out (.inl h0)⟩, HI.out.miss.step Hx1.out (by rw [Hs.out]; rfl), HI.out.below⟩⟩
      · gi_wp2
        refine ⟨(KeepsOthers.setCell W ⟨w.heap.size + 1, 0, none⟩ _).trans (KeepsOthers.setCell _ ⟨w.heap.size + 1 + 1, 0, none⟩ _), ⟨(HI.out.b4.set_ 0 _).far (p := ⟨w.heap.size + 1 + 1, 0, none⟩) (by show w.heap.size + 1 ≠ w.heap.size + 1 + 1; omega) _, (HI.out.b5.far (p := ⟨w.heap.size + 1, 0, none⟩) (by show w.heap.size + 1 + 1 ≠ w.heap.size + 1; omega) _).set_ 0 _, ⟨x, Hx1.out, by rw [Hs.out]; rfl⟩, HI.out.miss, (HI.out.below.setCell (p := ⟨w.heap.size + 1, 0, none⟩) (by show w.heap.size ≤ w.heap.size + 1; omega) _).setCell (p := ⟨w.heap.size + 1 + 1, 0, none⟩) (by show w.heap.size ≤ w.heap.size + 1 + 1; omega) _⟩⟩
  case done =>
    intro D W hD hI hK
    obtain ⟨q, hq, hns⟩ := hI.b6
    have hfd := hns.find (by rw [Hlen.out]; exact Nat.le_refl _) hI.miss
    rw [HR.out] at hfd
    injection hfd with e1 e2
    subst e1 e2
    have r4 := hI.b4.cell 0
    have r5 := hI.b5.cell 0
    have r6 := hq.cell 0
    have z4 := hI.b4.frozen 0
    have z5 := hI.b5.frozen 0
    simp only [List.getElem?_cons_zero] at r4 r5 r6
    have HI := Lib.hid hI
    have HK := Lib.hid hK
    clear hI hK hq hns
    gi_wp2
    have B4 := (HI.out.b4.set_ 0 (.int .i64 (R1 : Int))).far (p := ⟨w.heap.size + 1 + 1, 0, none⟩) (by show w.heap.size + 1 ≠ w.heap.size + 1 + 1; omega) (.bool false)
    have B5 := (HI.out.b5.far (p := ⟨w.heap.size + 1, 0, none⟩) (by show w.heap.size + 1 + 1 ≠ w.heap.size + 1; omega) (.int .i64 (R1 : Int))).set_ 0 (.bool false)
    have BB := (HI.out.below.setCell (p := ⟨w.heap.size + 1, 0, none⟩) (by show w.heap.size ≤ w.heap.size + 1; omega) (.int .i64 (R1 : Int))).setCell (p := ⟨w.heap.size + 1 + 1, 0, none⟩) (by show w.heap.size ≤ w.heap.size + 1 + 1; omega) (.bool false)
    have hK' := ((KeepsOthers.setCell W ⟨w.heap.size + 1, 0, none⟩ (.int .i64 (R1 : Int))).trans (KeepsOthers.setCell _ ⟨w.heap.size + 1 + 1, 0, none⟩ (.bool false))).same D _ HK.out rfl
    generalize (W.setCell ⟨w.heap.size + 1, 0, none⟩ (.int .i64 (R1 : Int))).setCell ⟨w.heap.size + 1 + 1, 0, none⟩ (.bool false) = W2 at B4 B5 BB hK' ⊢
    refine ⟨by simp, .inl ⟨_, _, rfl, run_takeDeferred hK', ?_⟩⟩
    have ht : Turns w.heap.size W2 (W2.putObj D (.deferred none)) := ⟨D, _, _, by have := Hs4.out; omega, hK', rfl, rfl⟩
    have c4 := (ht.blk B4).cell 0
    have c5 := (ht.blk B5).cell 0
    simp at c4 c5
    refine ⟨.tuple #[.int .i64 (R1 : Int), .bool false], ?_, rfl, ht.below BB (Nat.le_refl _)⟩
    simp [results, Try.results24, go_sem, c4, c5]
  case stop =>
    intro D k W hD hX hK
    obtain ⟨g, h1, h2⟩ := hX.hit
    have hfd := find_same (place_hit h1 h2 hX.miss)
    rw [HR.out] at hfd
    injection hfd with e1 e2
    subst e1 e2
    have r4 := hX.b4.cell 0
    have r5 := hX.b5.cell 0
    simp only [List.getElem?_cons_zero] at r4 r5
    have HX := Lib.hid hX
    have HK := Lib.hid hK
    clear hX hK h1 h2
    gi_wp2
    refine ⟨by simp, .inl ⟨_, _, rfl, run_takeDeferred HK.out, ?_⟩⟩
    have ht : Turns w.heap.size W (W.putObj D (.deferred none)) := ⟨D, _, _, by have := Hs4.out; omega, HK.out, rfl, rfl⟩
    have c4 := (ht.blk HX.out.b4).cell 0
    have c5 := (ht.blk HX.out.b5).cell 0
    simp only [List.getElem?_cons_zero] at c4 c5
    refine ⟨.tuple #[.int .i64 ((k + 1 : Nat) : Int), .bool true], ?_, rfl, ht.below HX.out.below (Nat.le_refl _)⟩
    simp [results, Try.results24, go_sem, c4, c5]
theorem xFind_c {w : World} {p : Nat} {A : Option Addr} {n c h : Nat} {l : List Fld} (t : PTx w p A n c h l) (f : Fld) :
    Calls Try.prog 24 #[.pointer (some ⟨p, 0, none⟩), .agg #[.string f.n, .string f.v, .bool f.nv]] w fun e w' => e = .returned (.tuple #[.int .i64 ((findF (statL ++ l) f).1 : Int), .bool (findF (statL ++ l) f).2]) ∧ Below w.heap.size w w' := xFind_n t f _ _ rfl
end Go.Proofs.Ytefjjmhbbcganaa
