/- Stage 11: rounds of a queue, as the law SchedQueue goes through them: plain mathematics. -/
import Derived.Test.YtbjjphpkpmikjaaKiT
namespace Go.Sch
set_option linter.unusedVariables false
set_option linter.unusedSimpArgs false
/-- streams are put in: what is there behind k of them -/
structure Bld (k : Nat) (q : List Fl) (ready late : List Nat) : Prop where
  ids : q.map Fl.id = (List.range k).map (· + 1)
  r : (q.filter wd).map Fl.id = ready
  l : (q.filter fun f => !wd f).map Fl.id = late
  fl : ∀ f ∈ q, f.en = false ∧ f.wait = 50 ∧ (f.win = 100 ∨ f.win = 0)
theorem Bld.len {k : Nat} {q : List Fl} {ready late : List Nat} (h : Bld k q ready late) : q.length = k ∧ ready.length ≤ k ∧ late.length ≤ k := by
  have h1 : q.length = k := by
    have := congrArg List.length h.ids
    simpa using this
  refine ⟨h1, ?_, ?_⟩
  · rw [← h.r, List.length_map, ← h1]; exact List.length_filter_le _ _
  · rw [← h.l, List.length_map, ← h1]; exact List.length_filter_le _ _
theorem Bld.ids_lt {k : Nat} {q : List Fl} {ready late : List Nat} (h : Bld k q ready late) : ∀ f ∈ q, 1 ≤ f.id ∧ f.id ≤ k := by
  intro f hf
  have h1 : f.id ∈ q.map Fl.id := List.mem_map.2 ⟨f, hf, rfl⟩
  rw [h.ids] at h1
  obtain ⟨i, hi, e⟩ := List.mem_map.1 h1
  rw [List.mem_range] at hi
  omega
theorem nodup_ids (k : Nat) : ((List.range k).map (· + 1)).Nodup := by
  rw [List.Nodup, List.pairwise_map]
  exact List.nodup_range.imp (fun h e => h (by omega))
theorem Bld.start : Bld 0 [] [] [] := ⟨rfl, rfl, rfl, fun f hf => by cases hf⟩
theorem Bld.put1 {k : Nat} {q : List Fl} {ready late : List Nat} (h : Bld k q ready late) : Bld (k + 1) (q ++ [⟨k + 1, 100, 50, false⟩]) (ready ++ [k + 1]) late := by
  have hw : wd (⟨k + 1, 100, 50, false⟩ : Fl) = true := rfl
  refine ⟨by rw [List.map_append, h.ids, List.range_succ, List.map_append]; rfl, ?_, ?_, fun f hf => ?_⟩
  · rw [List.filter_append, List.map_append, h.r, List.filter_cons_of_pos hw]; rfl
  · rw [List.filter_append, List.map_append, h.l, List.filter_cons_of_neg (by simp [hw])]; simp
  · rcases List.mem_append.1 hf with hf | hf
    · exact h.fl f hf
    · rw [List.mem_singleton.1 hf]; exact ⟨rfl, rfl, .inl rfl⟩
theorem Bld.put0 {k : Nat} {q : List Fl} {ready late : List Nat} (h : Bld k q ready late) : Bld (k + 1) (q ++ [⟨k + 1, 0, 50, false⟩]) ready (late ++ [k + 1]) := by
  have hw : wd (⟨k + 1, 0, 50, false⟩ : Fl) = false := rfl
  refine ⟨by rw [List.map_append, h.ids, List.range_succ, List.map_append]; rfl, ?_, ?_, fun f hf => ?_⟩
  · rw [List.filter_append, List.map_append, h.r, List.filter_cons_of_neg (by simp [hw])]; simp
  · rw [List.filter_append, List.map_append, h.l, List.filter_cons_of_pos (by simp [hw])]; rfl
  · rcases List.mem_append.1 hf with hf | hf
    · exact h.fl f hf
    · rw [List.mem_singleton.1 hf]; exact ⟨rfl, rfl, .inr rfl⟩
theorem Bld.rnd {k : Nat} {q : List Fl} {ready late : List Nat} (h : Bld k q ready late) : Rnd q ready late 0 99 49 := by
  refine ⟨⟨q, [], by simp, by rw [h.r, List.drop_zero], h.l, by simp, fun f hf => ?_, fun f hf => (by cases hf)⟩⟩
  obtain ⟨h1, h2, h3⟩ := h.fl f hf
  refine ⟨h1, by omega, fun hw => ?_, fun hw => ?_⟩
  · have : 0 < f.win := by simpa [wd] using hw
    omega
  · have : ¬ 0 < f.win := by simpa [wd] using hw
    omega
theorem Bld.nd {k : Nat} {q : List Fl} {ready late : List Nat} (h : Bld k q ready late) : (late ++ ready).Nodup := by
  have hp : (q.filter wd ++ q.filter fun f => !wd f).Perm q := List.filter_append_perm wd q
  have h1 : (late ++ ready).Perm (q.map Fl.id) := by
    rw [← h.r, ← h.l, ← List.map_append]
    exact (List.perm_append_comm.trans hp).map _
  rw [h.ids] at h1
  exact h1.nodup_iff.2 (nodup_ids k)
theorem Bld.all {k : Nat} {q : List Fl} {ready late : List Nat} (h : Bld k q ready late) (h0 : ready = []) : late = (List.range k).map (· + 1) := by
  have h1 := h.r
  rw [h0, List.map_eq_nil_iff, List.filter_eq_nil_iff] at h1
  rw [← h.l, List.filter_eq_self.2 (fun f hf => by have := h1 f hf; simpa using this)]
  exact h.ids
/-- late ones get windows -/
structure Gr (i : Nat) (q : List Fl) (ids late : List Nat) : Prop where
  idq : q.map Fl.id = ids
  nd : ids.Nodup
  lnd : late.Nodup
  sub : ∀ x ∈ late, x ∈ ids
  fl : ∀ f ∈ q, f.en = false ∧ 43 ≤ f.wait ∧ (f.id ∈ late.drop i → f.win = 0) ∧ (¬ f.id ∈ late.drop i → (93 : Int) ≤ f.win)
theorem Gr.start {q : List Fl} {ids ready late : List Nat} {lw : Int} {lo : Nat} (h : Rnd q ready late 0 lw lo) (hlw : 92 ≤ lw) (hlo : 42 ≤ lo) (hi : q.map Fl.id = ids) (hn : ids.Nodup) : Gr 0 q ids late := by
  obtain ⟨X, B, h1, h2, h3, h4, h5, h6⟩ := h.sp
  rw [List.take_zero, List.map_eq_nil_iff] at h4
  subst h4
  rw [List.append_nil] at h1
  subst h1
  have hsub : (late).Sublist (q.map Fl.id) := by rw [← h3]; exact List.Sublist.map _ List.filter_sublist
  refine ⟨hi, hn, by rw [← hi] at hn; exact hn.sublist hsub, fun x hx => by rw [← hi]; exact hsub.subset hx, fun f hf => ?_⟩
  obtain ⟨e1, e2, e3, e4⟩ := h5 f hf
  rw [List.drop_zero]
  refine ⟨e1, by omega, fun hm => ?_, fun hm => ?_⟩
  · rw [← h3] at hm
    obtain ⟨g, hg, he⟩ := List.mem_map.1 hm
    obtain ⟨hg1, hg2⟩ := List.mem_filter.1 hg
    have : g = f := ids_inj (by rw [hi]; exact hn) hg1 hf he
    subst this
    exact e4 (by simpa using hg2)
  · cases hw : wd f with
    | true => have := e3 hw; omega
    | false =>
      exfalso
      apply hm
      rw [← h3]
      exact List.mem_map.2 ⟨f, List.mem_filter.2 ⟨hf, by simp [hw]⟩, rfl⟩
theorem Gr.next {i : Nat} {q : List Fl} {ids late : List Nat} {id : Nat} (h : Gr i q ids late) (hi : late[i]? = some id) :
    ∃ a f b, q = a ++ f :: b ∧ f.id = id ∧ f.win = 0 ∧ (∀ g ∈ a, g.id ≠ id) ∧ Gr (i + 1) (a ++ ⟨f.id, f.win + 100, f.wait, f.en⟩ :: b) ids late := by
  obtain ⟨hlt, he⟩ := List.getElem?_eq_some_iff.1 hi
  have hmem : id ∈ late := List.mem_of_getElem? hi
  have hid := h.sub id hmem
  rw [← h.idq] at hid
  obtain ⟨f0, hf0, hfid⟩ := List.mem_map.1 hid
  obtain ⟨a, b, hq⟩ := List.append_of_mem hf0
  have hnd := h.nd
  rw [← h.idq, hq, List.map_append, List.map_cons, List.nodup_append] at hnd
  obtain ⟨n1, n2, n3⟩ := hnd
  rw [List.nodup_cons] at n2
  have hd : late.drop i = id :: late.drop (i + 1) := by
    rw [List.drop_eq_getElem_cons hlt, he]
  have hlnd := h.lnd
  have hnot : ¬ id ∈ late.drop (i + 1) := by
    have h2 : (late.drop i).Nodup := h.lnd.sublist (List.drop_sublist _ _)
    rw [hd, List.nodup_cons] at h2
    exact h2.1
  have hw := (h.fl f0 hf0).2.2.1 (by rw [hd, hfid]; exact List.mem_cons_self)
  refine ⟨a, f0, b, hq, hfid, hw, fun g hg e => n3 g.id (List.mem_map.2 ⟨g, hg, rfl⟩) f0.id List.mem_cons_self (by rw [e, hfid]), ⟨?_, h.nd, h.lnd, h.sub, fun g hg => ?_⟩⟩
  · rw [← h.idq, hq]; simp
  · have old : ∀ g ∈ q, g.id ≠ id → g.en = false ∧ 43 ≤ g.wait ∧ (g.id ∈ late.drop (i + 1) → g.win = 0) ∧ (¬ g.id ∈ late.drop (i + 1) → (93 : Int) ≤ g.win) := by
      intro g hg hne
      obtain ⟨e1, e2, e3, e4⟩ := h.fl g hg
      refine ⟨e1, e2, fun hm => e3 (by rw [hd]; exact List.mem_cons_of_mem _ hm), fun hm => e4 (by rw [hd]; intro hc; rcases List.mem_cons.1 hc with hc | hc; exact hne hc; exact hm hc)⟩
    rcases List.mem_append.1 hg with hg | hg
    · exact old g (by rw [hq]; simp [hg]) (fun e => n3 g.id (List.mem_map.2 ⟨g, hg, rfl⟩) f0.id List.mem_cons_self (by rw [e, hfid]))
    · rcases List.mem_cons.1 hg with rfl | hg
      · obtain ⟨e1, e2, _, _⟩ := h.fl f0 hf0
        refine ⟨e1, e2, fun hm => ?_, fun _ => by show (93 : Int) ≤ f0.win + 100; omega⟩
        have hm' : f0.id ∈ late.drop (i + 1) := hm
        rw [hfid] at hm'
        exact absurd hm' hnot
      · exact old g (by rw [hq]; simp [hg]) (fun e => n2.1 (List.mem_map.2 ⟨g, hg, by rw [e, hfid]⟩))
theorem Gr.done {q : List Fl} {ids late : List Nat} (h : Gr late.length q ids late) : Rnd q ids [] 0 92 42 := by
  have := Rnd.all (q := q) (lw := 92) (lo := 42) (fun f hf => by
    obtain ⟨e1, e2, _, e4⟩ := h.fl f hf
    rw [List.drop_length] at e4
    exact ⟨e1, by omega, by have := e4 (by simp); omega⟩) (by decide)
  rw [h.idq] at this
  exact this
end Go.Sch
namespace Go.Proofs.Ytbjjphpkpmikjaa
open Go.RowKit Go.Own Go.Sch
set_option linter.unusedVariables false
set_option linter.unusedSimpArgs false
theorem Bld.ok {k : Nat} {q : List Fl} {ready late : List Nat} (h : Sch.Bld k q ready late) (hk : k ≤ 10) : SdOk q 65535 1 :=
  ⟨fun f hf => by
    have h1 := h.ids_lt f hf
    obtain ⟨_, h2, h3⟩ := h.fl f hf
    omega, by rw [h.len.1]; omega, by decide, by decide, by decide, by decide⟩
theorem infoI : (Try.prog.info? 3).map (fun i => (i.zero, i.size, i.bytes)) = some (some (.int .i64 0), 1, 8) := by kernel_rfl
theorem nv_one (l : List Nat) : ∀ u ∈ l.map nv, u.oneCell' = true := by
  intro u hu
  obtain ⟨x, _, rfl⟩ := List.mem_map.1 hu
  rfl
section
variable {S : Nat → Prop} {w0 w : World} {v : Value} {l : List Nat}
/-- a list of numbers of the law's own: some more behind it -/
theorem append_i (L1 L2 : List Ob) (s : St S w0 w (L1 ++ QO 3 1 v l.length (l.map nv) :: L2)) (xs : List Nat) {A : Option Addr} {m c : Nat} (hr : Rd w 1 A m (xs.map nv)) (hb : l.length + m ≤ 1000000) :
    ∃ A' c' w', (Builtin.append_ #[23, 23] 23 #[v, .slice A m c]).run Try.prog w = .ok (.slice A' (l.length + m) c') w' ∧ St S w0 w' (L1 ++ QO 3 1 (.slice A' (l.length + m) c') (l ++ xs).length ((l ++ xs).map nv) :: L2) := by
  obtain ⟨X, h, _, _, go⟩ := St.focus L1 _ L2 s
  have hm : xs.length = m := by simpa using hr.1
  obtain ⟨A', c', w', F', hrun, h2, h3, h4⟩ := run_append_qu (ty := 23) (c := c) Try.underlying23 infoI rfl (by omega) (by intro u hu; simp [Value.cells] at hu; rcases hu with rfl; rfl) h hr (nv_one _) (by omega) (by omega)
  refine ⟨A', c', w', hrun, ?_⟩
  have := go w' (QO 3 1 (.slice A' (l.length + m) c') (l ++ xs).length ((l ++ xs).map nv)) [] (St.changed (framed_QO ..) (by rw [List.length_append, List.map_append, hm]; exact h2) h4 h3)
  rwa [List.append_nil] at this
theorem ints_see (L1 L2 : List Ob) (s : St S w0 w (L1 ++ QO 3 1 v l.length (l.map nv) :: L2)) : ∃ A c, v = .slice A l.length c ∧ Rd w 1 A l.length (l.map nv) ∧ l.length ≤ c ∧ c ≤ maxLen := by
  obtain ⟨X, h, _⟩ := St.focus L1 _ L2 s
  exact h.rd
/-- a list of no numbers, made anew -/
theorem new_ints {L : List Ob} (s : St S w0 w L) : St S w0 (w.alloc (.cells #[] 3)) (L ++ [QO 3 1 (.slice (some ⟨w.heap.size, 0, none⟩) 0 0) ([] : List Nat).length (([] : List Nat).map nv)]) := by
  have hq : Qu 3 1 (w.alloc (.cells #[] 3)) (.slice (some ⟨w.heap.size, 0, none⟩) 0 0) (fun i => i = w.heap.size) 0 [] :=
    .inr ⟨w.heap.size, 0, 0, [], rfl, Blk.new w 3 [], Nat.le_refl _, by simp, by simp [maxLen], rfl, rfl, (fun u hu => by cases hu), rfl⟩
  exact St.add s (St.made (w := w) (F := fun i => i = w.heap.size) (framed_QO ..) hq (fun i hi => by rw [hi]; exact Nat.le_refl _) ((Below.refl _ _).alloc (Nat.le_refl _) _))
theorem int_at11 (L1 L2 : List Ob) {b o m d y x : Nat} (s : St S w0 w (L1 ++ QO 3 1 (.slice (some ⟨b, o, none⟩) m d) l.length (l.map nv) :: L2)) (hm : l.length = m) (hx : l[y]? = some x) : w.cell? ⟨b, o + y, none⟩ = some (.int .i64 (x : Int)) ∧ b < w.heap.size := by
  obtain ⟨X, h, _⟩ := St.focus L1 _ L2 s
  rw [hm] at h
  exact h.at_ (j := y) (u := nv x) (by rw [List.getElem?_map, hx]; rfl)
/-- where a list of numbers begins -/
theorem int_from11 (L1 L2 : List Ob) {A : Option Addr} {m d : Nat} (s : St S w0 w (L1 ++ QO 3 1 (.slice A m d) l.length (l.map nv) :: L2)) (hm : 0 < l.length) : ∃ b o, A = some ⟨b, o, none⟩ := by
  obtain ⟨A', c, he, hr, _⟩ := ints_see L1 L2 s
  injection he with he1 _ _
  subst he1
  obtain ⟨b, o, h, _⟩ := hr.2 hm
  exact ⟨b, o, h⟩
theorem rd_nv1 (W : World) (x : Nat) : Rd (W.alloc (.cells #[.int .i64 (x : Int)] 3)) 1 (some ⟨W.heap.size, 0, none⟩) 1 ([x].map nv) :=
  Rd.of_blk (n := 1) (size := 1) (Blk.new W 3 [.int .i64 (x : Int)]) (by simp)
end
theorem SdOk.grant {a b : List Fl} {f : Fl} {W : Int} {F : Nat} {n : Int} (h : SdOk (a ++ f :: b) W F) (h1 : -2147483647 ≤ f.win + n) (h2 : f.win + n ≤ 2147483647) : SdOk (a ++ ⟨f.id, f.win + n, f.wait, f.en⟩ :: b) W F := by
  refine ⟨fun g hg => ?_, by have := h.len; simpa using this, h.w1, h.w2, h.f1, h.f2⟩
  rcases List.mem_append.1 hg with hg | hg
  · exact h.fl g (by simp [hg])
  · rcases List.mem_cons.1 hg with rfl | hg
    · have := h.fl f (by simp)
      exact ⟨this.1, this.2.1, h1, h2, this.2.2.2.2⟩
    · exact h.fl g (by simp [hg])
def a7 (z : Int) : Nat := (bits .and .i64 z 7).toNat
theorem a7_eq (z : Int) : bits .and .i64 z 7 = (a7 z : Int) ∧ a7 z ≤ 7 := by
  have := and_k z 7 (by decide) 7 rfl
  unfold a7
  omega
end Go.Proofs.Ytbjjphpkpmikjaa
