/- The laws' walks: the document's encoder among the things that a law keeps; cells that a law overwrites. -/
import Derived.Test.YtinieljgcenemaaDoorR5G
import Derived.Test.YtinieljgcenemaaDoorOp5
namespace Go.Proofs.YtinieljgcenemaaDoor
open Go.RowKit Go.Own Go.Tbl Go.Huf Go.Hin
set_option linter.unusedVariables false
set_option maxRecDepth 100000

section
variable {w0 w : World} {L L1 L2 : List Ob} {p h : Nat} {l fs : List Fld} {cs : List Nat} {A0 : Option Addr} {n0 c0 : Nat} {base : Nat} {S : Nat → Prop}
/-- a cell of a slice of the law's own is set -/
theorem st_slotV {e : TypeId} {size n c : Nat} {A : Option Addr} {xs : List Value} {b o i : Nat} {u : Value} (s : St S w0 w (L1 ++ SLo base e size (.slice A n c) n xs :: L2)) (hA : A = some ⟨b, o, none⟩) :
    St S w0 (w.setCell ⟨b, o + i, none⟩ u) (L1 ++ SLo base e size (.slice A n c) n (xs.set i u) :: L2) := by
  obtain ⟨F, ⟨ho, hF⟩, hO, _, go⟩ := s.focus L1 _ L2
  obtain ⟨A', c', e1, hnc, hcm, _, hoff⟩ := own_shape ho
  cases e1
  obtain ⟨h0, _⟩ := hoff _ hA
  have h0 : o = 0 := h0
  subst h0
  subst hA
  rcases ho.2 with ⟨h1, _⟩ | ⟨g, cap, cur, h1, hb, hg, h2, h3, h4, h5⟩
  · simp at h1
  · simp only [Value.slice.injEq, Option.some.injEq, Addr.mk.injEq, and_true, true_and] at h1
    obtain ⟨rfl, rfl⟩ := h1
    have hl := ho.1
    have hb2 : Blk w b e cur.toList := by simpa [Blk] using hg
    have hb3 := hb2.set_ i u
    rw [Nat.zero_add]
    have hown : (w.setCell ⟨b, i, none⟩ u).ownsRow base e size (.slice (some ⟨b, 0, none⟩) n c) n (xs.set i u) := by
      refine ⟨by rw [List.length_set]; exact hl, .inr ⟨b, c, (cur.toList.set i u).toArray, rfl, hb, hb3, h2, h3, by simpa using h4, ?_⟩⟩
      rw [← h5]
      show List.take (n * size) (cur.toList.set i u) = (List.take (n * size) cur.toList).set i u
      rw [List.take_set]
    have := go (w.setCell ⟨b, i, none⟩ u) (SLo base e size (.slice (some ⟨b, 0, none⟩) n c) n (xs.set i u)) [] (St.changed (framed_SLo ..) ⟨hown, rfl⟩ (fun j hj => .inl (by rw [hF]; exact hj)) ((Fr.refl F w).setCell (p := ⟨b, i, none⟩) (.inl (by rw [hF]; rfl)) u))
    rwa [List.append_nil] at this
theorem st_slot0 {e : TypeId} {size n c : Nat} {A : Option Addr} {xs : List Value} {b i : Nat} {u : Value} (s : St S w0 w (L1 ++ SLo base e size (.slice A n c) n xs :: L2)) (hA : A = some ⟨b, 0, none⟩) :
    St S w0 (w.setCell ⟨b, i, none⟩ u) (L1 ++ SLo base e size (.slice A n c) n (xs.set i u) :: L2) := by
  have := st_slotV (i := i) (u := u) s hA
  rwa [Nat.zero_add] at this
theorem own_frozenV {w : World} {base : Nat} {e : TypeId} {size n c : Nat} {A : Option Addr} {xs : List Value} {b o : Nat} (h : w.ownsRow base e size (.slice A n c) n xs) (hA : A = some ⟨b, o, none⟩) (i : Nat) : w.frozen? ⟨b, i, none⟩ = false := by
  subst hA
  rcases h.2 with ⟨h1, _⟩ | ⟨g, cap, cur, h1, _, hg, _⟩
  · simp at h1
  · simp only [Value.slice.injEq, Option.some.injEq, Addr.mk.injEq, and_true] at h1
    obtain ⟨⟨rfl, _⟩, _⟩ := h1
    have hb2 : Blk w b e cur.toList := by simpa [Blk] using hg
    exact hb2.frozen i
theorem own_at {w : World} {base : Nat} {e : TypeId} {size n c : Nat} {A : Option Addr} {xs : List Value} (h : w.ownsRow base e size (.slice A n c) n xs) (hn : 0 < n) : ∃ b, A = some ⟨b, 0, none⟩ := by
  rcases h.2 with ⟨h1, h2⟩ | ⟨g, cap, cur, h1, _⟩
  · first | omega | (simp at h1; omega)
  · simp only [Value.slice.injEq] at h1
    exact ⟨g, h1.1⟩
theorem own_cell {w : World} {base : Nat} {e : TypeId} {size n c i : Nat} {A : Option Addr} {xs : List Value} {b : Nat} (h : w.ownsRow base e size (.slice A n c) n xs) (hA : A = some ⟨b, 0, none⟩) (hn : 0 < n) (hi : i < n * size) : ∃ v, w.cell? ⟨b, i, none⟩ = some v := by
  have hr := Rd.of_own h
  obtain ⟨b', o', e1, hc⟩ := hr.2 hn
  rw [hA] at e1
  simp only [Option.some.injEq, Addr.mk.injEq, and_true] at e1
  obtain ⟨rfl, rfl⟩ := e1
  have hl : i < xs.length := by rw [hr.1]; exact hi
  have := hc i _ (List.getElem?_eq_getElem hl)
  rw [Nat.zero_add] at this
  exact ⟨_, this⟩
/-- Encode of the document's -/
theorem lEncodeR (s : St NoS w0 w (L1 ++ REo p h l cs :: L2)) (hO : FSo base A0 c0 n0 fs ∈ L1 ++ L2) (hlen : fs.length = n0) (hn0 : n0 ≤ 20) (hfs : ∀ f ∈ fs, f.n.size ≤ 400 ∧ f.v.size ≤ 400) (hcs : cs.length ≤ 1000)
    (Lb : List UInt8) (h' : Nat) (l' : List Fld) (hE : blockE statL h l (pend cs) fs = (Lb, h', l')) (T : ByteArray) (hT : ofB Lb = T) (hN2 : Lb.length ≤ 1048576) :
    Calls Tryd.prog 20 #[.pointer (some ⟨p, 0, none⟩), .slice A0 n0 c0] w fun e w' => e = .returned (.string T) ∧ St NoS w0 w' (L1 ++ REo p h' l' [] :: L2) := by
  obtain ⟨F, t, hF, hap, go⟩ := s.focusA L1 _ L2
  obtain ⟨F', ⟨ho, hF'⟩, hd⟩ := hap _ hO
  refine (r5Encode_c t (Rd.of_own ho) hlen hn0 (fun a ha hg => hd _ hg (by rw [hF']; exact own_block_some ha)) hfs hcs Lb h' l' hE T hT hN2).mono ?_
  rintro e w' ⟨rfl, s'⟩
  have := go _ _ [] s'
  rw [List.append_nil] at this
  exact ⟨rfl, this⟩
theorem lSetMaxR (s : St NoS w0 w (L1 ++ REo p h l cs :: L2)) (x : Int) (n : Nat) (hn : clampI x = n) (hcs : cs.length ≤ 1000) : Calls Tryd.prog 16 #[.pointer (some ⟨p, 0, none⟩), .int .i64 x] w fun e w' => e = .returned (.tuple #[]) ∧ St NoS w0 w' (L1 ++ REo p h l (cs ++ [n]) :: L2) := by
  obtain ⟨F, t, _, _, go⟩ := s.focus L1 _ L2
  refine (r5SetMaxE_c t x n hn hcs).mono ?_
  rintro e w' ⟨rfl, s'⟩
  have := go _ _ [] s'
  rw [List.append_nil] at this
  exact ⟨rfl, this⟩
theorem lNewR (s : St NoS w0 w L) (x : Int) (h : Nat) (hh : clampI x = h) : Calls Tryd.prog 14 #[.int .i64 x] w fun e w' => ∃ p, e = .returned (.pointer (some ⟨p, 0, none⟩)) ∧ St NoS w0 w' (L ++ [REo p h [] []]) := by
  refine (r5NewE_c x h hh w).mono ?_
  rintro e w' ⟨p, rfl, s'⟩
  exact ⟨p, rfl, s.add s'⟩
theorem lSizeR (s : St NoS w0 w (L1 ++ REo p h l cs :: L2)) (z : Nat) (hz : szs l = z) : Calls Tryd.prog 22 #[.pointer (some ⟨p, 0, none⟩)] w fun e w' => e = .returned (.int .i64 (z : Int)) ∧ St NoS w0 w' (L1 ++ REo p h l cs :: L2) := by
  obtain ⟨F, t, _⟩ := s.focus L1 _ L2
  refine (r5SizeE_c t z hz).mono ?_
  rintro e w' ⟨rfl, hb⟩
  exact ⟨rfl, s.next hb⟩
theorem lMaxR (s : St NoS w0 w (L1 ++ REo p h l cs :: L2)) : Calls Tryd.prog 24 #[.pointer (some ⟨p, 0, none⟩)] w fun e w' => e = .returned (.int .i64 (h : Int)) ∧ St NoS w0 w' (L1 ++ REo p h l cs :: L2) := by
  obtain ⟨F, t, _⟩ := s.focus L1 _ L2
  refine (r5MaxE_c t).mono ?_
  rintro e w' ⟨rfl, hb⟩
  exact ⟨rfl, s.next hb⟩
end
end Go.Proofs.YtinieljgcenemaaDoor
