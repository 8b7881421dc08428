/- hpack's laws: what the document's decoder answers, among other things. -/
import Derived.Test.YtinieljgcenemaaDoorR5I
import Derived.Test.YtinieljgcenemaaDoorOp5
import Derived.Test.YtinieljgcenemaaDoorLK
import Derived.Test.YtinieljgcenemaaDoorLr
namespace Go.Proofs.YtinieljgcenemaaDoor
open Go.RowKit Go.Own Go.Tbl Go.Huf Go.Hin
set_option linter.unusedVariables false
set_option maxRecDepth 100000

/-- what is kept of a decoder's state -/
def StOk (lim : Nat) (st : Option (Nat × List Fld)) : Prop := lim ≤ 65536 ∧ ∀ h l, st = some (h, l) → Ok statL h l
theorem StOk.lim {lim n : Nat} {st : Option (Nat × List Fld)} (h : StOk lim st) (hn : n ≤ 65536) : StOk n st := ⟨hn, h.2⟩
theorem StOk.dec {lim : Nat} {st st' : Option (Nat × List Fld)} {list er : Int} {xs : List UInt8} {fs : List Fld} (h : StOk lim st) (hR : decR lim list st xs = (fs, er, st')) (hx : xs.length ≤ 300) : StOk lim st' ∧ fs.length ≤ 300 := by
  obtain ⟨hl, ho⟩ := h
  cases st with
  | none =>
    injection hR with e1 e2
    injection e2 with e2 e3
    subst e1 e3
    exact ⟨⟨hl, fun _ _ h => by cases h⟩, Nat.zero_le _⟩
  | some z =>
    obtain ⟨h, l⟩ := z
    cases hB : blockD statL lim h l xs with
    | none =>
      simp only [decR, hB] at hR
      injection hR with e1 e2
      injection e2 with e2 e3
      subst e1 e3
      exact ⟨⟨hl, fun _ _ h => by cases h⟩, Nat.zero_le _⟩
    | some y =>
      obtain ⟨gs, h', l'⟩ := y
      obtain ⟨ok', _, hg, _⟩ := blockD_ok (N := 1048576) statL_sz (ho _ _ rfl) hl (by omega) hB
      simp only [decR, hB] at hR
      by_cases hc : list < (szs gs : Int)
      · rw [if_pos hc] at hR
        injection hR with e1 e2
        injection e2 with e2 e3
        subst e1 e3
        exact ⟨⟨hl, fun _ _ e => by cases e; exact ok'⟩, Nat.zero_le _⟩
      · rw [if_neg hc] at hR
        injection hR with e1 e2
        injection e2 with e2 e3
        subst e1 e3
        exact ⟨⟨hl, fun _ _ e => by cases e; exact ok'⟩, by omega⟩
section
variable {w0 w : World} {L1 L2 L : List Ob} {p lim h : Nat} {list : Int} {l : List Fld} {st : Option (Nat × List Fld)} {O0 : Ob}
theorem lDecR1 (s : St NoS w0 w (O0 :: RDo p lim list st :: L2)) {xs : List UInt8} (T : ByteArray) (hT : ofB xs = T) (hn : xs.length ≤ 300) (fs : List Fld) (er : Int) (st' : Option (Nat × List Fld)) (hR : decR lim list st xs = (fs, er, st')) (m : Nat) (hm : fs.length = m) :
    Calls Tryd.prog 30 #[.pointer (some ⟨p, 0, none⟩), .string T] w fun e w' => ∃ A c, e = .returned (.tuple #[.slice A m c, .int .i64 er]) ∧ St NoS w0 w' (O0 :: RDo p lim list st' :: (L2 ++ [FSo w0.heap.size A c m fs])) := by
  obtain ⟨F, t, _, _, go⟩ := s.focus1
  refine (r5Dec_c t hT hn _ hR).mono ?_
  rintro e w' ⟨A, n, c, rfl, hn, s'⟩
  obtain rfl : n = m := hn.symm.trans hm
  exact ⟨A, c, rfl, go _ _ _ (s'.floor [RDo p lim list st'] [] s.size)⟩
theorem lSetMaxDR1 (s : St NoS w0 w (O0 :: RDo p lim list st :: L2)) (x : Int) (n : Nat) (hn : clampI x = n) : Calls Tryd.prog 28 #[.pointer (some ⟨p, 0, none⟩), .int .i64 x] w fun e w' => e = .returned (.tuple #[]) ∧ St NoS w0 w' (O0 :: RDo p n list st :: L2) := by
  obtain ⟨F, t, _, _, go⟩ := s.focus1
  refine (r5SetMaxD_c t x n hn).mono ?_
  rintro e w' ⟨rfl, s'⟩
  have := go _ _ [] s'
  rw [List.append_nil] at this
  exact ⟨rfl, this⟩
theorem lNewDR (s : St NoS w0 w L) (x : Int) (list : Int) (h : Nat) (hh : clampI x = h) : Calls Tryd.prog 26 #[.int .i64 x, .int .i64 list] w fun e w' => ∃ p, e = .returned (.pointer (some ⟨p, 0, none⟩)) ∧ St NoS w0 w' (L ++ [RDo p h list (some (h, []))]) := by
  refine (r5NewD_c x list h hh w).mono ?_
  rintro e w' ⟨p, rfl, s'⟩
  exact ⟨p, rfl, s.add s'⟩
theorem lSizeDR1 (s : St NoS w0 w (O0 :: RDo p lim list (some (h, l)) :: L2)) (z : Nat) (hz : szs l = z) : Calls Tryd.prog 31 #[.pointer (some ⟨p, 0, none⟩)] w fun e w' => e = .returned (.int .i64 (z : Int)) ∧ St NoS w0 w' (O0 :: RDo p lim list (some (h, l)) :: L2) := by
  obtain ⟨F, t, _⟩ := s.focus1
  refine (r5DSize_c t z hz).mono ?_
  rintro e w' ⟨rfl, hb⟩
  exact ⟨rfl, s.next hb⟩
theorem lMaxDR1 (s : St NoS w0 w (O0 :: RDo p lim list (some (h, l)) :: L2)) : Calls Tryd.prog 32 #[.pointer (some ⟨p, 0, none⟩)] w fun e w' => e = .returned (.int .i64 (h : Int)) ∧ St NoS w0 w' (O0 :: RDo p lim list (some (h, l)) :: L2) := by
  obtain ⟨F, t, _⟩ := s.focus1
  refine (r5DMax_c t).mono ?_
  rintro e w' ⟨rfl, hb⟩
  exact ⟨rfl, s.next hb⟩
/-- is it broken? -/
theorem rdo_cell {F : Nat → Prop} (t : RDo p lim list st w F) : w.cell? ⟨p, 3, none⟩ = some (.bool st.isNone) := by
  cases st with
  | none =>
    obtain ⟨_, q, s0⟩ := rd_open0 t
    exact s0.blk0.cell 3
  | some z =>
    obtain ⟨h, l⟩ := z
    obtain ⟨_, _, q, s0⟩ := rd_open t
    exact s0.blk0.cell 3
theorem st_broken (s : St NoS w0 w (O0 :: RDo p lim list st :: L2)) : w.cell? ⟨p, 3, none⟩ = some (.bool st.isNone) := by
  obtain ⟨F, t, _⟩ := s.focus1
  exact rdo_cell t
end
end Go.Proofs.YtinieljgcenemaaDoor
