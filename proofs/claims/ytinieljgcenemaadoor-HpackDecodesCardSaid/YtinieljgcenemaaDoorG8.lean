/- The program's hpack: the updates with which a block begins · The program's hpack: the decoder as a thing: New, SetMax, Decode, Size, Max · The program's hpack: the decoder as a thing: Decode, New, SetMax, Size, Max · The program's hpack: Encode · The laws' own small; the quiet readings of Size and Max · The document's Add, with where its entries lie (rAdd2 of TblE, without the program's texts) · The document's table and its blocks (RX of TblZ, without the program's texts and without Clone) · The document's side of hpack: Same (two lists of the same fields), fit · The laws' walks: calls, over the things that a law keeps · The hpack laws' common case 'shown' · The hpack laws: lengths of blocks; quiet Size and Max -/
import Derived.Test.YtinieljgcenemaaDoorG7
import Derived.Deep.LoopGhost
import Derived.Deep.QuietTactic
import Derived.BigQuiet
import Derived.Lib.SlBytesConst
namespace Go.Proofs.YtinieljgcenemaaDoor
open Go.RowKit Go.Own Go.Tbl Go.Huf Go.Hin
set_option linter.unusedVariables false
set_option maxRecDepth 100000
attribute [local go_sem ↓] Go.wp_at_zero Go.wp_at_succ

/-- no octets -/
theorem st_none {S : Nat → Prop} {w0 w : World} {L : List Ob} (s : St S w0 w L) : St S w0 w (L ++ [BSo w0.heap.size none 0 0 []]) := by
  refine s.add (w' := w) (M := [BSo w0.heap.size none 0 0 []]) ⟨⟨_, ⟨_, _, framed_SLo .., ⟨World.ownsRow_nil _ _ _ _, rfl⟩, rfl, fun _ _ h => h, rfl⟩, fun i hi => ?_⟩, Fr.refl _ _⟩
  rcases hi with hi | hi
  · simp [Value.ownBlock] at hi
  · exact hi.elim
/-- what a call leaves that begins a block -/
def UpdsP (w : World) (F : Nat → Prop) (p h : Nat) (l : List Fld) (N : Nat) (L : List UInt8) (e : Ending) (w' : World) : Prop := ∃ A c, e = .returned (.slice A N c) ∧ St F w w' [PEo p h l none, BSo w.heap.size A c N L]
section
variable {w : World} {p h : Nat} {l : List Fld} {F : Nat → Prop}
set_option maxHeartbeats 1000000 in
theorem eUpds_none (t : PEo p h l none w F) : Calls Tryd.prog 39 #[.pointer (some ⟨p, 0, none⟩)] w (UpdsP w F p h l 0 []) := by
  obtain ⟨hk, q, a, b, hp, s0⟩ := pe_open (pe_start t)
  have S0 : Hid (St F w w [BLo p 44 (encCells q false a b), PTo q h l]) := s0
  have St0 := Lib.hid (st_none (pe_start t))
  clear s0 t
  have X0 := S0.out.blk0
  have z1 := X0.cell 1
  simp only [List.getElem?_cons_zero, List.getElem?_cons_succ] at z1
  clear X0
  go_enter Tryd.func39, Tryd.ntmps39
  go_wp2
  go_ret
  exact ⟨none, 0, rfl, St0.out⟩
theorem updB_c {w : World} {p q h : Nat} {F : Nat → Prop} {l : List Fld} {ch : Bool} {x y : Int} (t : PT w q F h l) (b : Blk w p 44 (encCells q ch x y)) (n : Nat) (hn : n ≤ 65536) (z : Int) (hz : z = (n : Int)) (L : List UInt8) (hL : updB n = L) (N : Nat) (hN : L.length = N) :
    Calls Tryd.prog 51 #[.pointer (some ⟨p, 0, none⟩), .int .i64 z] w fun e w' => ∃ A c, e = .returned (.slice A N c) ∧ St F w w' [PTo q n (pre n l), BSo w.heap.size A c N L] := by
  subst hz
  exact eUpd_c t b n hn L hL N hN
set_option maxHeartbeats 4000000 in
theorem eUpds_two {x y : Nat} (t : PEo p h l (some (x, y)) w F) (hlt : x < y) (L : List UInt8) (hE : L = updB x ++ updB y) (N : Nat) (hN : L.length = N) : Calls Tryd.prog 39 #[.pointer (some ⟨p, 0, none⟩)] w (UpdsP w F p y (pre y (pre x l)) N L) := by
  obtain ⟨hk, q, a, b, ⟨rfl, rfl, hx, hy⟩, s0⟩ := pe_open (pe_start t)
  have S0 : Hid (St F w w [BLo p 44 (encCells q true (x : Int) (y : Int)), PTo q h l]) := s0
  have Hk := Lib.hid hk
  obtain ⟨L1, hL1⟩ : ∃ L1, updB x = L1 := ⟨_, rfl⟩
  obtain ⟨L2, hL2⟩ : ∃ L2, updB y = L2 := ⟨_, rfl⟩
  obtain ⟨n1, hn1⟩ : ∃ n1, L1.length = n1 := ⟨_, rfl⟩
  obtain ⟨n2, hn2⟩ : ∃ n2, L2.length = n2 := ⟨_, rfl⟩
  have m1 : n1 ≤ 6 := by rw [← hn1, ← hL1]; exact putB_le _ _ _ (by omega)
  have m2 : n2 ≤ 6 := by rw [← hn2, ← hL2]; exact putB_le _ _ _ (by omega)
  have H1 := Lib.hid hL1
  have H2 := Lib.hid hL2
  have K1 := Lib.hid hn1
  have K2 := Lib.hid hn2
  have HE : Hid (L1 ++ L2 = L) := by rw [hE, hL1, hL2]; exact rfl
  have HN : Hid (n1 + n2 = N) := by rw [← hN, ← HE.out, List.length_append, hn1, hn2]; exact rfl
  clear s0 t hk hL1 hL2 hn1 hn2 hE hN
  have X0 := S0.out.blk0
  have z0 := X0.cell 0
  have z1 := X0.cell 1
  have zf := X0.frozen
  simp only [List.getElem?_cons_zero, List.getElem?_cons_succ] at z0 z1
  clear X0
  have kl : (x : Int) < (y : Int) := by omega
  have kb : decide (x < y) = true := decide_eq_true hlt
  go_enter Tryd.func39, Tryd.ntmps39
  go_wp2
  have S1 : Hid (St F w (w.setCell ⟨p, 1, none⟩ (.bool false)) [BLo p 44 (encCells q false (x : Int) (y : Int)), PTo q h l]) := S0.out.set0 1 (.bool false)
  clear S0 z0 z1 zf
  have hpl := S1.out.size
  generalize w.setCell ⟨p, 1, none⟩ (.bool false) = w1 at S1 hpl ⊢
  have X1 := S1.out.blk0
  have z0 := X1.cell 0
  have z1 := X1.cell 1
  have z2 := X1.cell 2
  have z3 := X1.cell 3
  simp only [List.getElem?_cons_zero, List.getElem?_cons_succ] at z0 z1 z2 z3
  clear X1
  go_quiet (fail)
  try simp only [Exit.then]
  refine ‹∀ (a : Act) (w : World), Code.wp Tryd.prog (Code.cond _ _ _) _ a w → _› _ _ ?_
  try simp [Act.put, List.getElem_toArray]
  have S2 := Lib.hid (S1.out.drewN nq)
  generalize w1.drewN nq = w2 at S2 ⊢
  have X2 := S2.out.blk0
  have u0 := X2.cell 0
  have u1 := X2.cell 1
  have u2 := X2.cell 2
  have u3 := X2.cell 3
  simp only [List.getElem?_cons_zero, List.getElem?_cons_succ] at u0 u1 u2 u3
  clear X2 S1 z0 z1 z2 z3
  go_wp2_with (first
    | (go_at_call 51; (obtain ⟨F4, t4, _, _, go⟩ := S4.out.focus1); (with_reducible refine (updB_c t4 S4.out.blk0 y hy _ rfl L2 H2.out n2 K2.out).mono ?_); rintro e w5 ⟨A5, c5, rfl, s5⟩
       have S5 := Lib.hid ((go _ _ [_] s5).floor3 S4.out.size)
       clear s5 t4 go)
    | (go_at_call 51; (obtain ⟨F3, t3, _, _, go⟩ := S2.out.focus1); (with_reducible refine (updB_c t3 S2.out.blk0 x hx _ rfl L1 H1.out n1 K1.out).mono ?_); rintro e w4 ⟨A4, c4, rfl, s4⟩
       have S4 := Lib.hid ((go _ _ [_] s4).floor2 S2.out.size)
       have X4 := S4.out.blk0
       have v3 := X4.cell 3
       simp only [List.getElem?_cons_zero, List.getElem?_cons_succ] at v3
       clear s4 t3 go X4 u0 u1 u2 u3)
    | (at_builtin
       refine wpList_append_rd rfl (.tmp 27) (.tmp 33) 29 rfl E31 (.slice A4 n1 c4) n1 (L1.map BV) rfl (S5.out.own2) A5 n2 c5 (L2.map BV) rfl (Rd.of_own S5.out.own3) (BV_one _) (by omega) (by unfold maxLen; omega) (S5.out.size) ?_
       intro A6 c6 w6 ho6 hf6 h26
       rw [← List.map_append] at ho6
       have S6 := Lib.hid (S5.out.appended2 ho6 hf6 h26).drop3
       clear ho6 hf6 h26))
  go_ret
  refine ⟨A6, c6, by rw [← HN.out]; rfl, ?_⟩
  have s7 := pe_close (pd := none) S6.out ((Hk.out.set_ x hx).set_ y hy) trivial
  rw [HE.out, HN.out] at s7
  exact s7
set_option maxHeartbeats 4000000 in
theorem eUpds_one {x y : Nat} (t : PEo p h l (some (x, y)) w F) (hlt : ¬ x < y) (L : List UInt8) (hE : L = updB y) (N : Nat) (hN : L.length = N) : Calls Tryd.prog 39 #[.pointer (some ⟨p, 0, none⟩)] w (UpdsP w F p y (pre y l) N L) := by
  obtain ⟨hk, q, a, b, ⟨rfl, rfl, hx, hy⟩, s0⟩ := pe_open (pe_start t)
  have S0 : Hid (St F w w [BLo p 44 (encCells q true (x : Int) (y : Int)), PTo q h l]) := s0
  have Hk := Lib.hid hk
  obtain ⟨L1, hL1⟩ : ∃ L1, updB x = L1 := ⟨_, rfl⟩
  obtain ⟨L2, hL2⟩ : ∃ L2, updB y = L2 := ⟨_, rfl⟩
  obtain ⟨n1, hn1⟩ : ∃ n1, L1.length = n1 := ⟨_, rfl⟩
  obtain ⟨n2, hn2⟩ : ∃ n2, L2.length = n2 := ⟨_, rfl⟩
  have m1 : n1 ≤ 6 := by rw [← hn1, ← hL1]; exact putB_le _ _ _ (by omega)
  have m2 : n2 ≤ 6 := by rw [← hn2, ← hL2]; exact putB_le _ _ _ (by omega)
  have H1 := Lib.hid hL1
  have H2 := Lib.hid hL2
  have K1 := Lib.hid hn1
  have K2 := Lib.hid hn2
  have HE : Hid ([] ++ L2 = L) := by rw [hE, hL2]; exact rfl
  have HN : Hid (0 + n2 = N) := by rw [← hN, ← HE.out, List.nil_append, hn2, Nat.zero_add]; exact rfl
  clear s0 t hk hL1 hL2 hn1 hn2 hE hN
  have X0 := S0.out.blk0
  have z0 := X0.cell 0
  have z1 := X0.cell 1
  have zf := X0.frozen
  simp only [List.getElem?_cons_zero, List.getElem?_cons_succ] at z0 z1
  clear X0
  have kl : ¬ (x : Int) < (y : Int) := by omega
  have kb : decide (x < y) = false := decide_eq_false hlt
  go_enter Tryd.func39, Tryd.ntmps39
  go_wp2
  have S1 : Hid (St F w (w.setCell ⟨p, 1, none⟩ (.bool false)) [BLo p 44 (encCells q false (x : Int) (y : Int)), PTo q h l]) := S0.out.set0 1 (.bool false)
  clear S0 z0 z1 zf
  have hpl := S1.out.size
  generalize w.setCell ⟨p, 1, none⟩ (.bool false) = w1 at S1 hpl ⊢
  have X1 := S1.out.blk0
  have z0 := X1.cell 0
  have z1 := X1.cell 1
  have z2 := X1.cell 2
  have z3 := X1.cell 3
  simp only [List.getElem?_cons_zero, List.getElem?_cons_succ] at z0 z1 z2 z3
  clear X1
  go_quiet (fail)
  try simp only [Exit.then]
  refine ‹∀ (a : Act) (w : World), Code.wp Tryd.prog (Code.cond _ _ _) _ a w → _› _ _ ?_
  try simp [Act.put, List.getElem_toArray]
  have S2 := Lib.hid (S1.out.drewN nq)
  generalize w1.drewN nq = w2 at S2 ⊢
  have X2 := S2.out.blk0
  have u0 := X2.cell 0
  have u1 := X2.cell 1
  have u2 := X2.cell 2
  have u3 := X2.cell 3
  simp only [List.getElem?_cons_zero, List.getElem?_cons_succ] at u0 u1 u2 u3
  clear X2 S1 z0 z1 z2 z3
  have S4 : Hid (St F w w2 [BLo p 44 (encCells q false (x : Int) (y : Int)), PTo q h l, BSo w.heap.size none 0 0 []]) := st_none S2.out
  go_wp2_with (first
    | (go_at_call 51; (obtain ⟨F4, t4, _, _, go⟩ := S4.out.focus1); (with_reducible refine (updB_c t4 S4.out.blk0 y hy _ rfl L2 H2.out n2 K2.out).mono ?_); rintro e w5 ⟨A5, c5, rfl, s5⟩
       have S5 := Lib.hid ((go _ _ [_] s5).floor3 S4.out.size)
       clear s5 t4 go)
    | (at_builtin
       refine wpList_append_rd rfl (.tmp 27) (.tmp 33) 29 rfl E31 (.slice none 0 0) 0 (([] : List UInt8).map BV) rfl (S5.out.own2) A5 n2 c5 (L2.map BV) rfl (Rd.of_own S5.out.own3) (BV_one _) (by omega) (by unfold maxLen; omega) (S5.out.size) ?_
       intro A6 c6 w6 ho6 hf6 h26
       rw [← List.map_append] at ho6
       have S6 := Lib.hid (S5.out.appended2 ho6 hf6 h26).drop3
       clear ho6 hf6 h26))
  go_ret
  refine ⟨A6, c6, by rw [← HN.out, Nat.zero_add]; rfl, ?_⟩
  have s7 := pe_close (pd := none) S6.out (Hk.out.set_ y hy) trivial
  rw [HE.out, HN.out] at s7
  exact s7
theorem eUpds_c {pd : Pend} (t : PEo p h l pd w F) (L : List UInt8) (h' : Nat) (l' : List Fld) (hE : updsE h l pd = (L, h', l')) (N : Nat) (hN : L.length = N) : Calls Tryd.prog 39 #[.pointer (some ⟨p, 0, none⟩)] w (UpdsP w F p h' l' N L) := by
  cases pd with
  | none =>
    rw [updsE] at hE
    injection hE with h1 h2
    injection h2 with h2 h3
    subst h1 h2 h3
    obtain rfl : N = 0 := by simpa using hN.symm
    exact eUpds_none t
  | some z =>
    obtain ⟨x, y⟩ := z
    rw [updsE] at hE
    by_cases hlt : x < y
    · rw [if_pos hlt] at hE
      injection hE with h1 h2
      injection h2 with h2 h3
      subst h2 h3
      exact eUpds_two t hlt L h1.symm N hN
    · rw [if_neg hlt] at hE
      injection hE with h1 h2
      injection h2 with h2 h3
      subst h2 h3
      exact eUpds_one t hlt L h1.symm N hN
end
end Go.Proofs.YtinieljgcenemaaDoor
namespace Go.Proofs.YtinieljgcenemaaDoor
open Go.RowKit Go.Own Go.Tbl Go.Huf Go.Hin
set_option linter.unusedVariables false
set_option maxRecDepth 100000
attribute [local go_sem ↓] Go.wp_at_zero Go.wp_at_succ

/-- the program's decoder: its table, or nothing behind a block that was none -/
def PDo (p lim : Nat) (list : Int) : Option (Nat × List Fld) → Ob
  | some (h, l) => fun w F => (lim ≤ 65536 ∧ Ok statL h l) ∧ ∃ q, star (BLo p 58 (decCells q (lim : Int) list false)) (PTo q h l) w F
  | none => fun w F => lim ≤ 65536 ∧ ∃ q, BLo p 58 (decCells q (lim : Int) list true) w F
theorem framed_PDo (p lim : Nat) (list : Int) (st : Option (Nat × List Fld)) : Framed (PDo p lim list st) := by
  cases st with
  | none =>
    refine ⟨fun w F t i hi => ?_, fun w w' F S t hf hn => ?_⟩
    · obtain ⟨_, q, t⟩ := t
      exact (framed_BLo ..).lt _ _ t i hi
    · obtain ⟨hk, q, t⟩ := t
      exact ⟨hk, q, (framed_BLo ..).fr _ _ _ _ t hf hn⟩
  | some z =>
    obtain ⟨h, l⟩ := z
    refine ⟨fun w F t i hi => ?_, fun w w' F S t hf hn => ?_⟩
    · obtain ⟨_, q, t⟩ := t
      exact (framed_star (framed_BLo ..) (framed_PTo ..)).lt _ _ t i hi
    · obtain ⟨hk, q, t⟩ := t
      exact ⟨hk, q, (framed_star (framed_BLo ..) (framed_PTo ..)).fr _ _ _ _ t hf hn⟩
section
variable {S : Nat → Prop} {w0 w w' : World} {L : List Ob} {p lim h : Nat} {list : Int} {l : List Fld} {F : Nat → Prop}
theorem pd_close {q : Nat} (s : St S w0 w (BLo p 58 (decCells q (lim : Int) list false) :: PTo q h l :: L)) (hk : lim ≤ 65536) (ho : Ok statL h l) : St S w0 w (PDo p lim list (some (h, l)) :: L) := by
  obtain ⟨⟨T, hT, hTS⟩, hf⟩ := s
  obtain ⟨F, G, hO, t, hG, hd, rfl⟩ := (sep_star (framed_BLo ..) (framed_PTo ..)).2 hT
  exact ⟨⟨_, ⟨F, G, framed_PDo .., ⟨⟨hk, ho⟩, q, t⟩, hG, hd, rfl⟩, hTS⟩, hf⟩
theorem pd_close0 {q : Nat} (s : St S w0 w (BLo p 58 (decCells q (lim : Int) list true) :: L)) (hk : lim ≤ 65536) : St S w0 w (PDo p lim list none :: L) :=
  s.as0 (framed_PDo ..) fun F t => ⟨hk, q, t⟩
theorem pd_open (t : PDo p lim list (some (h, l)) w F) : lim ≤ 65536 ∧ Ok statL h l ∧ ∃ q G, Blk w p 58 (decCells q (lim : Int) list false) ∧ PT w q G h l ∧ ¬ G p ∧ (∀ i, F i ↔ i = p ∨ G i) := by
  obtain ⟨⟨h1, h2⟩, q, F1, F2, ⟨hb, rfl⟩, t, hd, rfl⟩ := t
  exact ⟨h1, h2, q, F2, hb, t, fun hg => hd p rfl hg, fun i => Iff.rfl⟩
theorem pd_open0 (t : PDo p lim list none w F) : lim ≤ 65536 ∧ ∃ q, Blk w p 58 (decCells q (lim : Int) list true) ∧ (∀ i, F i ↔ i = p) := by
  obtain ⟨h1, q, hb, rfl⟩ := t
  exact ⟨h1, q, hb, fun i => Iff.rfl⟩
/-- a block, a table and a slice that was made: three things -/
theorem st_three {q : Nat} {G : Nat → Prop} {cs : List Value} {e : TypeId} {sz n : Nat} {v : Value} {vs : List Value} (hb : Blk w' p 58 cs) (t : PT w' q G h l) (ho : w'.ownsRow w.heap.size e sz v n vs) (d1 : ¬ G p) (d2 : ∀ g, v.ownBlock = some g → ¬ G g ∧ g ≠ p) (hF : ∀ i, i = p ∨ G i → F i ∨ w.heap.size ≤ i) (hf : Fr F w w') :
    St F w w' [BLo p 58 cs, PTo q h l, SLo w.heap.size e sz v n vs] := by
  refine ⟨⟨_, ⟨_, _, framed_BLo .., ⟨hb, rfl⟩, ⟨G, _, framed_PTo .., t, ⟨_, _, framed_SLo .., ⟨ho, rfl⟩, rfl, fun _ _ h => h, rfl⟩, ?_, rfl⟩, ?_, rfl⟩, ?_⟩, hf⟩
  · intro i hi hn
    rcases hn with hn | hn
    · exact (d2 i hn).1 hi
    · exact hn
  · intro i hi hn
    obtain rfl : i = p := hi
    rcases hn with hn | hn | hn
    · exact d1 hn
    · exact (d2 _ hn).2 rfl
    · exact hn
  · intro i hi
    rcases hi with hi | hi | hi | hi
    · exact hF i (.inl hi)
    · exact hF i (.inr hi)
    · exact .inr (ho.lt i hi).1
    · exact hi.elim
theorem st_two {cs : List Value} (hb : Blk w' p 58 cs) (hF : F p) (hf : Fr F w w') (e : TypeId) (sz : Nat) :
    St F w w' [BLo p 58 cs, SLo w.heap.size e sz (.slice none 0 0) 0 []] := by
  refine ⟨⟨_, ⟨_, _, framed_BLo .., ⟨hb, rfl⟩, ⟨_, _, framed_SLo .., ⟨World.ownsRow_nil _ _ _ _, rfl⟩, rfl, fun _ _ h => h, rfl⟩, ?_, rfl⟩, ?_⟩, hf⟩
  · intro i hi hn
    rcases hn with hn | hn
    · simp [Value.ownBlock] at hn
    · exact hn
  · intro i hi
    rcases hi with hi | hi | hi
    · obtain rfl : i = p := hi
      exact .inl hF
    · simp [Value.ownBlock] at hi
    · exact hi.elim
end
/-- what Decode answers, its error, what is left of the decoder -/
def decR (lim : Nat) (list : Int) : Option (Nat × List Fld) → List UInt8 → List Fld × Int × Option (Nat × List Fld)
  | none, _ => ([], 7, none)
  | some (h, l), xs =>
    match blockD statL lim h l xs with
    | none => ([], 3, none)
    | some (fs, h', l') => if list < (szs fs : Int) then ([], 4, some (h', l')) else (fs, 0, some (h', l'))
/-- what a call leaves that decodes -/
def DecP (w : World) (F : Nat → Prop) (p lim : Nat) (list : Int) (R : List Fld × Int × Option (Nat × List Fld)) (e : Ending) (w' : World) : Prop :=
  ∃ A n c, e = .returned (.tuple #[.slice A n c, .int .i64 R.2.1]) ∧ R.1.length = n ∧ St F w w' [PDo p lim list R.2.2, SLo w.heap.size 38 3 (.slice A n c) n (fcellsL R.1)]
section
variable {w : World} {F : Nat → Prop} {p lim h : Nat} {list : Int} {l : List Fld} {A0 : Option Addr} {n0 c0 : Nat} {xs : List UInt8}
theorem left_of (hr : Rd w 1 A0 n0 (xs.map BV)) (hnc : n0 ≤ c0) (hcm : c0 ≤ 9223372036854775807) : ∃ A1, Left w A1 A0 n0 c0 xs ∧ (∀ a, A1 = some a → A0 = some a ∧ 0 < n0 ∧ a.block < w.heap.size) := by
  rcases Nat.eq_zero_or_pos n0 with h0 | h0
  · exact ⟨none, ⟨hr, hnc, hcm, fun a _ hn => by omega⟩, fun a ha => by cases ha⟩
  · refine ⟨A0, ⟨hr, hnc, hcm, fun a ha _ => ⟨a, ha, rfl⟩⟩, fun a ha => ⟨ha, h0, ?_⟩⟩
    obtain ⟨b, o, rfl, hc⟩ := hr.2 h0
    cases ha
    have hl : 0 < (xs.map BV).length := by rw [hr.1]; omega
    exact World.block_lt_of_cell? w _ (hc 0 _ (List.getElem?_eq_getElem hl))
theorem dBlock_c {q : Nat} {G : Nat → Prop} {bk : Bool} (t : PT w q G h l) (b : Blk w p 58 (decCells q (lim : Int) list bk)) (hr : Rd w 1 A0 n0 (xs.map BV)) (hnc : n0 ≤ c0) (hcm : c0 ≤ 9223372036854775807) (hA : ∀ a, A0 = some a → 0 < n0 → ¬ G a.block) (hGp : ¬ G p) (hC : Cnt w) (hcG : ¬ G 0) (hlen : n0 ≤ 268435456) (hlim : lim ≤ 65536) (hOk : Ok statL h l) (R : Option (List Fld × Nat × List Fld)) (hR : blockD statL lim h l xs = R) :
    Calls Tryd.prog 46 #[.pointer (some ⟨p, 0, none⟩), .slice A0 n0 c0] w (BlockR w q G R) := by
  obtain ⟨A1, h1, h2⟩ := left_of hr hnc hcm
  exact dBlock_at t b A1 h1 (fun a ha => (h2 a ha).2.2) (fun a ha => hA a (h2 a ha).1 (h2 a ha).2.1) hGp hC hcG (by rw [h1.len]; exact hlen) hlim hOk R hR
set_option maxHeartbeats 4000000 in
theorem dDecode_no (t : PDo p lim list none w F) : Calls Tryd.prog 29 #[.pointer (some ⟨p, 0, none⟩), .slice A0 n0 c0] w (DecP w F p lim list ([], 7, none)) := by
  obtain ⟨hlim, q, b, hF⟩ := pd_open0 t
  have z3 : w.cell? ⟨p, 3, none⟩ = some (.bool true) := b.cell 3
  have B := Lib.hid b
  have HF := Lib.hid hF
  clear t b hF
  go_enter Tryd.func29, Tryd.ntmps29
  go_wp2
  go_ret2
  exact ⟨none, 0, 0, rfl, rfl, pd_close0 (st_two B.out ((HF.out p).2 rfl) (Fr.refl _ _) _ _) hlim⟩
set_option maxHeartbeats 4000000 in
theorem dDecode_form (t : PDo p lim list (some (h, l)) w F) (hr : Rd w 1 A0 n0 (xs.map BV)) (hnc : n0 ≤ c0) (hcm : c0 ≤ 9223372036854775807) (hA : ∀ a, A0 = some a → 0 < n0 → ¬ F a.block) (hC : Cnt w) (hFC : ¬ F 0) (hlen : n0 ≤ 268435456) (hR : blockD statL lim h l xs = none) :
    Calls Tryd.prog 29 #[.pointer (some ⟨p, 0, none⟩), .slice A0 n0 c0] w (DecP w F p lim list ([], 3, none)) := by
  obtain ⟨hlim, hOk, q, G, b, tt, hGp, hF⟩ := pd_open t
  have z3 : w.cell? ⟨p, 3, none⟩ = some (.bool false) := b.cell 3
  have B := Lib.hid b
  have T := Lib.hid tt
  have HF := Lib.hid hF
  have Hr := Lib.hid hr
  have HC := Lib.hid hC
  have HR := Lib.hid hR
  have HA : Hid (∀ a, A0 = some a → 0 < n0 → ¬ G a.block) := fun a ha hn hg => hA a ha hn ((hF _).2 (.inr hg))
  have hcG : ¬ G 0 := fun hg => hFC ((hF _).2 (.inr hg))
  have HO := Lib.hid hOk
  clear t b tt hF hr hC hR hA hOk
  go_enter Tryd.func29, Tryd.ntmps29
  go_wp2_with (first
    | (go_at_call 46; (with_reducible refine (dBlock_c T.out B.out Hr.out hnc hcm HA.out hGp HC.out hcG hlen hlim HO.out _ HR.out).mono ?_); rintro e w2 ⟨v, rfl, f2⟩
       have b2 := B.out.fr f2 hGp
       have u3 := b2.cell 3
       have uf := b2.frozen
       have B2 := Lib.hid b2
       have F2 := Lib.hid f2
       simp only [List.getElem?_cons_zero, List.getElem?_cons_succ] at u3
       clear f2 b2))
  go_ret2
  refine ⟨none, 0, 0, rfl, rfl, pd_close0 (q := q) (st_two ?_ ((HF.out p).2 (.inl rfl)) ?_ _ _) hlim⟩
  · exact B2.out.set_ 3 (.bool true)
  · exact (F2.out.mono (fun i _ hg => (HF.out i).2 (.inr hg))).setCell (p := ⟨p, 3, none⟩) (.inl ((HF.out p).2 (.inl rfl))) _
end
end Go.Proofs.YtinieljgcenemaaDoor
namespace Go.Proofs.YtinieljgcenemaaDoor
open Go.RowKit Go.Own Go.Tbl Go.Huf Go.Hin
set_option linter.unusedVariables false
set_option maxRecDepth 100000
attribute [local go_sem ↓] Go.wp_at_zero Go.wp_at_succ

section
variable {w : World} {F : Nat → Prop} {p lim h : Nat} {list : Int} {l : List Fld} {A0 : Option Addr} {n0 c0 : Nat} {xs : List UInt8}
set_option maxHeartbeats 4000000 in
theorem dDecode_ok (t : PDo p lim list (some (h, l)) w F) (hr : Rd w 1 A0 n0 (xs.map BV)) (hnc : n0 ≤ c0) (hcm : c0 ≤ 9223372036854775807) (hA : ∀ a, A0 = some a → 0 < n0 → ¬ F a.block) (hC : Cnt w) (hFC : ¬ F 0) (hlen : n0 ≤ 268435456) (fs : List Fld) (h' : Nat) (l' : List Fld) (hR : blockD statL lim h l xs = some (fs, h', l')) (s : Nat) (hs : szs fs = s) (hsz : s ≤ 140737488355328) (hc : ¬ list < (s : Int)) :
    Calls Tryd.prog 29 #[.pointer (some ⟨p, 0, none⟩), .slice A0 n0 c0] w (DecP w F p lim list (fs, 0, some (h', l'))) := by
  obtain ⟨hlim, hOk, q, G, b, tt, hGp, hF⟩ := pd_open t
  have z3 : w.cell? ⟨p, 3, none⟩ = some (.bool false) := b.cell 3
  have B := Lib.hid b
  have T := Lib.hid tt
  have HF := Lib.hid hF
  have Hr := Lib.hid hr
  have HC := Lib.hid hC
  have HR := Lib.hid hR
  have hsz2 : szs fs ≤ 140737488355328 := hs ▸ hsz
  have Hs := Lib.hid hs
  have Hsz := Lib.hid hsz2
  have HA : Hid (∀ a, A0 = some a → 0 < n0 → ¬ G a.block) := fun a ha hn hg => hA a ha hn ((hF _).2 (.inr hg))
  have hcG : ¬ G 0 := fun hg => hFC ((hF _).2 (.inr hg))
  have hpl : p < w.heap.size := Blk.lt b
  have HO := Lib.hid hOk
  have kl : ¬ list < (s : Int) := hc
  have kb : decide (list < (s : Int)) = false := decide_eq_false hc
  clear t b tt hF hr hC hR hA hOk hs hsz2
  go_enter Tryd.func29, Tryd.ntmps29
  go_wp2_with (first
    | (go_at_call 46; (with_reducible refine (dBlock_c T.out B.out Hr.out hnc hcm HA.out hGp HC.out hcG hlen hlim HO.out _ HR.out).mono ?_); rintro e w2 ⟨A, n, c, G', rfl, t2, hok2, hG', f2, hfs, ho2, hd2⟩
       have b2 := B.out.fr f2 hGp
       have u2 := b2.cell 2
       have u2' : w2.drew.cell? ⟨p, 2, none⟩ = some (.int .i64 list) := u2
       have B2 := Lib.hid b2
       have F2 := Lib.hid f2
       have T2 := Lib.hid t2
       have O2 := Lib.hid ho2
       have K2 := Lib.hid hok2
       have HG2 := Lib.hid hG'
       have HD2 := Lib.hid hd2
       have HL2 := Lib.hid hfs
       have R2 := Lib.hid (Rd.of_own ho2)
       have R2d : Hid (Rd w2.drew 3 A n (fcellsL fs)) := (Rd.of_own ho2).below (below_drewN (Below.refl _ _) 1)
       simp only [List.getElem?_cons_zero, List.getElem?_cons_succ] at u2 u2'
       clear f2 b2 t2 ho2 hok2 hG' hd2 hfs))
  go_region_with
    (first
    | (go_at_call 47; (with_reducible refine (dSizes_c R2d.out HL2.out Hsz.out s Hs.out).mono ?_); rintro e w5 ⟨rfl, hb⟩
       have f5 : Fr (fun _ => False) w2 w5 := ((Fr.refl _ _).drew).trans (Fr.of_below (S := fun _ => False) hb (fun i h1 h2 => by omega)) (fun _ _ h => h)
       have F5 := Lib.hid (F2.out.trans f5 (fun _ _ h => h.elim))
       have T5 := Lib.hid (T2.out.fr f5 (fun i hi h => h))
       have O5 := Lib.hid (own_fr O2.out f5 (fun g hg h => h))
       have b5 := B2.out.fr f5 (fun h => h)
       have v2 := b5.cell 2
       have B5 := Lib.hid b5
       simp only [List.getElem?_cons_zero, List.getElem?_cons_succ] at v2
       clear f5 hb b5))
  all_goals
    go_wp2
    go_ret2
    have hd : ¬ G' p := fun hg => (HG2.out p hg).elim hGp (fun hh => by omega)
    have hFw : ∀ i, i = p ∨ G' i → F i ∨ w.heap.size ≤ i := fun i hi => hi.elim (fun e => .inl ((HF.out i).2 (.inl e))) (fun hg => (HG2.out i hg).imp (fun hh => (HF.out i).2 (.inr hh)) id)
    have fF := F5.out.mono (S' := F) (fun i _ hg => (HF.out i).2 (.inr hg))
    exact ⟨A, n, c, rfl, HL2.out, pd_close (st_three B5.out T5.out O5.out hd (fun g hg => ⟨HD2.out g hg, fun e => by have := (O5.out.lt g hg).1; omega⟩) hFw fF) hlim K2.out⟩
set_option maxHeartbeats 4000000 in
theorem dDecode_long (t : PDo p lim list (some (h, l)) w F) (hr : Rd w 1 A0 n0 (xs.map BV)) (hnc : n0 ≤ c0) (hcm : c0 ≤ 9223372036854775807) (hA : ∀ a, A0 = some a → 0 < n0 → ¬ F a.block) (hC : Cnt w) (hFC : ¬ F 0) (hlen : n0 ≤ 268435456) (fs : List Fld) (h' : Nat) (l' : List Fld) (hR : blockD statL lim h l xs = some (fs, h', l')) (s : Nat) (hs : szs fs = s) (hsz : s ≤ 140737488355328) (hc : list < (s : Int)) :
    Calls Tryd.prog 29 #[.pointer (some ⟨p, 0, none⟩), .slice A0 n0 c0] w (DecP w F p lim list ([], 4, some (h', l'))) := by
  obtain ⟨hlim, hOk, q, G, b, tt, hGp, hF⟩ := pd_open t
  have z3 : w.cell? ⟨p, 3, none⟩ = some (.bool false) := b.cell 3
  have B := Lib.hid b
  have T := Lib.hid tt
  have HF := Lib.hid hF
  have Hr := Lib.hid hr
  have HC := Lib.hid hC
  have HR := Lib.hid hR
  have hsz2 : szs fs ≤ 140737488355328 := hs ▸ hsz
  have Hs := Lib.hid hs
  have Hsz := Lib.hid hsz2
  have HA : Hid (∀ a, A0 = some a → 0 < n0 → ¬ G a.block) := fun a ha hn hg => hA a ha hn ((hF _).2 (.inr hg))
  have hcG : ¬ G 0 := fun hg => hFC ((hF _).2 (.inr hg))
  have hpl : p < w.heap.size := Blk.lt b
  have HO := Lib.hid hOk
  have kl : list < (s : Int) := hc
  have kb : decide (list < (s : Int)) = true := decide_eq_true hc
  clear t b tt hF hr hC hR hA hOk hs hsz2
  go_enter Tryd.func29, Tryd.ntmps29
  go_wp2_with (first
    | (go_at_call 46; (with_reducible refine (dBlock_c T.out B.out Hr.out hnc hcm HA.out hGp HC.out hcG hlen hlim HO.out _ HR.out).mono ?_); rintro e w2 ⟨A, n, c, G', rfl, t2, hok2, hG', f2, hfs, ho2, hd2⟩
       have b2 := B.out.fr f2 hGp
       have u2 := b2.cell 2
       have u2' : w2.drew.cell? ⟨p, 2, none⟩ = some (.int .i64 list) := u2
       have B2 := Lib.hid b2
       have F2 := Lib.hid f2
       have T2 := Lib.hid t2
       have O2 := Lib.hid ho2
       have K2 := Lib.hid hok2
       have HG2 := Lib.hid hG'
       have HD2 := Lib.hid hd2
       have HL2 := Lib.hid hfs
       have R2 := Lib.hid (Rd.of_own ho2)
       have R2d : Hid (Rd w2.drew 3 A n (fcellsL fs)) := (Rd.of_own ho2).below (below_drewN (Below.refl _ _) 1)
       simp only [List.getElem?_cons_zero, List.getElem?_cons_succ] at u2 u2'
       clear f2 b2 t2 ho2 hok2 hG' hd2 hfs))
  go_region_with
    (first
    | (go_at_call 47; (with_reducible refine (dSizes_c R2d.out HL2.out Hsz.out s Hs.out).mono ?_); rintro e w5 ⟨rfl, hb⟩
       have f5 : Fr (fun _ => False) w2 w5 := ((Fr.refl _ _).drew).trans (Fr.of_below (S := fun _ => False) hb (fun i h1 h2 => by omega)) (fun _ _ h => h)
       have F5 := Lib.hid (F2.out.trans f5 (fun _ _ h => h.elim))
       have T5 := Lib.hid (T2.out.fr f5 (fun i hi h => h))
       have O5 := Lib.hid (own_fr O2.out f5 (fun g hg h => h))
       have b5 := B2.out.fr f5 (fun h => h)
       have v2 := b5.cell 2
       have B5 := Lib.hid b5
       simp only [List.getElem?_cons_zero, List.getElem?_cons_succ] at v2
       clear f5 hb b5))
  all_goals
    go_wp2
    go_ret2
    have hd : ¬ G' p := fun hg => (HG2.out p hg).elim hGp (fun hh => by omega)
    have hFw : ∀ i, i = p ∨ G' i → F i ∨ w.heap.size ≤ i := fun i hi => hi.elim (fun e => .inl ((HF.out i).2 (.inl e))) (fun hg => (HG2.out i hg).imp (fun hh => (HF.out i).2 (.inr hh)) id)
    have fF := F5.out.mono (S' := F) (fun i _ hg => (HF.out i).2 (.inr hg))
    exact ⟨none, 0, 0, rfl, rfl, pd_close (st_three B5.out T5.out (World.ownsRow_nil _ _ _ _) hd (fun g hg => by simp [Value.ownBlock] at hg) hFw fF) hlim K2.out⟩
/-- Decode: in the words of decR -/
theorem dDecode_c {st : Option (Nat × List Fld)} (t : PDo p lim list st w F) (hr : Rd w 1 A0 n0 (xs.map BV)) (hnc : n0 ≤ c0) (hcm : c0 ≤ 9223372036854775807) (hA : ∀ a, A0 = some a → 0 < n0 → ¬ F a.block) (hC : Cnt w) (hFC : ¬ F 0) (hlen : n0 ≤ 1048576) (R : List Fld × Int × Option (Nat × List Fld)) (hR : decR lim list st xs = R) :
    Calls Tryd.prog 29 #[.pointer (some ⟨p, 0, none⟩), .slice A0 n0 c0] w (DecP w F p lim list R) := by
  have hxl : xs.length = n0 := by simpa using hr.1
  subst hR
  cases st with
  | none => exact dDecode_no t
  | some z =>
    obtain ⟨h, l⟩ := z
    cases hB : blockD statL lim h l xs with
    | none =>
      simp only [decR, hB]
      exact dDecode_form t hr hnc hcm hA hC hFC (by omega) hB
    | some y =>
      obtain ⟨fs, h', l'⟩ := y
      have hlim := (pd_open t).1
      have hOk := (pd_open t).2.1
      obtain ⟨_, _, _, hz⟩ := blockD_ok (N := 1048576) statL_sz hOk hlim (by omega) hB
      have hz2 : szs fs ≤ 140737488355328 := by omega
      by_cases hc : list < (szs fs : Int)
      · simp only [decR, hB, if_pos hc]
        exact dDecode_long t hr hnc hcm hA hC hFC (by omega) fs h' l' hB _ rfl hz2 hc
      · simp only [decR, hB, if_neg hc]
        exact dDecode_ok t hr hnc hcm hA hC hFC (by omega) fs h' l' hB _ rfl hz2 hc
theorem dSize_c (t : PDo p lim list (some (h, l)) w F) (s : Nat) (hs : szs l = s) : Calls Tryd.prog 21 #[.pointer (some ⟨p, 0, none⟩)] w fun e w' => e = .returned (.int .i64 (s : Int)) ∧ Below w.heap.size w w' := by
  obtain ⟨_, _, q, G, b, tt, _, _⟩ := pd_open t
  exact eSizeT b tt s hs
theorem dMax_c (t : PDo p lim list (some (h, l)) w F) : Calls Tryd.prog 23 #[.pointer (some ⟨p, 0, none⟩)] w fun e w' => e = .returned (.int .i64 (h : Int)) ∧ Below w.heap.size w w' := by
  obtain ⟨_, _, q, G, b, tt, _, _⟩ := pd_open t
  exact eMaxT b tt
set_option maxHeartbeats 1000000 in
theorem dNew_c (x : Int) (hx : i64 x) (list : Int) (h : Nat) (hh : clampI x = h) (w : World) : Calls Tryd.prog 25 #[.int .i64 x, .int .i64 list] w fun e w' => ∃ p, e = .returned (.pointer (some ⟨p, 0, none⟩)) ∧ St (fun _ => False) w w' [PDo p h list (some (h, []))] := by
  have hh2 : h ≤ 65536 := hh ▸ clampI_le x
  subst hh
  have Hx := Lib.hid hx
  clear hx
  go_enter Tryd.func25, Tryd.ntmps25
  go_wp2_with (first
    | (go_at_call 35; (with_reducible refine (pNew_c x Hx.out _).mono ?_); rintro e w2 ⟨q, F, rfl, t, hF, hb⟩
       have S2 := Lib.hid (St.made (framed_PTo ..) t hF hb)
       clear t hF hb)
    | (go_at_call 45; (obtain ⟨F2, t2, _⟩ := S2.out.focus0); (with_reducible refine (pMax_i t2).mono ?_); rintro e w3 ⟨rfl, hb⟩
       have S3 := Lib.hid (S2.out.next hb)
       clear hb t2))
  go_ret
  refine ⟨_, rfl, ?_⟩
  have s := (S3.out.block 58 (decCells q ((clampI x : Nat) : Int) list false)).perm2
  exact pd_close s hh2 (ok_new _ hh2)
set_option maxHeartbeats 1000000 in
theorem dSetMaxB {q : Nat} {bk : Bool} (b : Blk w p 58 (decCells q (lim : Int) list bk)) (x : Int) (hx : i64 x) (n : Nat) (hn : clampI x = n) : Calls Tryd.prog 27 #[.pointer (some ⟨p, 0, none⟩), .int .i64 x] w fun e w' => e = .returned (.tuple #[]) ∧ Blk w' p 58 (decCells q (n : Int) list bk) ∧ Fr (· = p) w w' := by
  have B := Lib.hid b
  have Hx := Lib.hid hx
  have Hn := Lib.hid hn
  have hpl : p < w.heap.size := Blk.lt b
  clear b hx hn
  go_enter Tryd.func27, Tryd.ntmps27
  go_wp2_with (first
    | (go_at_call 37; (with_reducible refine (eCnt_c x Hx.out n Hn.out _).mono ?_); rintro e w2 ⟨rfl, hb⟩
       have b2 := B.out.below hb hpl
       have u1 := b2.cell 1
       have uf := b2.frozen
       have B2 := Lib.hid b2
       have F2 : Hid (Fr (· = p) w w2) := Fr.of_below hb (fun i h1 h2 => by omega)
       simp only [List.getElem?_cons_zero, List.getElem?_cons_succ] at u1
       clear hb b2))
  go_end0
  exact ⟨rfl, B2.out.set_ 1 (.int .i64 (n : Int)), F2.out.setCell (p := ⟨p, 1, none⟩) (.inl rfl) _⟩
theorem dSetMax_c {st : Option (Nat × List Fld)} (t : PDo p lim list st w F) (x : Int) (hx : i64 x) (n : Nat) (hn : clampI x = n) : Calls Tryd.prog 27 #[.pointer (some ⟨p, 0, none⟩), .int .i64 x] w fun e w' => e = .returned (.tuple #[]) ∧ St F w w' [PDo p n list st] := by
  have hn2 : n ≤ 65536 := hn ▸ clampI_le x
  cases st with
  | none =>
    obtain ⟨hlim, q, b, rfl⟩ := t
    refine (dSetMaxB b x hx n hn).mono ?_
    rintro e w' ⟨rfl, b', f⟩
    exact ⟨rfl, St.changed (framed_PDo ..) ⟨hn2, q, b', rfl⟩ (fun i hi => .inl hi) f⟩
  | some z =>
    obtain ⟨h, l⟩ := z
    obtain ⟨⟨hlim, hOk⟩, q, F1, F2, ⟨b, rfl⟩, tt, hd, rfl⟩ := t
    refine (dSetMaxB b x hx n hn).mono ?_
    rintro e w' ⟨rfl, b', f⟩
    have t2 := tt.fr f (fun i hi e => hd i e hi)
    exact ⟨rfl, St.changed (framed_PDo ..) ⟨⟨hn2, hOk⟩, q, _, F2, ⟨b', rfl⟩, t2, hd, rfl⟩ (fun i hi => .inl hi) (f.mono (fun i _ h => .inl h))⟩
end
end Go.Proofs.YtinieljgcenemaaDoor
namespace Go.Proofs.YtinieljgcenemaaDoor
open Go.RowKit Go.Own Go.Tbl Go.Huf Go.Hin
set_option linter.unusedVariables false
set_option maxRecDepth 100000
attribute [local go_sem ↓] Go.wp_at_zero Go.wp_at_succ

/-- what a call leaves that writes a block -/
def EncP (w : World) (F : Nat → Prop) (p h : Nat) (l : List Fld) (N : Nat) (L : List UInt8) (e : Ending) (w' : World) : Prop := ∃ A c, e = .returned (.slice A N c) ∧ St F w w' [PEo p h l none, BSo w.heap.size A c N L]
theorem manyE_cons (st : List Fld) (h : Nat) (l : List Fld) (f : Fld) (r : List Fld) : manyE st h l (f :: r) = ((oneE st h l f).1 ++ (manyE st h (oneE st h l f).2 r).1, (manyE st h (oneE st h l f).2 r).2) := rfl
theorem fld_eta (f : Fld) : (⟨f.n, f.v, f.nv⟩ : Fld) = f := rfl
section
variable {w : World} {p h : Nat} {l : List Fld} {F : Nat → Prop} {pd : Pend}
set_option maxHeartbeats 4000000 in
theorem eEncode_c (t : PEo p h l pd w F) (hC : Cnt w) (hFC : ¬ F 0) {A0 : Option Addr} {n0 c0 : Nat} {fs : List Fld} (hr : Rd w 3 A0 n0 (fcellsL fs)) (hlen : fs.length = n0) (hn0 : n0 ≤ 1073741824) (hA : ∀ a, A0 = some a → ¬ F a.block) (hfs : ∀ f ∈ fs, f.n.size ≤ 16777216 ∧ f.v.size ≤ 16777216)
    (L : List UInt8) (h' : Nat) (l' : List Fld) (hE : blockE statL h l pd fs = (L, h', l')) (N : Nat) (hN : L.length = N) (hN2 : N ≤ 1073741824) :
    Calls Tryd.prog 18 #[.pointer (some ⟨p, 0, none⟩), .slice A0 n0 c0] w (EncP w F p h' l' N L) := by
  obtain ⟨⟨L1, h1, l1⟩, hU⟩ : ∃ z, updsE h l pd = z := ⟨_, rfl⟩
  obtain ⟨n1, hn1⟩ : ∃ n1, L1.length = n1 := ⟨_, rfl⟩
  rw [blockE, hU] at hE
  injection hE with e1 e2
  injection e2 with e2 e3
  simp only at e1 e2 e3
  subst e2
  have HU := Lib.hid hU
  have Hn1 := Lib.hid hn1
  have T := Lib.hid t
  have HC := Lib.hid hC
  have Hr := Lib.hid hr
  have Hlen := Lib.hid hlen
  have HA := Lib.hid hA
  have Hfs := Lib.hid hfs
  have E1 := Lib.hid e1
  have E3 := Lib.hid e3
  have HN := Lib.hid hN
  clear hU hn1 t hC hr hlen hA hfs e1 e3 hN
  go_enter Tryd.func18, Tryd.ntmps18
  go_wp2_with (first
    | (go_at_call 39; (with_reducible refine (eUpds_c T.out L1 h1 l1 HU.out n1 Hn1.out).mono ?_); rintro e w2 ⟨A2, c2, rfl, s2⟩; have S2 := Lib.hid s2; clear s2))
  go_loopg [12, 5] n0 (fun gh i b w' => ∃ (k nk : Nat) (Lk : List UInt8) (lk : List Fld) (A : Option Addr) (c : Nat), gh + k = n0 ∧ i = .int .i64 (k : Int) ∧ b = .slice A nk c ∧ Lk.length = nk ∧ Lk ++ (manyE statL h1 lk (fs.drop k)).1 = L ∧ (manyE statL h1 lk (fs.drop k)).2 = l' ∧ St F w w' [PEo p h1 lk none, BSo w.heap.size A c nk Lk])
  case atStart => exact ⟨0, n1, L1, l1, A2, c2, by omega, rfl, rfl, Hn1.out, E1.out, E3.out, S2.out⟩
  case round =>
    obtain ⟨k, nk, Lk, lk, A, c, hk, rfl, rfl, hnk, e1, e3, s2⟩ := hrel
    cases gk with
    | succ g1 =>
      have hkn : k < n0 := by omega
      obtain ⟨f, hf⟩ : ∃ f, fs[k]? = some f := ⟨_, List.getElem?_eq_getElem (by rw [Hlen.out]; exact hkn)⟩
      have hdr : fs.drop k = f :: fs.drop (k + 1) := by
        obtain ⟨hlt, he⟩ := List.getElem?_eq_some_iff.1 hf
        rw [List.drop_eq_getElem_cons hlt, he]
      rw [hdr, manyE_cons] at e1 e3
      obtain ⟨⟨Lf, lf⟩, ho⟩ : ∃ z, oneE statL h1 lk f = z := ⟨_, rfl⟩
      rw [ho] at e1 e3
      simp only at e1 e3
      obtain ⟨nf, hnf⟩ : ∃ nf, Lf.length = nf := ⟨_, rfl⟩
      have hsum : nk + nf ≤ N := by
        have h1 := HN.out
        rw [← e1] at h1
        simp only [List.length_append] at h1
        omega
      obtain ⟨hok, q, x, y, hp, s3⟩ := pe_open s2
      have hokf : Ok statL h1 lf := by have := hok.one f; rw [ho] at this; exact this
      obtain ⟨hf1, hf2⟩ := Hfs.out f (List.mem_of_getElem? hf)
      obtain ⟨bb, oo, hA0, d0, d1, d2⟩ := rd_fld (s2.rd Hr.out HA.out) hf
      have hA0' := Lib.hid hA0
      have hbl := World.block_lt_of_cell? _ _ d0
      have S3 := Lib.hid s3
      have Ho := Lib.hid ho
      have Hnf := Lib.hid hnf
      have Hnk := Lib.hid hnk
      have Hok := Lib.hid hok
      have Hokf := Lib.hid hokf
      have Hp := Lib.hid hp
      have G1 : Hid (Lk ++ Lf ++ (manyE statL h1 lf (fs.drop (k + 1))).1 = L) := by rw [List.append_assoc]; exact e1
      have G3 := Lib.hid e3
      have k1 : (k : Int) < (n0 : Int) := by omega
      cases hA0
      clear s2 s3 ho hnf hnk hok hokf hp e1 e3 hf hdr S2
      have S4 : Hid (St F w (wr.alloc (.cells #[.string f.n, .string f.v, .bool f.nv] 38)) [BLo p 44 (encCells q false x y), PTo q h1 lk, BSo w.heap.size A c nk Lk]) := S3.out.alloc _
      have X4 := Lib.hid (Blk.new wr 38 [.string f.n, .string f.v, .bool f.nv])
      have C4 : Hid (Cnt (wr.alloc (.cells #[.string f.n, .string f.v, .bool f.nv] 38))) := HC.out.fr S4.out.fr hFC
      have hcp := HC.out.pos
      obtain ⟨n, v, nv⟩ := f
      go_wp2_with (first
        | (go_at_call 40; (obtain ⟨F4, t4, _, hF4, go⟩ := S4.out.focus1); (have hFC4 : ¬ F4 0 := fun h => (hF4 _ h).elim hFC (fun h => by omega)); (with_reducible refine (eField_c t4 S4.out.blk0 C4.out hFC4 n v nv hf1 hf2 Hok.out Lf lf Ho.out nf Hnf.out).mono ?_); rintro e w5 ⟨A5, c5, rfl, s5⟩
           have S5 := Lib.hid (pe_close (pd := none) (go _ _ [_] s5) Hokf.out trivial)
           clear s5 t4 hF4 go hFC4)
        | (at_builtin
           refine wpList_append_rd rfl (.tmp 16) (.tmp 19) 29 rfl E31 (.slice A nk c) nk (Lk.map BV) rfl S5.out.own1 A5 nf c5 (Lf.map BV) rfl (Rd.of_own S5.out.own2) (BV_one _) (by omega) (by unfold maxLen; omega) (S5.out.size) ?_
           intro A6 c6 w6 ho6 hf6 h26
           rw [← List.map_append] at ho6
           have S6 := Lib.hid (S5.out.appended1 ho6 hf6 h26).drop2
           clear ho6 hf6 h26))
      go_roundg g1
      case measure => omega
      case rel => exact ⟨k + 1, nk + nf, Lk ++ Lf, lf, A6, c6, by omega, by go_num, rfl, by rw [List.length_append, Hnk.out, Hnf.out], G1.out, G3.out, S6.out⟩
    | zero =>
      obtain rfl : k = n0 := by omega
      rw [List.drop_eq_nil_of_le (by rw [Hlen.out]; exact Nat.le_refl _)] at e1 e3
      simp only [manyE, List.append_nil] at e1 e3
      subst e1
      subst e3
      have S3 := Lib.hid s2
      have H3 := Lib.hid (hnk.symm.trans HN.out)
      clear s2 hnk
      go_wp2
      go_ret
      exact ⟨A, c, by rw [← H3.out]; rfl, by rw [← H3.out]; exact S3.out⟩
end
end Go.Proofs.YtinieljgcenemaaDoor
namespace Go.Proofs.YtinieljgcenemaaDoor
open Go.RowKit Go.Own Go.Tbl Go.Huf Go.Hin
set_option linter.unusedVariables false
set_option maxRecDepth 100000
attribute [local go_sem ↓] Go.wp_at_zero Go.wp_at_succ

/-- four hundred octets of each text at most; twenty fields -/
def small5 (f : Fld) : Fld := ⟨f.n.extract 0 (min f.n.size 400), f.v.extract 0 (min f.v.size 400), f.nv⟩
def smallL (fs : List Fld) : List Fld := (fs.take 20).map small5
theorem small5_sz (f : Fld) : (small5 f).n.size ≤ 400 ∧ (small5 f).v.size ≤ 400 := by
  constructor
  · show (f.n.extract 0 (min f.n.size 400)).size ≤ _
    rw [ByteArray.size_extract]; omega
  · show (f.v.extract 0 (min f.v.size 400)).size ≤ _
    rw [ByteArray.size_extract]; omega
theorem smallL_sz (fs : List Fld) : ∀ f ∈ smallL fs, f.n.size ≤ 400 ∧ f.v.size ≤ 400 := by
  intro f hf
  obtain ⟨g, _, rfl⟩ := List.mem_map.1 hf
  exact small5_sz g
theorem smallL_len (fs : List Fld) : (smallL fs).length ≤ 20 := by
  rw [smallL, List.length_map, List.length_take]
  omega
set_option maxHeartbeats 4000000 in
theorem small5_c {w : World} {A : Option Addr} {n c : Nat} {fs : List Fld} (hr : Rd w 3 A n (fcellsL fs)) (hlen : fs.length = n) (hn : n ≤ 9223372036854775807) (hok : ∀ f ∈ fs, fok f) :
    Calls Tryd.prog 17 #[.slice A n c] w fun e w' => ∃ A' m c', e = .returned (.slice A' m c') ∧ (smallL fs).length = m ∧ St (fun _ => False) w w' [SLo w.heap.size 38 3 (.slice A' m c') m (fcellsL (smallL fs))] := by
  have Hr := Lib.hid hr
  have Hl := Lib.hid hlen
  have Hok := Lib.hid hok
  clear hr hlen hok
  go_enter Tryd.func17, Tryd.ntmps17
  go_wp2
  go_loopg [4, 3] (min n 20) (fun gh i u w' => ∃ (k : Nat) (A' : Option Addr) (c' : Nat), gh + k = min n 20 ∧ i = .int .i64 (k : Int) ∧ u = .slice A' k c' ∧ St (fun _ => False) w w' [SLo w.heap.size 38 3 (.slice A' k c') k (fcellsL ((fs.take k).map small5))])
  case atStart =>
    refine ⟨0, none, 0, by omega, rfl, rfl, ?_⟩
    exact (St.nil _ _).add (w' := w) (M := [SLo w.heap.size 38 3 (.slice none 0 0) 0 []]) ⟨⟨_, ⟨_, _, framed_SLo .., ⟨World.ownsRow_nil _ _ _ _, rfl⟩, rfl, fun _ _ h => h, rfl⟩, fun i hi => by rcases hi with hi | hi; simp [Value.ownBlock] at hi; exact hi.elim⟩, Fr.refl _ _⟩
  case round =>
    obtain ⟨k, A', c', hk, rfl, rfl, s⟩ := hrel
    cases gk with
    | succ g1 =>
      have hkn : k < n := by omega
      have hk20 : k < 20 := by omega
      obtain ⟨f, hf⟩ : ∃ f, fs[k]? = some f := ⟨_, List.getElem?_eq_getElem (by rw [Hl.out]; exact hkn)⟩
      obtain ⟨bb, oo, hA, d0, d1, d2⟩ := rd_fld (s.rd Hr.out (fun a ha h => h)) hf
      have hbl := World.block_lt_of_cell? _ _ d0
      obtain ⟨hf1, hf2⟩ := Hok.out f (List.mem_of_getElem? hf)
      have k1 : (k : Int) < (n : Int) := by omega
      have k2 : (k : Int) < 20 := by omega
      have S1 := Lib.hid s
      obtain ⟨fn, fv, fnv⟩ := f
      obtain ⟨a, ha⟩ : ∃ a, fn.size = a := ⟨_, rfl⟩
      obtain ⟨b, hb⟩ : ∃ b, fv.size = b := ⟨_, rfl⟩
      simp only at hf1 hf2 d0 d1 d2
      rw [ha] at hf1
      rw [hb] at hf2
      cases hA
      clear s
      obtain ⟨ma, hma⟩ : ∃ ma, min a 400 = ma := ⟨_, rfl⟩
      obtain ⟨mb, hmb⟩ : ∃ mb, min b 400 = mb := ⟨_, rfl⟩
      have ema : (if (400 : Int) < (a : Int) then (400 : Int) else (a : Int)) = (ma : Int) := by split <;> omega
      have emb : (if (400 : Int) < (b : Int) then (400 : Int) else (b : Int)) = (mb : Int) := by split <;> omega
      have la : ma ≤ a := by omega
      have lb : mb ≤ b := by omega
      obtain ⟨x, hx⟩ : ∃ x, fn.extract 0 ma = x := ⟨_, rfl⟩
      obtain ⟨y, hy⟩ : ∃ y, fv.extract 0 mb = y := ⟨_, rfl⟩
      have hsm : Hid (small5 ⟨fn, fv, fnv⟩ = ⟨x, y, fnv⟩) := by rw [small5, ← hx, ← hy, ← hma, ← hmb, ← ha, ← hb]; exact rfl
      have htk : Hid (fs.take (k + 1) = fs.take k ++ [⟨fn, fv, fnv⟩]) := by
        obtain ⟨hlt, he⟩ := List.getElem?_eq_some_iff.1 hf
        rw [List.take_add_one, hf]
        exact rfl
      have S2 : Hid (St (fun _ => False) w ((wr.alloc (.cells #[.string x, .string y, .bool fnv] 38)).alloc (.cells #[.string x, .string y, .bool fnv] 38)) [SLo w.heap.size 38 3 (.slice A' k c') k (fcellsL ((fs.take k).map small5))]) := (S1.out.alloc _).alloc _
      have X2 : Hid (Blk ((wr.alloc (.cells #[.string x, .string y, .bool fnv] 38)).alloc (.cells #[.string x, .string y, .bool fnv] 38)) (wr.heap.size + 1) 38 [.string x, .string y, .bool fnv]) := by
        have h := Blk.new (wr.alloc (.cells #[.string x, .string y, .bool fnv] 38)) 38 [.string x, .string y, .bool fnv]
        have e : (wr.alloc (.cells #[.string x, .string y, .bool fnv] 38)).heap.size = wr.heap.size + 1 := by simp
        rw [← e]
        exact h
      clear S1 hf hma hmb
      go_wp2_with (first
        | (at_builtin
           refine wpList_append_rd rfl (.tmp 36) (.tmp 38) 28 rfl EF (.slice A' k c') k (fcellsL ((fs.take k).map small5)) rfl S2.out.own0 (some ⟨wr.heap.size + 1, 0, none⟩) 1 1 (fcellsL [⟨x, y, fnv⟩]) rfl (rd_one (f := ⟨x, y, fnv⟩) X2.out) (fcells_one _) (by omega) (by unfold maxLen; omega) S2.out.size ?_
           intro A7 c7 w7 ho7 hf7 h27
           rw [← fcellsL_append, ← hsm.out, ← List.map_singleton (f := small5), ← List.map_append, ← htk.out] at ho7
           have S7 := Lib.hid (S2.out.appended0 ho7 hf7 h27)
           clear ho7 hf7 h27))
      go_roundg g1
      case measure => omega
      case rel => exact ⟨k + 1, A7, c7, by omega, by go_num, rfl, S7.out⟩
    | zero =>
      have S1 := Lib.hid s
      have hsl : Hid ((fs.take k).map small5 = smallL fs) := by
        rw [smallL]
        have : fs.take k = fs.take 20 := by
          rcases Nat.lt_or_ge n 20 with h | h
          · rw [List.take_of_length_le (by rw [Hl.out]; omega), List.take_of_length_le (by rw [Hl.out]; omega)]
          · rw [show k = 20 by omega]
        rw [this]
        exact rfl
      have hlen : Hid ((smallL fs).length = k) := by
        rw [← hsl.out, List.length_map, List.length_take, Hl.out]
        exact (show min k n = k by omega)
      have hc : (¬ (k : Int) < (n : Int)) ∨ ((k : Int) < (n : Int) ∧ ¬ (k : Int) < 20) := by omega
      clear s
      rcases hc with hc | ⟨hc, hc2⟩
      all_goals
        go_wp2
        go_ret
        refine ⟨A', k, c', rfl, hlen.out, ?_⟩
        rw [← hsl.out]
        exact S1.out
section
variable {w : World} {p h lim : Nat} {l : List Fld} {pd : Pend} {F : Nat → Prop} {list : Int}
theorem eSizeTq {q : Nat} {t0 : TypeId} {cs : List Value} {G : Nat → Prop} (b : Blk w p t0 (.pointer (some ⟨q, 0, none⟩) :: cs)) (t : PT w q G h l) (s : Nat) (hs : szs l = s) : Calls Tryd.prog 21 #[.pointer (some ⟨p, 0, none⟩)] w fun e w' => e = .returned (.int .i64 (s : Int)) ∧ w' = w := by
  have y0 : w.cell? ⟨p, 0, none⟩ = some (.pointer (some ⟨q, 0, none⟩)) := b.cell 0
  obtain ⟨hle, A, n, c, t, hF⟩ := t
  have T := Lib.hid t
  subst hs
  clear b t hF
  go_enter Tryd.func21, Tryd.ntmps21
  go_wp2_with (first
    | (go_at_call 43; (with_reducible refine (xTSize_c T.out).mono ?_); rintro e w3 ⟨rfl, rfl⟩))
  go_ret
  exact ⟨rfl, rfl⟩
theorem eMaxTq {q : Nat} {t0 : TypeId} {cs : List Value} {G : Nat → Prop} (b : Blk w p t0 (.pointer (some ⟨q, 0, none⟩) :: cs)) (t : PT w q G h l) : Calls Tryd.prog 23 #[.pointer (some ⟨p, 0, none⟩)] w fun e w' => e = .returned (.int .i64 (h : Int)) ∧ w' = w := by
  have y0 : w.cell? ⟨p, 0, none⟩ = some (.pointer (some ⟨q, 0, none⟩)) := b.cell 0
  obtain ⟨hle, A, n, c, t, hF⟩ := t
  have T := Lib.hid t
  clear b t hF
  go_enter Tryd.func23, Tryd.ntmps23
  go_wp2_with (first
    | (go_at_call 45; (with_reducible refine (xMax_c T.out).mono ?_); rintro e w3 ⟨rfl, rfl⟩))
  go_ret
  exact ⟨rfl, rfl⟩
theorem eSizeQ (t : PEo p h l pd w F) (s : Nat) (hs : szs l = s) : Calls Tryd.prog 21 #[.pointer (some ⟨p, 0, none⟩)] w fun e w' => e = .returned (.int .i64 (s : Int)) ∧ w' = w := by
  obtain ⟨_, q, a, b, _, F1, F2, ⟨h1, _⟩, h2, _, _⟩ := t
  exact eSizeTq h1 h2 s hs
theorem eMaxQ (t : PEo p h l pd w F) : Calls Tryd.prog 23 #[.pointer (some ⟨p, 0, none⟩)] w fun e w' => e = .returned (.int .i64 (h : Int)) ∧ w' = w := by
  obtain ⟨_, q, a, b, _, F1, F2, ⟨h1, _⟩, h2, _, _⟩ := t
  exact eMaxTq h1 h2
theorem dSizeQ (t : PDo p lim list (some (h, l)) w F) (s : Nat) (hs : szs l = s) : Calls Tryd.prog 21 #[.pointer (some ⟨p, 0, none⟩)] w fun e w' => e = .returned (.int .i64 (s : Int)) ∧ w' = w := by
  obtain ⟨_, _, q, G, b, tt, _, _⟩ := pd_open t
  exact eSizeTq b tt s hs
theorem dMaxQ (t : PDo p lim list (some (h, l)) w F) : Calls Tryd.prog 23 #[.pointer (some ⟨p, 0, none⟩)] w fun e w' => e = .returned (.int .i64 (h : Int)) ∧ w' = w := by
  obtain ⟨_, _, q, G, b, tt, _, _⟩ := pd_open t
  exact eMaxTq b tt
end
end Go.Proofs.YtinieljgcenemaaDoor
namespace Go.Proofs.YtinieljgcenemaaDoor
open Go.RowKit Go.Own Go.Tbl
set_option linter.unusedVariables false
attribute [local go_sem ↓] Go.wp_at_zero Go.wp_at_succ

set_option maxRecDepth 100000 in
set_option maxHeartbeats 4000000 in
theorem rAdd2 {w : World} {p : Nat} {A : Option Addr} {n c h : Nat} {l : List Fld} (t : RT w p A n c h l) (hA : ∀ a, A = some a → a.block ≠ p) (hsz : szs l ≤ 65536) (hh : h ≤ 65536) (f : Fld) (hf : fok f) (L : List Fld) (hL : addF h f l = L) :
    Calls Tryd.prog 60 #[.pointer (some ⟨p, 0, none⟩), .agg #[.string f.n, .string f.v, .bool f.nv]] w fun e w' => ∃ A' k c', e = .returned (.tuple #[]) ∧ RT w' p A' k c' h L ∧ (∀ a, A' = some a → a.block ≠ p ∧ (A = some a ∨ (w.heap.size ≤ a.block ∧ a.block < w'.heap.size))) ∧ Fr (· = p) w w' := by
  obtain ⟨N, hN⟩ : ∃ N, sz f = N := ⟨_, rfl⟩
  have hN2 : f.n.size + f.v.size + 32 = N := hN
  have hNl : N ≤ 281474976710688 := by have := hf.1; have := hf.2; omega
  have Ht1 : Hid (RT (w.alloc (.cells #[.string f.n, .string f.v, .bool false] 38)) p A n c h l) := t.alloc _
  have Hx1 : Hid (Blk (w.alloc (.cells #[.string f.n, .string f.v, .bool false] 38)) w.heap.size 38 [.string f.n, .string f.v, .bool false]) := Blk.new w 38 [.string f.n, .string f.v, .bool false]
  have HA := Lib.hid hA
  have hsz2 : szs l ≤ 4611686018427387904 := by omega
  have hh2 : h ≤ 4611686018427387904 := by omega
  have hN3 : N ≤ 4611686018427387903 := by omega
  have Hsz := Lib.hid hsz2
  have hfn : f.n.size ≤ 140737488355328 := hf.1
  have hfv : f.v.size ≤ 140737488355328 := hf.2
  have Hfo := Lib.hid hf
  have HN2 := Lib.hid hN2
  have hp := Blk.lt t.at_
  have HL : Hid (addF h f l = L) := hL
  have hpw : p ≠ w.heap.size := by omega
  clear t hA hsz2 hN2 hL
  by_cases hc : h < N
  · have hc2 : (h : Int) < (N : Int) := by omega
    have kb : decide (h < N) = true := decide_eq_true hc
    have hend : fitL h N l = L := by
      rw [← HL.out, addF, hN, if_neg (by omega), fitL, if_neg (by omega)]
    have Hend := Lib.hid hend
    clear hend hc
    go_enter Tryd.func60, Tryd.ntmps60
    go_wp2_with (first
      | (go_at_call 33; (with_reducible refine (rFSize_c f.n f.v false hfn hfv N HN2.out _).mono ?_); rintro e w2 ⟨rfl, hb2⟩; have Ht2 := Lib.hid (Ht1.out.below hb2); have Hx2 := Lib.hid (Hx1.out.below hb2 (Blk.lt Hx1.out)); have Hb2 := Lib.hid (((Below.refl _ _).alloc (Nat.le_refl _) _).trans (hb2.mono (by simp))); clear hb2)
      | (go_at_call 65; (with_reducible refine (rfit_any Ht2.out HA.out Hsz.out hh2 N hN3 _ rfl).mono ?_); rintro e w3 ⟨k, rfl, h3, hf3⟩; have H3 := Lib.hid h3; have Hx3 := Lib.hid (Hx2.out.fr hf3 (Ne.symm hpw)); have HF3 := Lib.hid ((Fr.of_below (S := fun i => i = p) Hb2.out (fun i h1 h2 => by omega)).trans hf3 (fun _ _ h => h)); clear h3 hf3))
    have p1 := H3.out.at_.cell 1
    have x0 := Hx3.out.cell 0
    have x1 := Hx3.out.cell 1
    have x2 := Hx3.out.cell 2
    simp only [List.getElem?_cons_zero, List.getElem?_cons_succ] at p1 x0 x1 x2
    have p1' : w3.drew.cell? ⟨p, 1, none⟩ = some (.int .i64 (h : Int)) := p1
    have x0' : w3.drew.cell? ⟨w.heap.size, 0, none⟩ = some (.string f.n) := x0
    have x1' : w3.drew.cell? ⟨w.heap.size, 1, none⟩ = some (.string f.v) := x1
    have x2' : w3.drew.cell? ⟨w.heap.size, 2, none⟩ = some (.bool false) := x2
    have H3d : Hid (RT w3.drew p A k c h (fitL h N l)) := H3.out.drewN 1
    have Hx3d : Hid (Blk w3.drew w.heap.size 38 [.string f.n, .string f.v, .bool false]) := Hx3.out.drewN 1
    first
    | go_region_held (fun w' => w'.cell? ⟨p, 1, none⟩ = some (.int .i64 (h : Int)) ∧ w'.cell? ⟨w.heap.size, 0, none⟩ = some (.string f.n) ∧ w'.cell? ⟨w.heap.size, 1, none⟩ = some (.string f.v) ∧ w'.cell? ⟨w.heap.size, 2, none⟩ = some (.bool false))
        (first | exact ⟨p1, x0, x1, x2⟩ | exact ⟨p1', x0', x1', x2'⟩ | exact ⟨p4, y0, y1, y2⟩)
        (first
        | (go_at_call 33; (with_reducible refine (rFSize_c f.n f.v false hfn hfv N HN2.out _).mono ?_); rintro e w4 ⟨rfl, hb4⟩
           have H4 := Lib.hid (H3d.out.below hb4)
           have Hx4 := Lib.hid (Hx3d.out.below hb4 (Blk.lt Hx3d.out))
           have p4 := H4.out.at_.cell 1
           have y0 := Hx4.out.cell 0
           have y1 := Hx4.out.cell 1
           have y2 := Hx4.out.cell 2
           simp only [List.getElem?_cons_zero, List.getElem?_cons_succ] at p4 y0 y1 y2
           have HF4 := Lib.hid ((HF3.out.drewN 1).trans (Fr.of_below (S := fun i => w3.drew.heap.size ≤ i) hb4 (fun i _ h => h)) (fun i hi h => by have := HF3.out.size; have e : w3.drew.heap.size = w3.heap.size := rfl; omega))
           clear hb4))
    | fail
    all_goals
      clear p1 x0 x1 x2 p1' x0' x1' x2' H3d Hx3d
      go_wp2
      refine bodyPost_ret (results_none rfl _ _ _) rfl ?_
      exact ⟨A, k, c, rfl, Hend.out ▸ H4.out, fun a ha => ⟨HA.out a ha, .inl ha⟩, HF4.out⟩
  · have hc2 : ¬ (h : Int) < (N : Int) := by omega
    have kb : decide (h < N) = false := decide_eq_false hc
    have hNh : N ≤ h := by omega
    have hend : f.plain :: fitL h N l = L := by
      rw [← HL.out, addF, hN, if_pos hNh, fitL, if_pos hNh]
    have Hend := Lib.hid hend
    have hkl : (fitL h N l).length ≤ 2048 := by
      have h1 := len_szs (fitL h N l)
      have h2 : szs (fitL h N l) ≤ h - N := by rw [fitL, if_pos hNh]; exact pre_le _ _
      omega
    have Hkl := Lib.hid hkl
    clear hend hc hkl
    go_enter Tryd.func60, Tryd.ntmps60
    go_wp2_with (first
      | (go_at_call 33; (with_reducible refine (rFSize_c f.n f.v false hfn hfv N HN2.out _).mono ?_); rintro e w2 ⟨rfl, hb2⟩; have Ht2 := Lib.hid (Ht1.out.below hb2); have Hx2 := Lib.hid (Hx1.out.below hb2 (Blk.lt Hx1.out)); have Hb2 := Lib.hid (((Below.refl _ _).alloc (Nat.le_refl _) _).trans (hb2.mono (by simp))); clear hb2)
      | (go_at_call 65; (with_reducible refine (rfit_any Ht2.out HA.out Hsz.out hh2 N hN3 _ rfl).mono ?_); rintro e w3 ⟨k, rfl, h3, hf3⟩; have H3 := Lib.hid h3; have Hx3 := Lib.hid (Hx2.out.fr hf3 (Ne.symm hpw)); have HF3 := Lib.hid ((Fr.of_below (S := fun i => i = p) Hb2.out (fun i h1 h2 => by omega)).trans hf3 (fun _ _ h => h)); clear h3 hf3))
    have p1 := H3.out.at_.cell 1
    have x0 := Hx3.out.cell 0
    have x1 := Hx3.out.cell 1
    have x2 := Hx3.out.cell 2
    simp only [List.getElem?_cons_zero, List.getElem?_cons_succ] at p1 x0 x1 x2
    have p1' : w3.drew.cell? ⟨p, 1, none⟩ = some (.int .i64 (h : Int)) := p1
    have x0' : w3.drew.cell? ⟨w.heap.size, 0, none⟩ = some (.string f.n) := x0
    have x1' : w3.drew.cell? ⟨w.heap.size, 1, none⟩ = some (.string f.v) := x1
    have x2' : w3.drew.cell? ⟨w.heap.size, 2, none⟩ = some (.bool false) := x2
    have H3d : Hid (RT w3.drew p A k c h (fitL h N l)) := H3.out.drewN 1
    have Hx3d : Hid (Blk w3.drew w.heap.size 38 [.string f.n, .string f.v, .bool false]) := Hx3.out.drewN 1
    first
    | go_region_held (fun w' => w'.cell? ⟨p, 1, none⟩ = some (.int .i64 (h : Int)) ∧ w'.cell? ⟨w.heap.size, 0, none⟩ = some (.string f.n) ∧ w'.cell? ⟨w.heap.size, 1, none⟩ = some (.string f.v) ∧ w'.cell? ⟨w.heap.size, 2, none⟩ = some (.bool false))
        (first | exact ⟨p1, x0, x1, x2⟩ | exact ⟨p1', x0', x1', x2'⟩ | exact ⟨p4, y0, y1, y2⟩)
        (first
        | (go_at_call 33; (with_reducible refine (rFSize_c f.n f.v false hfn hfv N HN2.out _).mono ?_); rintro e w4 ⟨rfl, hb4⟩
           have H4 := Lib.hid (H3d.out.below hb4)
           have Hx4 := Lib.hid (Hx3d.out.below hb4 (Blk.lt Hx3d.out))
           have p4 := H4.out.at_.cell 1
           have y0 := Hx4.out.cell 0
           have y1 := Hx4.out.cell 1
           have y2 := Hx4.out.cell 2
           simp only [List.getElem?_cons_zero, List.getElem?_cons_succ] at p4 y0 y1 y2
           have HF4 := Lib.hid ((HF3.out.drewN 1).trans (Fr.of_below (S := fun i => w3.drew.heap.size ≤ i) hb4 (fun i _ h => h)) (fun i hi h => by have := HF3.out.size; have e : w3.drew.heap.size = w3.heap.size := rfl; omega))
           clear hb4))
    | fail
    all_goals
      clear p1 x0 x1 x2 p1' x0' x1' x2' H3d Hx3d
      have hk2 : k ≤ 2048 := by have h1 := H4.out.len; have := Hkl.out; omega
      have hpl4 : p < w4.heap.size := Blk.lt H4.out.at_
      have q0 := (H4.out.alloc (.cells #[.string f.n, .string f.v, .bool false] 38)).at_.cell 0
      simp only [List.getElem?_cons_zero] at q0
      go_wp2_with (first
        | (at_builtin
           refine wpList_append_rd rfl (.tmp 19) (.tmp 23) 28 rfl EF (.slice (some ⟨w4.heap.size, 0, none⟩) 1 1) 1 (fcellsL [f.plain]) rfl (own_lit3 w4 f) A k c (fcellsL (fitL h N l)) rfl (H4.out.alloc _).rd (fcells_one _) (by omega) (by unfold maxLen; omega) (by simp) ?_
           intro A6 c6 w6 ho6 hf6 ho2
           rw [← fcellsL_append] at ho6
           have Ho6 := Lib.hid ho6
           have H6 := Lib.hid ((H4.out.alloc (.cells #[.string f.n, .string f.v, .bool false] 38)).at_.fr hf6 (fun e => by simp [Value.ownBlock] at e; omega))
           have HF6 := Lib.hid ((HF4.out.alloc _).trans hf6 (fun i hi e => by simp [Value.ownBlock] at e; have := HF4.out.size; omega))
           have q6 := H6.out.cell 0
           have z6 := H6.out.frozen 0
           simp only [List.getElem?_cons_zero] at q6
           clear ho6 hf6 ho2))
    all_goals
      go_end0
      have hbl : ∀ a, A6 = some a → a.block ≠ p := fun a ha e => by
        have := (Ho6.out.lt a.block (by rw [ha]; rfl)).1
        omega
      obtain ⟨g1, g2⟩ := own_len Ho6.out
      refine ⟨A6, 1 + k, c6, rfl, ⟨H6.out.set_ 0 (.slice A6 (1 + k) c6), ?_, g1, g2, ?_⟩, fun a ha => ⟨hbl a ha, .inr ?_⟩, HF6.out.setCell (p := ⟨p, 0, none⟩) (.inl rfl) _⟩
      · rw [← Hend.out]
        exact (Rd.of_own Ho6.out).fr ((Fr.refl (· = p) w6).setCell (p := ⟨p, 0, none⟩) (.inl rfl) _) (fun a ha e => hbl a ha e)
      · rw [← Hend.out]
        intro g hg
        rcases List.mem_cons.1 hg with rfl | hg
        · exact Hfo.out
        · exact H4.out.ok g hg
      · have h1 := Ho6.out.lt a.block (by rw [ha]; rfl)
        have h2 := HF4.out.size
        simp [World.setCell]
        omega

end Go.Proofs.YtinieljgcenemaaDoor
namespace Go.Proofs.YtinieljgcenemaaDoor
open Go.RowKit Go.Own Go.Tbl
set_option linter.unusedVariables false

/-- the blocks of the document's table -/
def rblS (p : Nat) (A : Option Addr) (i : Nat) : Prop := i = p ∨ ∃ a, A = some a ∧ i = a.block
/-- the document's table, G its blocks -/
def RX (w : World) (r : Nat) (G : Nat → Prop) (h : Nat) (l : List Fld) : Prop := szs l ≤ h ∧ h ≤ 65536 ∧ ∃ A n c, RT w r A n c h l ∧ (∀ a, A = some a → a.block ≠ r ∧ a.block < w.heap.size) ∧ ∀ i, G i ↔ rblS r A i
section
variable {w w' : World} {p r h : Nat} {F G S : Nat → Prop} {l : List Fld}
theorem RX.lt (t : RX w r G h l) (i : Nat) (hi : G i) : i < w.heap.size := by
  obtain ⟨_, _, A, n, c, t, hA, hG⟩ := t
  rcases (hG i).1 hi with rfl | ⟨a, ha, rfl⟩
  · exact Blk.lt t.at_
  · exact (hA a ha).2
theorem RX.fr (t : RX w r G h l) (hf : Fr S w w') (hs : ∀ i, G i → ¬ S i) : RX w' r G h l := by
  obtain ⟨h1, h2, A, n, c, t, hA, hG⟩ := t
  exact ⟨h1, h2, A, n, c, t.fr hf (hs r ((hG r).2 (.inl rfl))) (fun a ha => hs _ ((hG _).2 (.inr ⟨a, ha, rfl⟩))), fun a ha => ⟨(hA a ha).1, Nat.lt_of_lt_of_le (hA a ha).2 hf.size⟩, hG⟩
theorem xrNew (x : Int) (w : World) : Calls Tryd.prog 36 #[.int .i64 x] w fun e w' => ∃ r G, e = .returned (.pointer (some ⟨r, 0, none⟩)) ∧ RX w' r G (clampI x) [] ∧ (∀ i, G i → w.heap.size ≤ i) ∧ Below w.heap.size w w' := by
  refine (rNew_any w x _ rfl).mono ?_
  rintro e w' ⟨rfl, t, hb⟩
  refine ⟨_, rblS w.heap.size none, rfl, ⟨by simp [szs], clampI_le x, none, 0, 0, t, by simp, fun i => Iff.rfl⟩, fun i hi => ?_, hb⟩
  rcases hi with rfl | ⟨a, ha, _⟩
  · exact Nat.le_refl _
  · cases ha
theorem xrAdd (t : RX w r G h l) (f : Fld) (hf : fok f) : Calls Tryd.prog 60 #[.pointer (some ⟨r, 0, none⟩), .agg #[.string f.n, .string f.v, .bool f.nv]] w fun e w' => ∃ G', e = .returned (.tuple #[]) ∧ RX w' r G' h (addF h f l) ∧ (∀ i, G' i → G i ∨ w.heap.size ≤ i) ∧ Fr G w w' := by
  obtain ⟨h1, h2, A, n, c, t, hA, hG⟩ := t
  refine (rAdd2 t (fun a ha => (hA a ha).1) (by omega) h2 f hf _ rfl).mono ?_
  rintro e w' ⟨A', k, c', rfl, t', hn, hfr⟩
  refine ⟨rblS r A', rfl, ⟨addF_le _ _ _, h2, A', k, c', t', fun a ha => ⟨(hn a ha).1, ?_⟩, fun i => Iff.rfl⟩, fun i hi => ?_, hfr.mono (fun i _ hi => (hG i).2 (.inl hi))⟩
  · rcases (hn a ha).2 with ho | ⟨_, ho⟩
    · exact Nat.lt_of_lt_of_le (hA a ho).2 hfr.size
    · exact ho
  · rcases hi with rfl | ⟨a, ha, rfl⟩
    · exact .inl ((hG _).2 (.inl rfl))
    · rcases (hn a ha).2 with ho | ⟨ho, _⟩
      · exact .inl ((hG _).2 (.inr ⟨a, ho, rfl⟩))
      · exact .inr ho
theorem xrSetMax (t : RX w r G h l) (x : Int) : Calls Tryd.prog 50 #[.pointer (some ⟨r, 0, none⟩), .int .i64 x] w fun e w' => ∃ G', e = .returned (.tuple #[]) ∧ RX w' r G' (clampI x) (pre (clampI x) l) ∧ (∀ i, G' i → G i ∨ w.heap.size ≤ i) ∧ Fr G w w' := by
  obtain ⟨h1, h2, A, n, c, t, hA, hG⟩ := t
  refine (rSetMax_any t (fun a ha => (hA a ha).1) (by omega) x _ rfl).mono ?_
  rintro e w' ⟨k, rfl, t', hfr⟩
  exact ⟨G, rfl, ⟨pre_le _ _, clampI_le x, A, k, c, t', fun a ha => ⟨(hA a ha).1, Nat.lt_of_lt_of_le (hA a ha).2 hfr.size⟩, hG⟩, fun i hi => .inl hi, hfr.mono (fun i _ hi => (hG i).2 (.inl hi))⟩
theorem xrAt (t : RX w r G h l) (i : Int) (hi : -9223372036854775808 ≤ i ∧ i ≤ 9223372036854775807) : Calls Tryd.prog 79 #[.pointer (some ⟨r, 0, none⟩), .int .i64 i] w fun e w' => e = .returned (atV (atL (statL ++ l) i)) ∧ Below w.heap.size w w' := by
  obtain ⟨h1, h2, A, n, c, t, hA, hG⟩ := t
  exact rAt_any t (by omega) i hi _ rfl
theorem xrFind (t : RX w r G h l) (f : Fld) : Calls Tryd.prog 58 #[.pointer (some ⟨r, 0, none⟩), .agg #[.string f.n, .string f.v, .bool f.nv]] w fun e w' => e = .returned (.tuple #[.int .i64 ((findF (statL ++ l) f).1 : Int), .bool (findF (statL ++ l) f).2]) ∧ Below w.heap.size w w' := by
  obtain ⟨h1, h2, A, n, c, t, hA, hG⟩ := t
  exact rFind_any t (by omega) f _ _ rfl
end
end Go.Proofs.YtinieljgcenemaaDoor
namespace Go.Proofs.YtinieljgcenemaaDoor
open Go.RowKit Go.Own Go.Tbl
set_option linter.unusedVariables false
attribute [local go_sem ↓] Go.wp_at_zero Go.wp_at_succ

set_option maxRecDepth 100000 in
set_option maxHeartbeats 2000000 in
theorem r5Same_eq {w : World} {A B : Option Addr} {n c d : Nat} {l : List Fld} (ha : Rd w 3 A n (fcellsL l)) (hb : Rd w 3 B n (fcellsL l)) (hlen : l.length = n) (hn : n ≤ 4611686018427387904) :
    Calls Tryd.prog 19 #[.slice A n c, .slice B n d] w fun e w' => e = .returned (.bool true) ∧ Below w.heap.size w w' := by
  have Ha := Lib.hid ha
  have Hb := Lib.hid hb
  have Hl := Lib.hid hlen
  clear ha hb hlen
  go_enter Tryd.func19, Tryd.ntmps19
  go_wp2
  go_loopg [5] n (fun gh i w' => ∃ (k q : Nat), gh + k = n ∧ i = .int .i64 (k : Int) ∧ w' = w.drewN q)
  case atStart => exact ⟨0, 0, by omega, rfl, rfl⟩
  case round =>
    obtain ⟨k, q, hk, rfl, rfl⟩ := hrel
    cases gk with
    | succ g1 =>
      have hkN : k < n := by omega
      obtain ⟨x, hx⟩ : ∃ x, l[k]? = some x := ⟨_, List.getElem?_eq_getElem (by rw [Hl.out]; exact hkN)⟩
      obtain ⟨b1, o1, rfl, d0, d1, d2⟩ := rd_fld Ha.out hx
      obtain ⟨b2, o2, rfl, e0, e1, e2⟩ := rd_fld Hb.out hx
      have k1 : (k : Int) < (n : Int) := by omega
      clear hx
      go_wp2
      go_quiet (fail)
      go_wp2
      go_roundg g1
      case measure => omega
      case rel => exact ⟨k + 1, _, by omega, by go_num, rfl⟩
    | zero =>
      obtain rfl : k = n := by omega
      go_wp2
      go_ret
      exact ⟨rfl, below_drewN (Below.refl _ _) _⟩
set_option maxRecDepth 100000 in
set_option maxHeartbeats 2000000 in
theorem r5fit_any (x : Int) (h : Nat) (hx : clampI x = h) (w : World) : Calls Tryd.prog 38 #[.int .i64 x] w fun e w' => e = .returned (.int .i64 (h : Int)) ∧ Below w.heap.size w w' := by
  have Hx := Lib.hid hx
  clear hx
  go_enter Tryd.func38, Tryd.ntmps38
  go_wp2_with (first
    | (go_at_call 36; (with_reducible refine (rNew_any w x h Hx.out).mono ?_); rintro e w2 ⟨rfl, t2, b2⟩
       have y1 := t2.at_.cell 1
       simp only [List.getElem?_cons_zero, List.getElem?_cons_succ] at y1
       have B2 := Lib.hid b2
       clear t2 b2))
  go_ret
  exact ⟨rfl, B2.out⟩
end Go.Proofs.YtinieljgcenemaaDoor
namespace Go.Proofs.YtinieljgcenemaaDoor
open Go.RowKit Go.Own Go.Tbl Go.Huf Go.Hin
set_option linter.unusedVariables false
set_option maxRecDepth 100000

abbrev FSo (base : Nat) (A : Option Addr) (c n : Nat) (fs : List Fld) : Ob := SLo base 38 3 (.slice A n c) n (fcellsL fs)
abbrev NoS : Nat → Prop := fun _ => False
theorem own_block_some {A : Option Addr} {n c : Nat} {a : Addr} (h : A = some a) : (Value.slice A n c).ownBlock = some a.block := by subst h; rfl
theorem own_of_blk0 (w : World) (cs : List Value) (t : TypeId) (size n : Nat) (hc : cs.length = n * size) (hm : n ≤ maxLen) : (w.alloc (.cells cs.toArray t)).ownsRow w.heap.size t size (.slice (some ⟨w.heap.size, 0, none⟩) n n) n cs := by
  have h := own_of_blk (n := n) (size := size) (cap := n) (Blk.new w t cs) hc (Nat.le_refl _) hm
  rw [List.take_of_length_le (by rw [hc]; exact Nat.le_refl _)] at h
  refine ⟨h.1, ?_⟩
  rcases h.2 with hn | ⟨g, cap, cur, he, _, rest⟩
  · exact .inl hn
  · refine .inr ⟨g, cap, cur, he, ?_, rest⟩
    simp only [Value.slice.injEq, Option.some.injEq, Addr.mk.injEq] at he
    omega
section
variable {w0 w : World} {L L1 L2 : List Ob} {p h lim : Nat} {l fs : List Fld} {pd : Pend} {list : Int} {A0 : Option Addr} {n0 c0 : Nat} {base : Nat} {xs : List UInt8} {st : Option (Nat × List Fld)}
theorem cnt_st (hC : Cnt w0) (s : St NoS w0 w L) : Cnt w := hC.fr s.fr (fun h => h)
theorem no_counts {F : Nat → Prop} (hC : Cnt w0) (hF : ∀ i, F i → NoS i ∨ w0.heap.size ≤ i) : ¬ F 0 := fun h => by
  have := hC.pos
  rcases hF _ h with h1 | h1
  · exact h1
  · omega
/-- Encode -/
theorem lEncode (s : St NoS w0 w (L1 ++ PEo p h l pd :: L2)) (hC : Cnt w0) (hO : FSo base A0 c0 n0 fs ∈ L1 ++ L2) (hlen : fs.length = n0) (hn0 : n0 ≤ 1073741824) (hfs : ∀ f ∈ fs, f.n.size ≤ 16777216 ∧ f.v.size ≤ 16777216)
    (Lb : List UInt8) (h' : Nat) (l' : List Fld) (hE : blockE statL h l pd fs = (Lb, h', l')) (N : Nat) (hN : Lb.length = N) (hN2 : N ≤ 1073741824) :
    Calls Tryd.prog 18 #[.pointer (some ⟨p, 0, none⟩), .slice A0 n0 c0] w fun e w' => ∃ A c, e = .returned (.slice A N c) ∧ St NoS w0 w' (L1 ++ PEo p h' l' none :: (L2 ++ [BSo w0.heap.size A c N Lb])) := by
  obtain ⟨F, t, hF, hap, go⟩ := s.focusA L1 _ L2
  obtain ⟨F', ⟨ho, hF'⟩, hd⟩ := hap _ hO
  have hsz := s.size
  have hlt := (framed_PEo p h l pd).lt _ _ t
  refine (eEncode_c t (cnt_st hC s) (no_counts hC hF) (Rd.of_own ho) hlen hn0 (fun a ha hg => hd _ hg (by rw [hF']; exact own_block_some ha)) hfs Lb h' l' hE N hN hN2).mono ?_
  rintro e w' ⟨A, c, rfl, s'⟩
  exact ⟨A, c, rfl, go _ _ _ (s'.floor [PEo p h' l' none] [] hsz)⟩
/-- Decode of octets that the law keeps -/
theorem lDecode (s : St NoS w0 w (L1 ++ PDo p lim list st :: L2)) (hC : Cnt w0) (hO : BSo base A0 c0 n0 xs ∈ L1 ++ L2) (hlen : n0 ≤ 1048576) (R : List Fld × Int × Option (Nat × List Fld)) (hR : decR lim list st xs = R) :
    Calls Tryd.prog 29 #[.pointer (some ⟨p, 0, none⟩), .slice A0 n0 c0] w fun e w' => ∃ A n c, e = .returned (.tuple #[.slice A n c, .int .i64 R.2.1]) ∧ R.1.length = n ∧ St NoS w0 w' (L1 ++ PDo p lim list R.2.2 :: (L2 ++ [FSo w0.heap.size A c n R.1])) := by
  obtain ⟨F, t, hF, hap, go⟩ := s.focusA L1 _ L2
  obtain ⟨F', ⟨ho, hF'⟩, hd⟩ := hap _ hO
  have hsz := s.size
  obtain ⟨A', c', e1, hnc, hcm, _, _⟩ := own_shape ho
  cases e1
  refine (dDecode_c t (Rd.of_own ho) hnc (by unfold maxLen at hcm; omega) (fun a ha _ hg => hd _ hg (by rw [hF']; exact own_block_some ha)) (cnt_st hC s) (no_counts hC hF) hlen R hR).mono ?_
  rintro e w' ⟨A, n, c, rfl, hn, s'⟩
  exact ⟨A, n, c, rfl, hn, go _ _ _ (s'.floor [PDo p lim list R.2.2] [] hsz)⟩
/-- Decode of octets that came in -/
theorem lDecodeIn (s : St NoS w0 w (L1 ++ PDo p lim list st :: L2)) (hC : Cnt w0) (hr : Rd w0 1 A0 n0 (xs.map BV)) (hnc : n0 ≤ c0) (hcm : c0 ≤ 9223372036854775807) (hlen : n0 ≤ 1048576) (R : List Fld × Int × Option (Nat × List Fld)) (hR : decR lim list st xs = R) :
    Calls Tryd.prog 29 #[.pointer (some ⟨p, 0, none⟩), .slice A0 n0 c0] w fun e w' => ∃ A n c, e = .returned (.tuple #[.slice A n c, .int .i64 R.2.1]) ∧ R.1.length = n ∧ St NoS w0 w' (L1 ++ PDo p lim list R.2.2 :: (L2 ++ [FSo w0.heap.size A c n R.1])) := by
  obtain ⟨F, t, hF, hap, go⟩ := s.focusA L1 _ L2
  have hsz := s.size
  have hlt : ∀ a, A0 = some a → 0 < n0 → a.block < w0.heap.size := fun a ha hn => by
    obtain ⟨b, o, e, hc⟩ := hr.2 hn
    rw [ha] at e
    cases e
    have hl : 0 < (xs.map BV).length := by rw [hr.1]; omega
    exact World.block_lt_of_cell? w0 _ (hc 0 _ (List.getElem?_eq_getElem hl))
  refine (dDecode_c t (rd_fr1 hr s.fr (fun a _ _ h => h)) hnc hcm (fun a ha hn hg => ?_) (cnt_st hC s) (no_counts hC hF) hlen R hR).mono ?_
  · have := hlt a ha hn
    rcases hF _ hg with h1 | h1
    · exact h1
    · omega
  · rintro e w' ⟨A, n, c, rfl, hn, s'⟩
    exact ⟨A, n, c, rfl, hn, go _ _ _ (s'.floor [PDo p lim list R.2.2] [] hsz)⟩
/-- Decode of a constant's octets -/
theorem conv_lit5 (C : Array Value) (k : Nat) (w : World) : (convert 29 29 (.slice (some ⟨w.heap.size, 0, none⟩) k k)).run Tryd.prog (w.alloc (.cells C 5)) = .ok (.slice (some ⟨w.heap.size, 0, none⟩) k k) (w.alloc (.cells C 5 (C.size, C.size + 1))) :=
  Lib.run_convert_bytes_const w 29 5 C k k Tryd.underlying29 Tryd.underlying5
theorem lDecodeLit (s : St NoS w0 w (L1 ++ PDo p lim list st :: L2)) (hC : Cnt w0) (zs : List UInt8) (n : Nat) (hn : zs.length = n) (hm : n ≤ 1000) (cs : Array Value) (hcs : cs = (zs.map BV).toArray) (fz : Nat × Nat) (fs : List Fld) (er : Int) (st' : Option (Nat × List Fld)) (hR : decR lim list st zs = (fs, er, st')) (m : Nat) (hmm : fs.length = m) :
    Calls Tryd.prog 29 #[.pointer (some ⟨p, 0, none⟩), .slice (some ⟨w.heap.size, 0, none⟩) n n] (w.alloc (.cells cs 5 fz)) fun e w' => ∃ A c, e = .returned (.tuple #[.slice A m c, .int .i64 er]) ∧ St NoS w0 w' (L1 ++ PDo p lim list st' :: (L2 ++ [FSo w0.heap.size A c m fs])) := by
  obtain ⟨F, t, hO, hF, go⟩ := s.focus L1 _ L2
  have hrd : Rd (w.alloc (.cells cs 5 fz)) 1 (some ⟨w.heap.size, 0, none⟩) n (zs.map BV) := by
    subst hcs
    refine ⟨by simp; omega, fun _ => ⟨w.heap.size, 0, rfl, fun j v hv => ?_⟩⟩
    rw [Nat.zero_add, cell_of_row _ w.heap.size j _ 5 fz (heap_alloc_new w _)]
    simpa using hv
  have fa : Fr (fun _ => False) w (w.alloc (.cells cs 5 fz)) := (Fr.refl _ _).alloc _
  have hsz := s.size
  have hz1 := fa.size
  have hCw := cnt_st hC s
  refine (dDecode_c (hO.fr _ _ _ _ t fa (fun _ _ h => h)) hrd (Nat.le_refl _) (by omega) (fun a ha _ hg => ?_) (hCw.fr fa (fun h => h)) (no_counts hC hF) (by omega) _ hR).mono ?_
  · cases ha
    have := hO.lt _ _ t _ hg
    simp at this
  · rintro e w' ⟨A, k, c, rfl, hk, s'⟩
    obtain rfl : k = m := hk.symm.trans hmm
    exact ⟨A, c, rfl, go _ _ _ ((s'.before fa).floor [PDo p lim list st'] [] (Nat.le_trans hsz hz1))⟩
theorem lSetMaxE (s : St NoS w0 w (L1 ++ PEo p h l pd :: L2)) (x : Int) (hx : i64 x) (n : Nat) (hn : clampI x = n) : Calls Tryd.prog 15 #[.pointer (some ⟨p, 0, none⟩), .int .i64 x] w fun e w' => e = .returned (.tuple #[]) ∧ St NoS w0 w' (L1 ++ PEo p h l (tell n pd) :: L2) := by
  obtain ⟨F, t, _, _, go⟩ := s.focus L1 _ L2
  refine (eSetMax_c t x hx n hn).mono ?_
  rintro e w' ⟨rfl, s'⟩
  have := go _ _ [] s'
  rw [List.append_nil] at this
  exact ⟨rfl, this⟩
theorem lSetMaxD (s : St NoS w0 w (L1 ++ PDo p lim list st :: L2)) (x : Int) (hx : i64 x) (n : Nat) (hn : clampI x = n) : Calls Tryd.prog 27 #[.pointer (some ⟨p, 0, none⟩), .int .i64 x] w fun e w' => e = .returned (.tuple #[]) ∧ St NoS w0 w' (L1 ++ PDo p n list st :: L2) := by
  obtain ⟨F, t, _, _, go⟩ := s.focus L1 _ L2
  refine (dSetMax_c t x hx n hn).mono ?_
  rintro e w' ⟨rfl, s'⟩
  have := go _ _ [] s'
  rw [List.append_nil] at this
  exact ⟨rfl, this⟩
theorem lNewE (s : St NoS w0 w L) (x : Int) (hx : i64 x) (h : Nat) (hh : clampI x = h) : Calls Tryd.prog 13 #[.int .i64 x] w fun e w' => ∃ p, e = .returned (.pointer (some ⟨p, 0, none⟩)) ∧ St NoS w0 w' (L ++ [PEo p h [] none]) := by
  refine (eNew_c x hx h hh w).mono ?_
  rintro e w' ⟨p, rfl, s'⟩
  exact ⟨p, rfl, s.add s'⟩
theorem lNewD (s : St NoS w0 w L) (x : Int) (hx : i64 x) (list : Int) (h : Nat) (hh : clampI x = h) : Calls Tryd.prog 25 #[.int .i64 x, .int .i64 list] w fun e w' => ∃ p, e = .returned (.pointer (some ⟨p, 0, none⟩)) ∧ St NoS w0 w' (L ++ [PDo p h list (some (h, []))]) := by
  refine (dNew_c x hx list h hh w).mono ?_
  rintro e w' ⟨p, rfl, s'⟩
  exact ⟨p, rfl, s.add s'⟩
/-- small of fields that came in -/
theorem lSmall (s : St NoS w0 w L) (hr : Rd w0 3 A0 n0 (fcellsL fs)) (hlen : fs.length = n0) (hn : n0 ≤ 9223372036854775807) (hok : ∀ f ∈ fs, fok f) : Calls Tryd.prog 17 #[.slice A0 n0 c0] w fun e w' => ∃ A' m c', e = .returned (.slice A' m c') ∧ (smallL fs).length = m ∧ St NoS w0 w' (L ++ [FSo w0.heap.size A' c' m (smallL fs)]) := by
  refine (small5_c (s.rd hr (fun _ _ h => h)) hlen hn hok).mono ?_
  rintro e w' ⟨A', m, c', rfl, hm, s'⟩
  exact ⟨A', m, c', rfl, hm, s.add (s'.floor [] [] s.size)⟩
theorem lSizeE (s : St NoS w0 w (L1 ++ PEo p h l pd :: L2)) (z : Nat) (hz : szs l = z) : Calls Tryd.prog 21 #[.pointer (some ⟨p, 0, none⟩)] w fun e w' => e = .returned (.int .i64 (z : Int)) ∧ w' = w := by
  obtain ⟨F, t, _⟩ := s.focus L1 _ L2
  exact eSizeQ t z hz
theorem lMaxE (s : St NoS w0 w (L1 ++ PEo p h l pd :: L2)) : Calls Tryd.prog 23 #[.pointer (some ⟨p, 0, none⟩)] w fun e w' => e = .returned (.int .i64 (h : Int)) ∧ w' = w := by
  obtain ⟨F, t, _⟩ := s.focus L1 _ L2
  exact eMaxQ t
theorem lSizeD (s : St NoS w0 w (L1 ++ PDo p lim list (some (h, l)) :: L2)) (z : Nat) (hz : szs l = z) : Calls Tryd.prog 21 #[.pointer (some ⟨p, 0, none⟩)] w fun e w' => e = .returned (.int .i64 (z : Int)) ∧ w' = w := by
  obtain ⟨F, t, _⟩ := s.focus L1 _ L2
  exact dSizeQ t z hz
theorem lMaxD (s : St NoS w0 w (L1 ++ PDo p lim list (some (h, l)) :: L2)) : Calls Tryd.prog 23 #[.pointer (some ⟨p, 0, none⟩)] w fun e w' => e = .returned (.int .i64 (h : Int)) ∧ w' = w := by
  obtain ⟨F, t, _⟩ := s.focus L1 _ L2
  exact dMaxQ t
/-- Same of two lists that the law keeps -/
theorem lSame {A B : Option Addr} {n a b : Nat} (ha : Rd w 3 A n (fcellsL fs)) (hb : Rd w 3 B n (fcellsL fs)) (hlen : fs.length = n) (hn : n ≤ 4611686018427387904) :
    Calls Tryd.prog 19 #[.slice A n a, .slice B n b] w fun e w' => e = .returned (.bool true) ∧ Below w.heap.size w w' := r5Same_eq ha hb hlen hn
/-- a literal of one field -/
theorem st_fld (s : St NoS w0 w L) (n v : ByteArray) (nv : Bool) : St NoS w0 (w.alloc (.cells #[.string n, .string v, .bool nv] 38)) (L ++ [FSo w0.heap.size (some ⟨w.heap.size, 0, none⟩) 1 1 [⟨n, v, nv⟩]]) := by
  have ho := own_lower (own_of_blk0 w [.string n, .string v, .bool nv] 38 3 1 rfl (by simp [maxLen])) s.size
  exact s.add (St.floor [] [] (St.made (framed_SLo ..) ⟨own_of_blk0 w [.string n, .string v, .bool nv] 38 3 1 rfl (by simp [maxLen]), rfl⟩ (fun i hi => by simp [Value.ownBlock] at hi; omega) ((Below.refl _ _).alloc (Nat.le_refl _) _)) s.size)
theorem st_empty (s : St NoS w0 w L) : St NoS w0 (w.alloc (.cells #[] 38)) (L ++ [FSo w0.heap.size (some ⟨w.heap.size, 0, none⟩) 0 0 []]) :=
  s.add (St.floor [] [] (St.made (framed_SLo ..) ⟨own_of_blk0 w [] 38 3 0 rfl (by simp [maxLen]), rfl⟩ (fun i hi => by simp [Value.ownBlock] at hi; omega) ((Below.refl _ _).alloc (Nat.le_refl _) _)) s.size)
/-- a literal of octets -/
theorem st_oct (s : St NoS w0 w L) (zs : List UInt8) (n : Nat) (hn : zs.length = n) (hm : n ≤ 1000) (cs : Array Value) (hcs : cs = (zs.map BV).toArray) : St NoS w0 (w.alloc (.cells cs 5)) (L ++ [BSo w0.heap.size (some ⟨w.heap.size, 0, none⟩) n n zs]) := by
  subst hcs
  exact s.add (St.floor [] [] (St.made (framed_SLo ..) ⟨own_of_blk0 w (zs.map BV) 5 1 n (by simp [hn]) (by unfold maxLen; omega), rfl⟩ (fun i hi => by simp [Value.ownBlock] at hi; omega) ((Below.refl _ _).alloc (Nat.le_refl _) _)) s.size)
end
section
variable {w0 w : World} {L2 : List Ob} {O0 O1 O2 O3 O4 : Ob} {p h lim : Nat} {l fs : List Fld} {pd : Pend} {list : Int} {A0 : Option Addr} {n0 c0 : Nat} {base : Nat} {xs : List UInt8} {st : Option (Nat × List Fld)}
theorem lEncode0 (s : St NoS w0 w (PEo p h l pd :: L2)) (hC : Cnt w0) (hO : FSo base A0 c0 n0 fs ∈ [] ++ L2) (hlen : fs.length = n0) (hn0 : n0 ≤ 1073741824) (hfs : ∀ f ∈ fs, f.n.size ≤ 16777216 ∧ f.v.size ≤ 16777216) (Lb : List UInt8) (h' : Nat) (l' : List Fld) (hE : blockE statL h l pd fs = (Lb, h', l')) (N : Nat) (hN : Lb.length = N) (hN2 : N ≤ 1073741824) :
    Calls Tryd.prog 18 #[.pointer (some ⟨p, 0, none⟩), .slice A0 n0 c0] w fun e w' => ∃ A c, e = .returned (.slice A N c) ∧ St NoS w0 w' (PEo p h' l' none :: (L2 ++ [BSo w0.heap.size A c N Lb])) := lEncode (L1 := []) s hC hO hlen hn0 hfs Lb h' l' hE N hN hN2
theorem lDecode0 (s : St NoS w0 w (PDo p lim list st :: L2)) (hC : Cnt w0) (hO : BSo base A0 c0 n0 xs ∈ [] ++ L2) (hlen : n0 ≤ 1048576) (fs : List Fld) (er : Int) (st' : Option (Nat × List Fld)) (hR : decR lim list st xs = (fs, er, st')) (m : Nat) (hm : fs.length = m) :
    Calls Tryd.prog 29 #[.pointer (some ⟨p, 0, none⟩), .slice A0 n0 c0] w fun e w' => ∃ A c, e = .returned (.tuple #[.slice A m c, .int .i64 er]) ∧ St NoS w0 w' (PDo p lim list st' :: (L2 ++ [FSo w0.heap.size A c m fs])) := by
  refine (lDecode (L1 := []) s hC hO hlen _ hR).mono ?_
  rintro e w' ⟨A, n, c, rfl, hn, s'⟩
  obtain rfl : n = m := hn.symm.trans hm
  exact ⟨A, c, rfl, s'⟩
theorem lDecodeIn0 (s : St NoS w0 w (PDo p lim list st :: L2)) (hC : Cnt w0) (hr : Rd w0 1 A0 n0 (xs.map BV)) (hnc : n0 ≤ c0) (hcm : c0 ≤ 9223372036854775807) (hlen : n0 ≤ 1048576) (fs : List Fld) (er : Int) (st' : Option (Nat × List Fld)) (hR : decR lim list st xs = (fs, er, st')) (m : Nat) (hm : fs.length = m) :
    Calls Tryd.prog 29 #[.pointer (some ⟨p, 0, none⟩), .slice A0 n0 c0] w fun e w' => ∃ A c, e = .returned (.tuple #[.slice A m c, .int .i64 er]) ∧ St NoS w0 w' (PDo p lim list st' :: (L2 ++ [FSo w0.heap.size A c m fs])) := by
  refine (lDecodeIn (L1 := []) s hC hr hnc hcm hlen _ hR).mono ?_
  rintro e w' ⟨A, n, c, rfl, hn, s'⟩
  obtain rfl : n = m := hn.symm.trans hm
  exact ⟨A, c, rfl, s'⟩
theorem lDecodeLit0 (s : St NoS w0 w (PDo p lim list st :: L2)) (hC : Cnt w0) (zs : List UInt8) (n : Nat) (hn : zs.length = n) (hm : n ≤ 1000) (cs : Array Value) (hcs : cs = (zs.map BV).toArray) (fz : Nat × Nat) (fs : List Fld) (er : Int) (st' : Option (Nat × List Fld)) (hR : decR lim list st zs = (fs, er, st')) (m : Nat) (hmm : fs.length = m) :
    Calls Tryd.prog 29 #[.pointer (some ⟨p, 0, none⟩), .slice (some ⟨w.heap.size, 0, none⟩) n n] (w.alloc (.cells cs 5 fz)) fun e w' => ∃ A c, e = .returned (.tuple #[.slice A m c, .int .i64 er]) ∧ St NoS w0 w' (PDo p lim list st' :: (L2 ++ [FSo w0.heap.size A c m fs])) := lDecodeLit (L1 := []) s hC zs n hn hm cs hcs fz fs er st' hR m hmm
theorem lSetMaxE0 (s : St NoS w0 w (PEo p h l pd :: L2)) (x : Int) (hx : i64 x) (n : Nat) (hn : clampI x = n) : Calls Tryd.prog 15 #[.pointer (some ⟨p, 0, none⟩), .int .i64 x] w fun e w' => e = .returned (.tuple #[]) ∧ St NoS w0 w' (PEo p h l (tell n pd) :: L2) := lSetMaxE (L1 := []) s x hx n hn
theorem lSetMaxD0 (s : St NoS w0 w (PDo p lim list st :: L2)) (x : Int) (hx : i64 x) (n : Nat) (hn : clampI x = n) : Calls Tryd.prog 27 #[.pointer (some ⟨p, 0, none⟩), .int .i64 x] w fun e w' => e = .returned (.tuple #[]) ∧ St NoS w0 w' (PDo p n list st :: L2) := lSetMaxD (L1 := []) s x hx n hn
theorem lSizeE0 (s : St NoS w0 w (PEo p h l pd :: L2)) (z : Nat) (hz : szs l = z) : Calls Tryd.prog 21 #[.pointer (some ⟨p, 0, none⟩)] w fun e w' => e = .returned (.int .i64 (z : Int)) ∧ w' = w := lSizeE (L1 := []) s z hz
theorem lMaxE0 (s : St NoS w0 w (PEo p h l pd :: L2)) : Calls Tryd.prog 23 #[.pointer (some ⟨p, 0, none⟩)] w fun e w' => e = .returned (.int .i64 (h : Int)) ∧ w' = w := lMaxE (L1 := []) s
theorem lSizeD0 (s : St NoS w0 w (PDo p lim list (some (h, l)) :: L2)) (z : Nat) (hz : szs l = z) : Calls Tryd.prog 21 #[.pointer (some ⟨p, 0, none⟩)] w fun e w' => e = .returned (.int .i64 (z : Int)) ∧ w' = w := lSizeD (L1 := []) s z hz
theorem lMaxD0 (s : St NoS w0 w (PDo p lim list (some (h, l)) :: L2)) : Calls Tryd.prog 23 #[.pointer (some ⟨p, 0, none⟩)] w fun e w' => e = .returned (.int .i64 (h : Int)) ∧ w' = w := lMaxD (L1 := []) s
theorem lEncode1 (s : St NoS w0 w (O0 :: PEo p h l pd :: L2)) (hC : Cnt w0) (hO : FSo base A0 c0 n0 fs ∈ [O0] ++ L2) (hlen : fs.length = n0) (hn0 : n0 ≤ 1073741824) (hfs : ∀ f ∈ fs, f.n.size ≤ 16777216 ∧ f.v.size ≤ 16777216) (Lb : List UInt8) (h' : Nat) (l' : List Fld) (hE : blockE statL h l pd fs = (Lb, h', l')) (N : Nat) (hN : Lb.length = N) (hN2 : N ≤ 1073741824) :
    Calls Tryd.prog 18 #[.pointer (some ⟨p, 0, none⟩), .slice A0 n0 c0] w fun e w' => ∃ A c, e = .returned (.slice A N c) ∧ St NoS w0 w' (O0 :: PEo p h' l' none :: (L2 ++ [BSo w0.heap.size A c N Lb])) := lEncode (L1 := [O0]) s hC hO hlen hn0 hfs Lb h' l' hE N hN hN2
theorem lDecode1 (s : St NoS w0 w (O0 :: PDo p lim list st :: L2)) (hC : Cnt w0) (hO : BSo base A0 c0 n0 xs ∈ [O0] ++ L2) (hlen : n0 ≤ 1048576) (fs : List Fld) (er : Int) (st' : Option (Nat × List Fld)) (hR : decR lim list st xs = (fs, er, st')) (m : Nat) (hm : fs.length = m) :
    Calls Tryd.prog 29 #[.pointer (some ⟨p, 0, none⟩), .slice A0 n0 c0] w fun e w' => ∃ A c, e = .returned (.tuple #[.slice A m c, .int .i64 er]) ∧ St NoS w0 w' (O0 :: PDo p lim list st' :: (L2 ++ [FSo w0.heap.size A c m fs])) := by
  refine (lDecode (L1 := [O0]) s hC hO hlen _ hR).mono ?_
  rintro e w' ⟨A, n, c, rfl, hn, s'⟩
  obtain rfl : n = m := hn.symm.trans hm
  exact ⟨A, c, rfl, s'⟩
theorem lDecodeIn1 (s : St NoS w0 w (O0 :: PDo p lim list st :: L2)) (hC : Cnt w0) (hr : Rd w0 1 A0 n0 (xs.map BV)) (hnc : n0 ≤ c0) (hcm : c0 ≤ 9223372036854775807) (hlen : n0 ≤ 1048576) (fs : List Fld) (er : Int) (st' : Option (Nat × List Fld)) (hR : decR lim list st xs = (fs, er, st')) (m : Nat) (hm : fs.length = m) :
    Calls Tryd.prog 29 #[.pointer (some ⟨p, 0, none⟩), .slice A0 n0 c0] w fun e w' => ∃ A c, e = .returned (.tuple #[.slice A m c, .int .i64 er]) ∧ St NoS w0 w' (O0 :: PDo p lim list st' :: (L2 ++ [FSo w0.heap.size A c m fs])) := by
  refine (lDecodeIn (L1 := [O0]) s hC hr hnc hcm hlen _ hR).mono ?_
  rintro e w' ⟨A, n, c, rfl, hn, s'⟩
  obtain rfl : n = m := hn.symm.trans hm
  exact ⟨A, c, rfl, s'⟩
theorem lDecodeLit1 (s : St NoS w0 w (O0 :: PDo p lim list st :: L2)) (hC : Cnt w0) (zs : List UInt8) (n : Nat) (hn : zs.length = n) (hm : n ≤ 1000) (cs : Array Value) (hcs : cs = (zs.map BV).toArray) (fz : Nat × Nat) (fs : List Fld) (er : Int) (st' : Option (Nat × List Fld)) (hR : decR lim list st zs = (fs, er, st')) (m : Nat) (hmm : fs.length = m) :
    Calls Tryd.prog 29 #[.pointer (some ⟨p, 0, none⟩), .slice (some ⟨w.heap.size, 0, none⟩) n n] (w.alloc (.cells cs 5 fz)) fun e w' => ∃ A c, e = .returned (.tuple #[.slice A m c, .int .i64 er]) ∧ St NoS w0 w' (O0 :: PDo p lim list st' :: (L2 ++ [FSo w0.heap.size A c m fs])) := lDecodeLit (L1 := [O0]) s hC zs n hn hm cs hcs fz fs er st' hR m hmm
theorem lSetMaxE1 (s : St NoS w0 w (O0 :: PEo p h l pd :: L2)) (x : Int) (hx : i64 x) (n : Nat) (hn : clampI x = n) : Calls Tryd.prog 15 #[.pointer (some ⟨p, 0, none⟩), .int .i64 x] w fun e w' => e = .returned (.tuple #[]) ∧ St NoS w0 w' (O0 :: PEo p h l (tell n pd) :: L2) := lSetMaxE (L1 := [O0]) s x hx n hn
theorem lSetMaxD1 (s : St NoS w0 w (O0 :: PDo p lim list st :: L2)) (x : Int) (hx : i64 x) (n : Nat) (hn : clampI x = n) : Calls Tryd.prog 27 #[.pointer (some ⟨p, 0, none⟩), .int .i64 x] w fun e w' => e = .returned (.tuple #[]) ∧ St NoS w0 w' (O0 :: PDo p n list st :: L2) := lSetMaxD (L1 := [O0]) s x hx n hn
theorem lSizeE1 (s : St NoS w0 w (O0 :: PEo p h l pd :: L2)) (z : Nat) (hz : szs l = z) : Calls Tryd.prog 21 #[.pointer (some ⟨p, 0, none⟩)] w fun e w' => e = .returned (.int .i64 (z : Int)) ∧ w' = w := lSizeE (L1 := [O0]) s z hz
theorem lMaxE1 (s : St NoS w0 w (O0 :: PEo p h l pd :: L2)) : Calls Tryd.prog 23 #[.pointer (some ⟨p, 0, none⟩)] w fun e w' => e = .returned (.int .i64 (h : Int)) ∧ w' = w := lMaxE (L1 := [O0]) s
theorem lSizeD1 (s : St NoS w0 w (O0 :: PDo p lim list (some (h, l)) :: L2)) (z : Nat) (hz : szs l = z) : Calls Tryd.prog 21 #[.pointer (some ⟨p, 0, none⟩)] w fun e w' => e = .returned (.int .i64 (z : Int)) ∧ w' = w := lSizeD (L1 := [O0]) s z hz
theorem lMaxD1 (s : St NoS w0 w (O0 :: PDo p lim list (some (h, l)) :: L2)) : Calls Tryd.prog 23 #[.pointer (some ⟨p, 0, none⟩)] w fun e w' => e = .returned (.int .i64 (h : Int)) ∧ w' = w := lMaxD (L1 := [O0]) s
theorem lEncode2 (s : St NoS w0 w (O0 :: O1 :: PEo p h l pd :: L2)) (hC : Cnt w0) (hO : FSo base A0 c0 n0 fs ∈ [O0, O1] ++ L2) (hlen : fs.length = n0) (hn0 : n0 ≤ 1073741824) (hfs : ∀ f ∈ fs, f.n.size ≤ 16777216 ∧ f.v.size ≤ 16777216) (Lb : List UInt8) (h' : Nat) (l' : List Fld) (hE : blockE statL h l pd fs = (Lb, h', l')) (N : Nat) (hN : Lb.length = N) (hN2 : N ≤ 1073741824) :
    Calls Tryd.prog 18 #[.pointer (some ⟨p, 0, none⟩), .slice A0 n0 c0] w fun e w' => ∃ A c, e = .returned (.slice A N c) ∧ St NoS w0 w' (O0 :: O1 :: PEo p h' l' none :: (L2 ++ [BSo w0.heap.size A c N Lb])) := lEncode (L1 := [O0, O1]) s hC hO hlen hn0 hfs Lb h' l' hE N hN hN2
theorem lDecode2 (s : St NoS w0 w (O0 :: O1 :: PDo p lim list st :: L2)) (hC : Cnt w0) (hO : BSo base A0 c0 n0 xs ∈ [O0, O1] ++ L2) (hlen : n0 ≤ 1048576) (fs : List Fld) (er : Int) (st' : Option (Nat × List Fld)) (hR : decR lim list st xs = (fs, er, st')) (m : Nat) (hm : fs.length = m) :
    Calls Tryd.prog 29 #[.pointer (some ⟨p, 0, none⟩), .slice A0 n0 c0] w fun e w' => ∃ A c, e = .returned (.tuple #[.slice A m c, .int .i64 er]) ∧ St NoS w0 w' (O0 :: O1 :: PDo p lim list st' :: (L2 ++ [FSo w0.heap.size A c m fs])) := by
  refine (lDecode (L1 := [O0, O1]) s hC hO hlen _ hR).mono ?_
  rintro e w' ⟨A, n, c, rfl, hn, s'⟩
  obtain rfl : n = m := hn.symm.trans hm
  exact ⟨A, c, rfl, s'⟩
theorem lDecodeIn2 (s : St NoS w0 w (O0 :: O1 :: PDo p lim list st :: L2)) (hC : Cnt w0) (hr : Rd w0 1 A0 n0 (xs.map BV)) (hnc : n0 ≤ c0) (hcm : c0 ≤ 9223372036854775807) (hlen : n0 ≤ 1048576) (fs : List Fld) (er : Int) (st' : Option (Nat × List Fld)) (hR : decR lim list st xs = (fs, er, st')) (m : Nat) (hm : fs.length = m) :
    Calls Tryd.prog 29 #[.pointer (some ⟨p, 0, none⟩), .slice A0 n0 c0] w fun e w' => ∃ A c, e = .returned (.tuple #[.slice A m c, .int .i64 er]) ∧ St NoS w0 w' (O0 :: O1 :: PDo p lim list st' :: (L2 ++ [FSo w0.heap.size A c m fs])) := by
  refine (lDecodeIn (L1 := [O0, O1]) s hC hr hnc hcm hlen _ hR).mono ?_
  rintro e w' ⟨A, n, c, rfl, hn, s'⟩
  obtain rfl : n = m := hn.symm.trans hm
  exact ⟨A, c, rfl, s'⟩
theorem lDecodeLit2 (s : St NoS w0 w (O0 :: O1 :: PDo p lim list st :: L2)) (hC : Cnt w0) (zs : List UInt8) (n : Nat) (hn : zs.length = n) (hm : n ≤ 1000) (cs : Array Value) (hcs : cs = (zs.map BV).toArray) (fz : Nat × Nat) (fs : List Fld) (er : Int) (st' : Option (Nat × List Fld)) (hR : decR lim list st zs = (fs, er, st')) (m : Nat) (hmm : fs.length = m) :
    Calls Tryd.prog 29 #[.pointer (some ⟨p, 0, none⟩), .slice (some ⟨w.heap.size, 0, none⟩) n n] (w.alloc (.cells cs 5 fz)) fun e w' => ∃ A c, e = .returned (.tuple #[.slice A m c, .int .i64 er]) ∧ St NoS w0 w' (O0 :: O1 :: PDo p lim list st' :: (L2 ++ [FSo w0.heap.size A c m fs])) := lDecodeLit (L1 := [O0, O1]) s hC zs n hn hm cs hcs fz fs er st' hR m hmm
theorem lSetMaxE2 (s : St NoS w0 w (O0 :: O1 :: PEo p h l pd :: L2)) (x : Int) (hx : i64 x) (n : Nat) (hn : clampI x = n) : Calls Tryd.prog 15 #[.pointer (some ⟨p, 0, none⟩), .int .i64 x] w fun e w' => e = .returned (.tuple #[]) ∧ St NoS w0 w' (O0 :: O1 :: PEo p h l (tell n pd) :: L2) := lSetMaxE (L1 := [O0, O1]) s x hx n hn
theorem lSetMaxD2 (s : St NoS w0 w (O0 :: O1 :: PDo p lim list st :: L2)) (x : Int) (hx : i64 x) (n : Nat) (hn : clampI x = n) : Calls Tryd.prog 27 #[.pointer (some ⟨p, 0, none⟩), .int .i64 x] w fun e w' => e = .returned (.tuple #[]) ∧ St NoS w0 w' (O0 :: O1 :: PDo p n list st :: L2) := lSetMaxD (L1 := [O0, O1]) s x hx n hn
theorem lSizeE2 (s : St NoS w0 w (O0 :: O1 :: PEo p h l pd :: L2)) (z : Nat) (hz : szs l = z) : Calls Tryd.prog 21 #[.pointer (some ⟨p, 0, none⟩)] w fun e w' => e = .returned (.int .i64 (z : Int)) ∧ w' = w := lSizeE (L1 := [O0, O1]) s z hz
theorem lMaxE2 (s : St NoS w0 w (O0 :: O1 :: PEo p h l pd :: L2)) : Calls Tryd.prog 23 #[.pointer (some ⟨p, 0, none⟩)] w fun e w' => e = .returned (.int .i64 (h : Int)) ∧ w' = w := lMaxE (L1 := [O0, O1]) s
theorem lSizeD2 (s : St NoS w0 w (O0 :: O1 :: PDo p lim list (some (h, l)) :: L2)) (z : Nat) (hz : szs l = z) : Calls Tryd.prog 21 #[.pointer (some ⟨p, 0, none⟩)] w fun e w' => e = .returned (.int .i64 (z : Int)) ∧ w' = w := lSizeD (L1 := [O0, O1]) s z hz
theorem lMaxD2 (s : St NoS w0 w (O0 :: O1 :: PDo p lim list (some (h, l)) :: L2)) : Calls Tryd.prog 23 #[.pointer (some ⟨p, 0, none⟩)] w fun e w' => e = .returned (.int .i64 (h : Int)) ∧ w' = w := lMaxD (L1 := [O0, O1]) s
theorem lEncode3 (s : St NoS w0 w (O0 :: O1 :: O2 :: PEo p h l pd :: L2)) (hC : Cnt w0) (hO : FSo base A0 c0 n0 fs ∈ [O0, O1, O2] ++ L2) (hlen : fs.length = n0) (hn0 : n0 ≤ 1073741824) (hfs : ∀ f ∈ fs, f.n.size ≤ 16777216 ∧ f.v.size ≤ 16777216) (Lb : List UInt8) (h' : Nat) (l' : List Fld) (hE : blockE statL h l pd fs = (Lb, h', l')) (N : Nat) (hN : Lb.length = N) (hN2 : N ≤ 1073741824) :
    Calls Tryd.prog 18 #[.pointer (some ⟨p, 0, none⟩), .slice A0 n0 c0] w fun e w' => ∃ A c, e = .returned (.slice A N c) ∧ St NoS w0 w' (O0 :: O1 :: O2 :: PEo p h' l' none :: (L2 ++ [BSo w0.heap.size A c N Lb])) := lEncode (L1 := [O0, O1, O2]) s hC hO hlen hn0 hfs Lb h' l' hE N hN hN2
theorem lDecode3 (s : St NoS w0 w (O0 :: O1 :: O2 :: PDo p lim list st :: L2)) (hC : Cnt w0) (hO : BSo base A0 c0 n0 xs ∈ [O0, O1, O2] ++ L2) (hlen : n0 ≤ 1048576) (fs : List Fld) (er : Int) (st' : Option (Nat × List Fld)) (hR : decR lim list st xs = (fs, er, st')) (m : Nat) (hm : fs.length = m) :
    Calls Tryd.prog 29 #[.pointer (some ⟨p, 0, none⟩), .slice A0 n0 c0] w fun e w' => ∃ A c, e = .returned (.tuple #[.slice A m c, .int .i64 er]) ∧ St NoS w0 w' (O0 :: O1 :: O2 :: PDo p lim list st' :: (L2 ++ [FSo w0.heap.size A c m fs])) := by
  refine (lDecode (L1 := [O0, O1, O2]) s hC hO hlen _ hR).mono ?_
  rintro e w' ⟨A, n, c, rfl, hn, s'⟩
  obtain rfl : n = m := hn.symm.trans hm
  exact ⟨A, c, rfl, s'⟩
theorem lDecodeIn3 (s : St NoS w0 w (O0 :: O1 :: O2 :: PDo p lim list st :: L2)) (hC : Cnt w0) (hr : Rd w0 1 A0 n0 (xs.map BV)) (hnc : n0 ≤ c0) (hcm : c0 ≤ 9223372036854775807) (hlen : n0 ≤ 1048576) (fs : List Fld) (er : Int) (st' : Option (Nat × List Fld)) (hR : decR lim list st xs = (fs, er, st')) (m : Nat) (hm : fs.length = m) :
    Calls Tryd.prog 29 #[.pointer (some ⟨p, 0, none⟩), .slice A0 n0 c0] w fun e w' => ∃ A c, e = .returned (.tuple #[.slice A m c, .int .i64 er]) ∧ St NoS w0 w' (O0 :: O1 :: O2 :: PDo p lim list st' :: (L2 ++ [FSo w0.heap.size A c m fs])) := by
  refine (lDecodeIn (L1 := [O0, O1, O2]) s hC hr hnc hcm hlen _ hR).mono ?_
  rintro e w' ⟨A, n, c, rfl, hn, s'⟩
  obtain rfl : n = m := hn.symm.trans hm
  exact ⟨A, c, rfl, s'⟩
theorem lDecodeLit3 (s : St NoS w0 w (O0 :: O1 :: O2 :: PDo p lim list st :: L2)) (hC : Cnt w0) (zs : List UInt8) (n : Nat) (hn : zs.length = n) (hm : n ≤ 1000) (cs : Array Value) (hcs : cs = (zs.map BV).toArray) (fz : Nat × Nat) (fs : List Fld) (er : Int) (st' : Option (Nat × List Fld)) (hR : decR lim list st zs = (fs, er, st')) (m : Nat) (hmm : fs.length = m) :
    Calls Tryd.prog 29 #[.pointer (some ⟨p, 0, none⟩), .slice (some ⟨w.heap.size, 0, none⟩) n n] (w.alloc (.cells cs 5 fz)) fun e w' => ∃ A c, e = .returned (.tuple #[.slice A m c, .int .i64 er]) ∧ St NoS w0 w' (O0 :: O1 :: O2 :: PDo p lim list st' :: (L2 ++ [FSo w0.heap.size A c m fs])) := lDecodeLit (L1 := [O0, O1, O2]) s hC zs n hn hm cs hcs fz fs er st' hR m hmm
theorem lSetMaxE3 (s : St NoS w0 w (O0 :: O1 :: O2 :: PEo p h l pd :: L2)) (x : Int) (hx : i64 x) (n : Nat) (hn : clampI x = n) : Calls Tryd.prog 15 #[.pointer (some ⟨p, 0, none⟩), .int .i64 x] w fun e w' => e = .returned (.tuple #[]) ∧ St NoS w0 w' (O0 :: O1 :: O2 :: PEo p h l (tell n pd) :: L2) := lSetMaxE (L1 := [O0, O1, O2]) s x hx n hn
theorem lSetMaxD3 (s : St NoS w0 w (O0 :: O1 :: O2 :: PDo p lim list st :: L2)) (x : Int) (hx : i64 x) (n : Nat) (hn : clampI x = n) : Calls Tryd.prog 27 #[.pointer (some ⟨p, 0, none⟩), .int .i64 x] w fun e w' => e = .returned (.tuple #[]) ∧ St NoS w0 w' (O0 :: O1 :: O2 :: PDo p n list st :: L2) := lSetMaxD (L1 := [O0, O1, O2]) s x hx n hn
theorem lSizeE3 (s : St NoS w0 w (O0 :: O1 :: O2 :: PEo p h l pd :: L2)) (z : Nat) (hz : szs l = z) : Calls Tryd.prog 21 #[.pointer (some ⟨p, 0, none⟩)] w fun e w' => e = .returned (.int .i64 (z : Int)) ∧ w' = w := lSizeE (L1 := [O0, O1, O2]) s z hz
theorem lMaxE3 (s : St NoS w0 w (O0 :: O1 :: O2 :: PEo p h l pd :: L2)) : Calls Tryd.prog 23 #[.pointer (some ⟨p, 0, none⟩)] w fun e w' => e = .returned (.int .i64 (h : Int)) ∧ w' = w := lMaxE (L1 := [O0, O1, O2]) s
theorem lSizeD3 (s : St NoS w0 w (O0 :: O1 :: O2 :: PDo p lim list (some (h, l)) :: L2)) (z : Nat) (hz : szs l = z) : Calls Tryd.prog 21 #[.pointer (some ⟨p, 0, none⟩)] w fun e w' => e = .returned (.int .i64 (z : Int)) ∧ w' = w := lSizeD (L1 := [O0, O1, O2]) s z hz
theorem lMaxD3 (s : St NoS w0 w (O0 :: O1 :: O2 :: PDo p lim list (some (h, l)) :: L2)) : Calls Tryd.prog 23 #[.pointer (some ⟨p, 0, none⟩)] w fun e w' => e = .returned (.int .i64 (h : Int)) ∧ w' = w := lMaxD (L1 := [O0, O1, O2]) s
end
end Go.Proofs.YtinieljgcenemaaDoor
namespace Go.Proofs.YtinieljgcenemaaDoor
open Go.RowKit Go.Own Go.Tbl Go.Huf Go.Hin
set_option linter.unusedVariables false
set_option maxRecDepth 100000
attribute [local go_sem ↓] Go.wp_at_zero Go.wp_at_succ

abbrev fGet : Fld := ⟨⟨#[58, 109, 101, 116, 104, 111, 100]⟩, ⟨#[71, 69, 84]⟩, false⟩
abbrev fPut : Fld := ⟨⟨#[58, 109, 101, 116, 104, 111, 100]⟩, ⟨#[80, 85, 84]⟩, false⟩
theorem sh5_f1 : findF (statL ++ []) fGet = (2, true) := by kernel_rfl
theorem sh5_f2 : findF (statL ++ []) fPut = (2, false) := by kernel_rfl
theorem sh5_f3 : findF (statL ++ [fPut]) fPut = (62, true) := by kernel_rfl
theorem sh5_p1 : putB (2 ^ 7 - 1) (topOf 128 7) 2 = [130] := by simp [putB, topOf]
theorem sh5_p2 : putB (2 ^ 6 - 1) (topOf 64 6) 2 = [66] := by simp [putB, topOf]
theorem sh5_p3 : putB (2 ^ 7 - 1) (topOf 128 7) 62 = [190] := by simp [putB, topOf]
theorem sh5_p4 : putB (2 ^ 7 - 1) (topOf 0 7) 3 = [3] := by simp [putB, topOf]
theorem sh5_e : (enc [80, 85, 84]).length = 21 := by kernel_rfl
theorem sh5_t : txt ⟨#[80, 85, 84]⟩ = [3, 80, 85, 84] := by
  have h := (packT_pk [80, 85, 84]).len
  rw [sh5_e] at h
  have h3 : (packT [80, 85, 84]).length = 3 := by omega
  show putT [80, 85, 84] (packT [80, 85, 84]) = _
  rw [putT, h3, if_neg (by decide)]
  show putB (2 ^ 7 - 1) (topOf 0 7) 3 ++ _ = _
  rw [sh5_p4]
  rfl
theorem sh5_o1 : oneE statL 4096 [] fGet = ([130], []) := by
  rw [oneE, if_neg (by decide), sh5_f1, if_pos rfl, sh5_p1]
theorem sh5_o2 : oneE statL 4096 [] fPut = ([66, 3, 80, 85, 84], [fPut]) := by
  rw [oneE, if_neg (by decide), sh5_f2, if_neg (by decide), if_neg (by decide)]
  have e : litB 64 6 2 fPut = [66, 3, 80, 85, 84] := by
    rw [litB, sh5_p2, if_neg (by decide)]
    show [66] ++ ([] ++ txt ⟨#[80, 85, 84]⟩) = _
    rw [sh5_t]
    rfl
  rw [e]
  rfl
theorem sh5_o3 : oneE statL 4096 [fPut] fPut = ([190], [fPut]) := by
  rw [oneE, if_neg (by decide), sh5_f3, if_pos rfl, sh5_p3]
theorem sh5_b1 : blockE statL 4096 [] none [fGet] = ([130], 4096, []) := by
  simp only [blockE, updsE, manyE, sh5_o1, List.append_nil, List.nil_append]
theorem sh5_b2 : blockE statL 4096 [] none [fPut] = ([66, 3, 80, 85, 84], 4096, [fPut]) := by
  simp only [blockE, updsE, manyE, sh5_o2, List.append_nil, List.nil_append]
theorem sh5_b3 : blockE statL 4096 [fPut] none [fPut] = ([190], 4096, [fPut]) := by
  simp only [blockE, updsE, manyE, sh5_o3, List.append_nil, List.nil_append]
theorem sh5_d1 : decR 4096 1000 (some (4096, [])) [130] = ([fGet], 0, some (4096, [])) := by kernel_rfl
theorem sh5_d2 : decR 4096 1000 (some (4096, [])) [128] = ([], 3, none) := by kernel_rfl
theorem sh5_d3 : decR 4096 1000 none [130] = ([], 7, none) := rfl
theorem sh5_fs (f : Fld) (h : f = fGet ∨ f = fPut) : ∀ g ∈ [f], g.n.size ≤ 16777216 ∧ g.v.size ≤ 16777216 := by
  intro g hg
  rw [List.mem_singleton.1 hg]
  rcases h with rfl | rfl <;> decide
theorem sh5_c1 : (#[.int .u8 130] : Array Value) = (([130] : List UInt8).map BV).toArray := rfl
theorem sh5_c2 : (#[.int .u8 128] : Array Value) = (([128] : List UInt8).map BV).toArray := rfl
theorem cv5 {W : World} {w0 : World} {A : Option Addr} {c n : Nat} {xs : List UInt8} {B : Nat} (h : W.ownsRow B 5 1 (.slice A n c) n (xs.map BV)) (T : ByteArray) (hT : ofB xs = T) : (convert 29 9 (.slice A n c)).run Tryd.prog W = .ok (.string T) W := by
  subst hT
  exact conv_str (Rd.of_own h)
set_option maxHeartbeats 8000000 in
theorem shown5 (w : World) (hC : Cnt w) : Calls Tryd.prog 12 #[] w fun e w' => e = .returned (.bool true) ∧ Below w.heap.size w w' := by
  have HC := Lib.hid hC
  have i4096 : i64 4096 := by unfold i64; omega
  have hcs := conv_lit5
  have hm1 : ∀ (L : List Ob) (x : Ob), x ∈ L ++ [x] := fun L x => by simp
  clear hC
  go_enter Tryd.func12, Tryd.ntmps12
  go_wp2_with (first
    | (go_at_call 13; (with_reducible refine (lNewE (St.nil NoS _) 4096 i4096 4096 rfl).mono ?_); rintro e w1 ⟨p, rfl, s1⟩
       have S1 : Hid (St NoS w w1 [PEo p 4096 [] none]) := s1
       clear s1)
    | (go_at_call 25; (with_reducible refine (lNewD S1.out 4096 i4096 1000 4096 rfl).mono ?_); rintro e w2 ⟨d, rfl, s2⟩
       have S2 : Hid (St NoS w w2 [PEo p 4096 [] none, PDo d 4096 1000 (some (4096, []))]) := s2
       have S3 : Hid (St NoS w ((w2.alloc (.cells #[.string ⟨#[58, 109, 101, 116, 104, 111, 100]⟩, .string ⟨#[71, 69, 84]⟩, .bool false] 38)).alloc (.cells #[.string ⟨#[58, 109, 101, 116, 104, 111, 100]⟩, .string ⟨#[80, 85, 84]⟩, .bool false] 38)) [PEo p 4096 [] none, PDo d 4096 1000 (some (4096, [])), FSo w.heap.size (some ⟨w2.heap.size, 0, none⟩) 1 1 [fGet], FSo w.heap.size (some ⟨w2.heap.size + 1, 0, none⟩) 1 1 [fPut]]) := by
         have h := st_fld (st_fld s2 ⟨#[58, 109, 101, 116, 104, 111, 100]⟩ ⟨#[71, 69, 84]⟩ false) ⟨#[58, 109, 101, 116, 104, 111, 100]⟩ ⟨#[80, 85, 84]⟩ false
         have e : (w2.alloc (.cells #[.string ⟨#[58, 109, 101, 116, 104, 111, 100]⟩, .string ⟨#[71, 69, 84]⟩, .bool false] 38)).heap.size = w2.heap.size + 1 := by simp
         rw [e] at h
         exact h
       clear s2)
    | (go_at_call 29; (with_reducible refine (lDecodeLit1 S8.out HC.out [130] 1 rfl (by omega) _ sh5_c1 _ [] 7 none sh5_d3 0 rfl).mono ?_); rintro e w9 ⟨A9, c9, rfl, s9⟩
       have S9 := Lib.hid s9.drop6
       clear s9)
    | (go_at_call 29; (with_reducible refine (lDecodeLit1 S7.out HC.out [128] 1 rfl (by omega) _ sh5_c2 _ [] 3 none sh5_d2 0 rfl).mono ?_); rintro e w8 ⟨A8, c8, rfl, s8⟩
       have S8 : Hid (St NoS w w8 [PEo p 4096 [fPut] none, PDo d 4096 1000 none, FSo w.heap.size (some ⟨w2.heap.size, 0, none⟩) 1 1 [fGet], FSo w.heap.size (some ⟨w2.heap.size + 1, 0, none⟩) 1 1 [fPut], BSo w.heap.size A6 c6 1 [190], FSo w.heap.size A7 c7 1 [fGet]]) := Lib.hid s8.drop6
       clear s8)
    | (go_at_call 29; (with_reducible refine (lDecodeLit1 S6.out HC.out [130] 1 rfl (by omega) _ sh5_c1 _ [fGet] 0 _ sh5_d1 1 rfl).mono ?_); rintro e w7 ⟨A7, c7, rfl, s7⟩
       have S7 : Hid (St NoS w w7 [PEo p 4096 [fPut] none, PDo d 4096 1000 (some (4096, [])), FSo w.heap.size (some ⟨w2.heap.size, 0, none⟩) 1 1 [fGet], FSo w.heap.size (some ⟨w2.heap.size + 1, 0, none⟩) 1 1 [fPut], BSo w.heap.size A6 c6 1 [190], FSo w.heap.size A7 c7 1 [fGet]]) := Lib.hid s7
       clear s7)
    | (go_at_call 18; (with_reducible refine (lEncode0 (n0 := 1) S5.out HC.out (List.Mem.tail _ (List.Mem.tail _ (List.Mem.head _))) rfl (by omega) (sh5_fs _ (.inr rfl)) [190] 4096 [fPut] sh5_b3 1 rfl (by omega)).mono ?_); rintro e w6 ⟨A6, c6, rfl, s6⟩
       have q6 := cv5 (w0 := w) (s6.own5) ⟨#[190]⟩ rfl
       have S6 : Hid (St NoS w w6 [PEo p 4096 [fPut] none, PDo d 4096 1000 (some (4096, [])), FSo w.heap.size (some ⟨w2.heap.size, 0, none⟩) 1 1 [fGet], FSo w.heap.size (some ⟨w2.heap.size + 1, 0, none⟩) 1 1 [fPut], BSo w.heap.size A6 c6 1 [190]]) := Lib.hid s6.drop4
       clear s6)
    | (go_at_call 18; (with_reducible refine (lEncode0 (n0 := 1) S4.out HC.out (List.Mem.tail _ (List.Mem.tail _ (List.Mem.head _))) rfl (by omega) (sh5_fs _ (.inr rfl)) [66, 3, 80, 85, 84] 4096 [fPut] sh5_b2 5 rfl (by omega)).mono ?_); rintro e w5 ⟨A5, c5, rfl, s5⟩
       have q5 := cv5 (w0 := w) (s5.own5) ⟨#[66, 3, 80, 85, 84]⟩ rfl
       have S5 := Lib.hid s5.drop4
       clear s5)
    | (go_at_call 18; (with_reducible refine (lEncode0 (n0 := 1) S3.out HC.out (List.Mem.tail _ (List.Mem.head _)) rfl (by omega) (sh5_fs _ (.inl rfl)) [130] 4096 [] sh5_b1 1 rfl (by omega)).mono ?_); rintro e w4 ⟨A4, c4, rfl, s4⟩
       have q4 := cv5 (w0 := w) (s4.own4) ⟨#[130]⟩ rfl
       have S4 := Lib.hid s4
       clear s4))
  have S9 : Hid (St NoS w w9 [PEo p 4096 [fPut] none, PDo d 4096 1000 none, FSo w.heap.size (some ⟨w2.heap.size, 0, none⟩) 1 1 [fGet], FSo w.heap.size (some ⟨w2.heap.size + 1, 0, none⟩) 1 1 [fPut], BSo w.heap.size A6 c6 1 [190], FSo w.heap.size A7 c7 1 [fGet]]) := S9
  obtain ⟨bb, oo, hA, d0, d1, d2⟩ := rd_fld (k := 0) (f := fGet) (Rd.of_own S9.out.own5) rfl
  obtain ⟨b2, o2, hA2, e0, e1, e2⟩ := rd_fld (k := 0) (f := fGet) (Rd.of_own S9.out.own2) rfl
  cases hA2
  simp only [Nat.zero_mul, Nat.add_zero, Nat.zero_add] at d0 d1 d2 e0 e1 e2
  have HB := Lib.hid S9.out.below
  clear S1 S2 S3 S4 S5 S6 S7 S8 S9 q4 q5 q6 hcs hm1
  cases hA
  go_quiet (fail)
  go_wp2
  go_ret
  exact ⟨rfl, below_drewN HB.out nq⟩
end Go.Proofs.YtinieljgcenemaaDoor
namespace Go.Proofs.YtinieljgcenemaaDoor
open Go.RowKit Go.Own Go.Tbl Go.Huf Go.Hin
set_option linter.unusedVariables false
set_option maxRecDepth 100000
attribute [local go_sem ↓] Go.wp_at_zero Go.wp_at_succ

theorem manyE_len {h M : Nat} (hM : M ≤ 2147483647) : ∀ (fs l : List Fld), Ok statL h l → (∀ f ∈ fs, f.n.size ≤ M ∧ f.v.size ≤ M) → (manyE statL h l fs).1.length ≤ fs.length * (18 + 2 * M)
  | [], l, _, _ => by simp [manyE]
  | f :: r, l, k, hf => by
    obtain ⟨h1, h2⟩ := hf f (List.mem_cons_self ..)
    have h3 := oneE_len k (f := f) (by omega) (by omega)
    have h4 := manyE_len hM r _ (k.one f) (fun g hg => hf g (List.mem_cons_of_mem _ hg))
    rw [manyE_cons, List.length_append, List.length_cons, Nat.add_mul]
    omega
theorem updsE_len {h : Nat} {l : List Fld} {pd : Pend} (hp : ∀ a b, pd = some (a, b) → a ≤ 65536 ∧ b ≤ 65536) : (updsE h l pd).1.length ≤ 12 := by
  cases pd with
  | none => simp [updsE]
  | some z =>
    obtain ⟨a, b⟩ := z
    obtain ⟨h1, h2⟩ := hp a b rfl
    have h3 := putB_le (2 ^ 5 - 1) (topOf 32 5) a (by omega)
    have h4 := putB_le (2 ^ 5 - 1) (topOf 32 5) b (by omega)
    rw [updsE]
    split
    · rw [List.length_append]
      show (putB _ _ _).length + (putB _ _ _).length ≤ 12
      omega
    · show (putB _ _ _).length ≤ 12
      omega
theorem updsE_ok {h : Nat} {l : List Fld} {pd : Pend} (hp : ∀ a b, pd = some (a, b) → a ≤ 65536 ∧ b ≤ 65536) (k : Ok statL h l) : Ok statL (updsE h l pd).2.1 (updsE h l pd).2.2 := by
  cases pd with
  | none => exact k
  | some z =>
    obtain ⟨a, b⟩ := z
    obtain ⟨h1, h2⟩ := hp a b rfl
    rw [updsE]
    split
    · exact (k.set_ a h1).set_ b h2
    · exact k.set_ b h2
theorem blockE_len {h M : Nat} {l fs : List Fld} {pd : Pend} (hM : M ≤ 2147483647) (hp : ∀ a b, pd = some (a, b) → a ≤ 65536 ∧ b ≤ 65536) (k : Ok statL h l) (hf : ∀ f ∈ fs, f.n.size ≤ M ∧ f.v.size ≤ M) : (blockE statL h l pd fs).1.length ≤ 12 + fs.length * (18 + 2 * M) := by
  have h1 := updsE_len (h := h) (l := l) hp
  have h2 := manyE_len hM fs _ (updsE_ok hp k) hf
  rw [blockE]
  simp only [List.length_append]
  omega
theorem blockE_ok {h : Nat} {l fs : List Fld} {pd : Pend} (hp : ∀ a b, pd = some (a, b) → a ≤ 65536 ∧ b ≤ 65536) (k : Ok statL h l) : Ok statL (blockE statL h l pd fs).2.1 (blockE statL h l pd fs).2.2 :=
  Ok.many fs _ (updsE_ok hp k)
theorem small_len {fs : List Fld} {m : Nat} (h : (smallL fs).length = m) : m ≤ 20 := h ▸ smallL_len fs
theorem small_big (fs : List Fld) : ∀ f ∈ smallL fs, f.n.size ≤ 16777216 ∧ f.v.size ≤ 16777216 := fun f hf => by
  have := smallL_sz fs f hf
  omega
theorem ofB_cat {a b : List UInt8} {X Y Z : ByteArray} (h1 : ofB a = X) (h2 : ofB b = Y) (h3 : ofB (a ++ b) = Z) : X ++ Y = Z := by
  subst h1 h2 h3
  apply ByteArray.ext
  simp [ofB]
end Go.Proofs.YtinieljgcenemaaDoor
