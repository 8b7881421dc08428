/- The document's encoder as a thing. -/
import Derived.Test.YtinieljgcenemaaDoorH1
namespace Go.Proofs.YtinieljgcenemaaDoor
open Go.RowKit Go.Own Go.Tbl Go.Huf Go.Hin
set_option linter.unusedVariables false
set_option maxRecDepth 100000
attribute [local go_sem ↓] Go.wp_at_zero Go.wp_at_succ

/-- the document's table as a thing -/
abbrev RXo (r h : Nat) (l : List Fld) : Ob := fun w F => RX w r F h l
theorem framed_RXo (r h : Nat) (l : List Fld) : Framed (RXo r h l) := ⟨fun w F t i hi => RX.lt t i hi, fun w w' F S t hf hn => RX.fr t hf hn⟩
theorem RX.st {w w' : World} {r h' : Nat} {F F' : Nat → Prop} {l' : List Fld} (t : RX w' r F' h' l') (hF : ∀ i, F' i → F i ∨ w.heap.size ≤ i) (hf : Fr F w w') : St F w w' [RXo r h' l'] := St.changed (framed_RXo ..) t hF hf
theorem RX.hcell {w : World} {r h : Nat} {G : Nat → Prop} {l : List Fld} (t : RX w r G h l) : w.cell? ⟨r, 1, none⟩ = some (.int .i64 (h : Int)) := by
  obtain ⟨_, _, A, n, c, t, _⟩ := t
  exact t.at_.cell 1
theorem st_hcell {S : Nat → Prop} {w0 w : World} {r h : Nat} {l : List Fld} {L2 : List Ob} (s : St S w0 w (RXo r h l :: L2)) : w.cell? ⟨r, 1, none⟩ = some (.int .i64 (h : Int)) := by
  obtain ⟨F, t, _⟩ := s.focus0
  exact RX.hcell t
theorem st_hcell1 {S : Nat → Prop} {w0 w : World} {r h : Nat} {l : List Fld} {A0 : Ob} {L2 : List Ob} (s : St S w0 w (A0 :: RXo r h l :: L2)) : w.cell? ⟨r, 1, none⟩ = some (.int .i64 (h : Int)) := by
  obtain ⟨F, t, _⟩ := s.focus1
  exact RX.hcell t
/-- a slice that is nil -/
theorem st_nilS {S : Nat → Prop} {w0 w : World} {L : List Ob} (s : St S w0 w L) (e : TypeId) (size : Nat) : St S w0 w (L ++ [SLo 0 e size (.slice none 0 0) 0 []]) := by
  refine s.add (w' := w) (M := [SLo 0 e size (.slice none 0 0) 0 []]) ⟨⟨_, ⟨_, _, framed_SLo .., ⟨World.ownsRow_nil _ _ _ _, rfl⟩, rfl, fun _ _ h => h, rfl⟩, fun i hi => ?_⟩, Fr.refl _ _⟩
  rcases hi with hi | hi
  · simp [Value.ownBlock] at hi
  · exact hi.elim
abbrev IV (n : Nat) : Value := .int .i64 (n : Int)
/-- what was told, in memory -/
abbrev ISo (A : Option Addr) (c k : Nat) (cs : List Nat) : Ob := SLo 0 3 1 (.slice A k c) k (cs.map IV)
abbrev rencCells (r : Nat) (A : Option Addr) (k c : Nat) : List Value := [.pointer (some ⟨r, 0, none⟩), .slice A k c]
/-- the document's encoder -/
def REo (p h : Nat) (l : List Fld) (cs : List Nat) : Ob := fun w F => Ok statL h l ∧ (∀ n ∈ cs, n ≤ 65536) ∧ ∃ r A c k, cs.length = k ∧ star (BLo p 72 (rencCells r A k c)) (star (RXo r h l) (ISo A c k cs)) w F
theorem framed_REs (p r h : Nat) (l : List Fld) (cs : List Nat) (A : Option Addr) (c k : Nat) : Framed (star (BLo p 72 (rencCells r A k c)) (star (RXo r h l) (ISo A c k cs))) := framed_star (framed_BLo ..) (framed_star (framed_RXo ..) (framed_SLo ..))
theorem framed_REo (p h : Nat) (l : List Fld) (cs : List Nat) : Framed (REo p h l cs) := by
  refine ⟨fun w F t i hi => ?_, fun w w' F S t hf hn => ?_⟩
  · obtain ⟨_, _, r, A, c, k, _, t⟩ := t
    exact (framed_REs ..).lt _ _ t i hi
  · obtain ⟨hk, hl, r, A, c, k, hp, t⟩ := t
    exact ⟨hk, hl, r, A, c, k, hp, (framed_REs ..).fr _ _ _ _ t hf hn⟩
section
variable {S : Nat → Prop} {w0 w w' : World} {L : List Ob} {p h : Nat} {l : List Fld} {cs : List Nat} {F : Nat → Prop}
theorem re_open (s : St S w0 w (REo p h l cs :: L)) : Ok statL h l ∧ (∀ n ∈ cs, n ≤ 65536) ∧ ∃ r A c k, cs.length = k ∧ St S w0 w (BLo p 72 (rencCells r A k c) :: RXo r h l :: ISo A c k cs :: L) := by
  obtain ⟨⟨T, ⟨F, G, hO, ⟨hk, hl, r, A, c, k, hp, t⟩, hG, hd, rfl⟩, hTS⟩, hf⟩ := s
  exact ⟨hk, hl, r, A, c, k, hp, ⟨_, (sep_tail (fun T => sep_star (framed_RXo ..) (framed_SLo ..))).1 ((sep_star (framed_BLo ..) (framed_star (framed_RXo ..) (framed_SLo ..))).1 ⟨F, G, framed_REs .., t, hG, hd, rfl⟩), hTS⟩, hf⟩
theorem re_close {r : Nat} {A : Option Addr} {c k : Nat} (s : St S w0 w (BLo p 72 (rencCells r A k c) :: RXo r h l :: ISo A c k cs :: L)) (hk : Ok statL h l) (hl : ∀ n ∈ cs, n ≤ 65536) (hp : cs.length = k) : St S w0 w (REo p h l cs :: L) := by
  obtain ⟨⟨T, hT, hTS⟩, hf⟩ := s
  obtain ⟨F, G, hO, t, hG, hd, rfl⟩ := (sep_star (framed_BLo ..) (framed_star (framed_RXo ..) (framed_SLo ..))).2 ((sep_tail (fun T => sep_star (framed_RXo ..) (framed_SLo ..))).2 hT)
  exact ⟨⟨_, ⟨F, G, framed_REo .., ⟨hk, hl, r, A, c, k, hp, t⟩, hG, hd, rfl⟩, hTS⟩, hf⟩
theorem re_start (t : REo p h l cs w F) : St F w w [REo p h l cs] := St.start (framed_REo ..) t
end
set_option maxHeartbeats 1000000 in
theorem r5NewE_c (x : Int) (h : Nat) (hh : clampI x = h) (w : World) : Calls Tryd.prog 14 #[.int .i64 x] w fun e w' => ∃ p, e = .returned (.pointer (some ⟨p, 0, none⟩)) ∧ St NoS w w' [REo p h [] []] := by
  have hh2 : h ≤ 65536 := hh ▸ clampI_le x
  subst hh
  go_enter Tryd.func14, Tryd.ntmps14
  go_wp2_with (first
    | (go_at_call 36; (with_reducible refine (xrNew x _).mono ?_); rintro e w2 ⟨q, F, rfl, t, hF, hb⟩
       have S2 := Lib.hid (St.made (framed_RXo ..) t hF hb)
       clear t hF hb))
  go_ret
  refine ⟨_, rfl, ?_⟩
  have s := st_nilS (S2.out.block 72 (rencCells q none 0 0)).perm2 3 1
  exact re_close (cs := []) s (ok_new _ hh2) (fun n hn => by cases hn) rfl
end Go.Proofs.YtinieljgcenemaaDoor
