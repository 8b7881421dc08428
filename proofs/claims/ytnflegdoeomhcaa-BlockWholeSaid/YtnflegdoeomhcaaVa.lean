/- Stage 12: an assembler in memory; frames as values; what is stored. -/
import Derived.Test.YtnflegdoeomhcaaSt
import Derived.Test.YtnflegdoeomhcaaShape
import Derived.Test.YtnflegdoeomhcaaFrm
import Derived.Test.YtnflegdoeomhcaaRows
import Derived.ProofKit
import Derived.BigQuiet
import Derived.Deep.LoopGhost
import Derived.Deep.RegionHeld
namespace Go.Proofs.Ytnflegdoeomhcaa
open Go.RowKit Go.Own Go.Frm
set_option linter.unusedVariables false
set_option linter.unusedSimpArgs false
set_option maxRecDepth 100000

/-- a frame's cells -/
abbrev frC (f : Fm) (pv lv : Value) : List Value := [.int .i64 f.kind, .int .i64 f.stream, .bool f.fin, .bool f.eh, .bool f.ack, .bool f.prio, pv, .int .i64 f.flags, .int .i64 f.pad, .int .i64 f.depend, .bool f.excl, .int .i64 f.weight, .int .u32 (f.code : Int), lv, .int .i64 f.last, .int .i64 f.inc]
abbrev frV (f : Fm) (pv lv : Value) : Value := .agg #[.int .i64 f.kind, .int .i64 f.stream, .bool f.fin, .bool f.eh, .bool f.ack, .bool f.prio, pv, .int .i64 f.flags, .int .i64 f.pad, .int .i64 f.depend, .bool f.excl, .int .i64 f.weight, .int .u32 (f.code : Int), lv, .int .i64 f.last, .int .i64 f.inc]
abbrev zero16 : List Value := [.int .i64 0, .int .i64 0, .bool false, .bool false, .bool false, .bool false, .slice none 0 0, .int .i64 0, .int .i64 0, .int .i64 0, .bool false, .int .i64 0, .int .u32 0, .slice none 0 0, .int .i64 0, .int .i64 0]
/-- an assembler: its bound, whether a block is open, the frame with which it began, how many followed, whether it is broken and how -/
structure Asm where
  most : Nat
  opn : Bool
  f : Fm
  k : Nat
  brk : Bool
  code : Nat
def Asm.idle (m : Nat) : Asm := ⟨m, false, zeroF, 0, false, 0⟩
def Asm.opened (m : Nat) (f : Fm) (k : Nat) : Asm := ⟨m, true, f, k, false, 0⟩
def Asm.broken (c : Nat) : Asm := ⟨0, false, zeroF, 0, true, c⟩
def acells (a : Asm) (pv lv : Value) : List Value := [.int .i64 (a.most : Int), .bool a.opn, .int .i64 a.f.kind, .int .i64 a.f.stream, .bool a.f.fin, .bool a.f.eh, .bool a.f.ack, .bool a.f.prio, pv, .int .i64 a.f.flags, .int .i64 a.f.pad, .int .i64 a.f.depend, .bool a.f.excl, .int .i64 a.f.weight, .int .u32 (a.f.code : Int), lv, .int .i64 a.f.last, .int .i64 a.f.inc, .int .i64 (a.k : Int), .bool a.brk, .int .u32 (a.code : Int), .int .i64 0]
def AoL (p : Nat) (a : Asm) (pv lv : Value) (L : List Ob) : List Ob := BLo p 50 (acells a pv lv) :: SLo 0 5 1 pv a.f.pay.length (a.f.pay.map BV) :: L
/-- the assembler a at block p -/
def AO (p : Nat) (a : Asm) : Ob := fun w X => ∃ pv B ll lc, Sep w (AoL p a pv (.slice B ll lc) []) X
theorem framed_AO (p : Nat) (a : Asm) : Framed (AO p a) := by
  refine ⟨fun w X h => ?_, fun w w' X S h hf hn => ?_⟩
  · obtain ⟨pv, B, ll, lc, h⟩ := h; exact Sep.lt h
  · obtain ⟨pv, B, ll, lc, h⟩ := h; exact ⟨pv, B, ll, lc, Sep.fr h hf hn⟩
section
variable {S : Nat → Prop} {w0 w : World} {L : List Ob} {p : Nat} {a : Asm}
theorem ao_open (s : St S w0 w (AO p a :: L)) : ∃ P pc B ll lc, St S w0 w (AoL p a (.slice P a.f.pay.length pc) (.slice B ll lc) L) := by
  obtain ⟨⟨T, ⟨X, G, hO, ⟨pv, B, ll, lc, h1⟩, h2, h3, rfl⟩, hT⟩, hf⟩ := s
  have s' : St S w0 w (AoL p a pv (.slice B ll lc) L) := ⟨⟨_, Sep.mk_app h1 h2 h3, hT⟩, hf⟩
  obtain ⟨A, c, rfl, _⟩ := own_shape (St.own1 s')
  exact ⟨A, c, B, ll, lc, s'⟩
theorem ao_close {pv : Value} {B : Option Addr} {ll lc : Nat} (s : St S w0 w (AoL p a pv (.slice B ll lc) L)) : St S w0 w (AO p a :: L) := by
  obtain ⟨⟨T, h, hT⟩, hf⟩ := s
  have h' : Sep w (AoL p a pv (.slice B ll lc) [] ++ L) T := h
  obtain ⟨G, H, h1, h2, h3, rfl⟩ := Sep.app h'
  exact ⟨⟨_, ⟨G, H, framed_AO .., ⟨pv, B, ll, lc, h1⟩, h2, h3, rfl⟩, hT⟩, hf⟩
theorem see_a {pv lv : Value} (s : St S w0 w (AoL p a pv lv L)) : p < w.heap.size ∧ (∀ i, w.frozen? ⟨p, i, none⟩ = false) ∧ w.cell? ⟨p, 0, none⟩ = some (.int .i64 (a.most : Int)) ∧ w.cell? ⟨p, 1, none⟩ = some (.bool a.opn) ∧ w.cell? ⟨p, 2, none⟩ = some (.int .i64 a.f.kind) ∧ w.cell? ⟨p, 3, none⟩ = some (.int .i64 a.f.stream) ∧ w.cell? ⟨p, 4, none⟩ = some (.bool a.f.fin) ∧ w.cell? ⟨p, 5, none⟩ = some (.bool a.f.eh) ∧ w.cell? ⟨p, 6, none⟩ = some (.bool a.f.ack) ∧ w.cell? ⟨p, 7, none⟩ = some (.bool a.f.prio) ∧ w.cell? ⟨p, 8, none⟩ = some (pv) ∧ w.cell? ⟨p, 9, none⟩ = some (.int .i64 a.f.flags) ∧ w.cell? ⟨p, 10, none⟩ = some (.int .i64 a.f.pad) ∧ w.cell? ⟨p, 11, none⟩ = some (.int .i64 a.f.depend) ∧ w.cell? ⟨p, 12, none⟩ = some (.bool a.f.excl) ∧ w.cell? ⟨p, 13, none⟩ = some (.int .i64 a.f.weight) ∧ w.cell? ⟨p, 14, none⟩ = some (.int .u32 (a.f.code : Int)) ∧ w.cell? ⟨p, 15, none⟩ = some (lv) ∧ w.cell? ⟨p, 16, none⟩ = some (.int .i64 a.f.last) ∧ w.cell? ⟨p, 17, none⟩ = some (.int .i64 a.f.inc) ∧ w.cell? ⟨p, 18, none⟩ = some (.int .i64 (a.k : Int)) ∧ w.cell? ⟨p, 19, none⟩ = some (.bool a.brk) ∧ w.cell? ⟨p, 20, none⟩ = some (.int .u32 (a.code : Int)) ∧ w.cell? ⟨p, 21, none⟩ = some (.int .i64 0) := by
  have hb : Blk w p _ _ := St.blk0 s
  have c : ∀ (i : Nat) (v : Value), (acells a pv lv)[i]? = some v → w.cell? ⟨p, i, none⟩ = some v := fun i v hv => (hb.cell i).trans hv
  exact ⟨hb.lt, hb.frozen, c 0 _ rfl, c 1 _ rfl, c 2 _ rfl, c 3 _ rfl, c 4 _ rfl, c 5 _ rfl, c 6 _ rfl, c 7 _ rfl, c 8 _ rfl, c 9 _ rfl, c 10 _ rfl, c 11 _ rfl, c 12 _ rfl, c 13 _ rfl, c 14 _ rfl, c 15 _ rfl, c 16 _ rfl, c 17 _ rfl, c 18 _ rfl, c 19 _ rfl, c 20 _ rfl, c 21 _ rfl⟩
/-- a block among other things has changed whole -/
theorem St.blkTo {p : Nat} {t : TypeId} {cs cs' : List Value} {w' : World} (s : St S w0 w (BLo p t cs :: L)) (hb : Blk w' p t cs') (hf : Fr (· = p) w w') : St S w0 w' (BLo p t cs' :: L) := by
  obtain ⟨F, ⟨h, rfl⟩, _, _, go⟩ := s.focus0
  have := go w' (BLo p t cs') [] (St.changed (framed_BLo ..) ⟨hb, rfl⟩ (fun i hi => .inl hi) (hf.mono fun i _ e => e))
  rwa [List.append_nil] at this
end
theorem store22 {w : World} {g : Nat} {c0 c1 c2 c3 c4 c5 c6 c7 c8 c9 c10 c11 c12 c13 c14 c15 c16 c17 c18 c19 c20 c21 : Value} (h : Blk w g 50 [c0, c1, c2, c3, c4, c5, c6, c7, c8, c9, c10, c11, c12, c13, c14, c15, c16, c17, c18, c19, c20, c21]) (v0 v1 v2 v3 v4 v5 v6 v7 v8 v9 v10 v11 v12 v13 v14 v15 v16 v17 v18 v19 v20 v21 : Value) : Blk ((((((((((((((((((((((w.setCell ⟨g, 0, none⟩ v0).setCell ⟨g, 1, none⟩ v1).setCell ⟨g, 2, none⟩ v2).setCell ⟨g, 3, none⟩ v3).setCell ⟨g, 4, none⟩ v4).setCell ⟨g, 5, none⟩ v5).setCell ⟨g, 6, none⟩ v6).setCell ⟨g, 7, none⟩ v7).setCell ⟨g, 8, none⟩ v8).setCell ⟨g, 9, none⟩ v9).setCell ⟨g, 10, none⟩ v10).setCell ⟨g, 11, none⟩ v11).setCell ⟨g, 12, none⟩ v12).setCell ⟨g, 13, none⟩ v13).setCell ⟨g, 14, none⟩ v14).setCell ⟨g, 15, none⟩ v15).setCell ⟨g, 16, none⟩ v16).setCell ⟨g, 17, none⟩ v17).setCell ⟨g, 18, none⟩ v18).setCell ⟨g, 19, none⟩ v19).setCell ⟨g, 20, none⟩ v20).setCell ⟨g, 21, none⟩ v21) g 50 [v0, v1, v2, v3, v4, v5, v6, v7, v8, v9, v10, v11, v12, v13, v14, v15, v16, v17, v18, v19, v20, v21] ∧ Fr (· = g) w ((((((((((((((((((((((w.setCell ⟨g, 0, none⟩ v0).setCell ⟨g, 1, none⟩ v1).setCell ⟨g, 2, none⟩ v2).setCell ⟨g, 3, none⟩ v3).setCell ⟨g, 4, none⟩ v4).setCell ⟨g, 5, none⟩ v5).setCell ⟨g, 6, none⟩ v6).setCell ⟨g, 7, none⟩ v7).setCell ⟨g, 8, none⟩ v8).setCell ⟨g, 9, none⟩ v9).setCell ⟨g, 10, none⟩ v10).setCell ⟨g, 11, none⟩ v11).setCell ⟨g, 12, none⟩ v12).setCell ⟨g, 13, none⟩ v13).setCell ⟨g, 14, none⟩ v14).setCell ⟨g, 15, none⟩ v15).setCell ⟨g, 16, none⟩ v16).setCell ⟨g, 17, none⟩ v17).setCell ⟨g, 18, none⟩ v18).setCell ⟨g, 19, none⟩ v19).setCell ⟨g, 20, none⟩ v20).setCell ⟨g, 21, none⟩ v21) :=
  ⟨by have h0 := ((((((((((((((((((((((h.set_ 0 v0).set_ 1 v1).set_ 2 v2).set_ 3 v3).set_ 4 v4).set_ 5 v5).set_ 6 v6).set_ 7 v7).set_ 8 v8).set_ 9 v9).set_ 10 v10).set_ 11 v11).set_ 12 v12).set_ 13 v13).set_ 14 v14).set_ 15 v15).set_ 16 v16).set_ 17 v17).set_ 18 v18).set_ 19 v19).set_ 20 v20).set_ 21 v21); simp only [List.set_cons_zero, List.set_cons_succ] at h0; exact h0, (Fr.setCell (S := (· = g)) (Fr.setCell (S := (· = g)) (Fr.setCell (S := (· = g)) (Fr.setCell (S := (· = g)) (Fr.setCell (S := (· = g)) (Fr.setCell (S := (· = g)) (Fr.setCell (S := (· = g)) (Fr.setCell (S := (· = g)) (Fr.setCell (S := (· = g)) (Fr.setCell (S := (· = g)) (Fr.setCell (S := (· = g)) (Fr.setCell (S := (· = g)) (Fr.setCell (S := (· = g)) (Fr.setCell (S := (· = g)) (Fr.setCell (S := (· = g)) (Fr.setCell (S := (· = g)) (Fr.setCell (S := (· = g)) (Fr.setCell (S := (· = g)) (Fr.setCell (S := (· = g)) (Fr.setCell (S := (· = g)) (Fr.setCell (S := (· = g)) (Fr.setCell (S := (· = g)) (Fr.refl (· = g) w) (p := ⟨g, 0, none⟩) (.inl rfl) v0) (p := ⟨g, 1, none⟩) (.inl rfl) v1) (p := ⟨g, 2, none⟩) (.inl rfl) v2) (p := ⟨g, 3, none⟩) (.inl rfl) v3) (p := ⟨g, 4, none⟩) (.inl rfl) v4) (p := ⟨g, 5, none⟩) (.inl rfl) v5) (p := ⟨g, 6, none⟩) (.inl rfl) v6) (p := ⟨g, 7, none⟩) (.inl rfl) v7) (p := ⟨g, 8, none⟩) (.inl rfl) v8) (p := ⟨g, 9, none⟩) (.inl rfl) v9) (p := ⟨g, 10, none⟩) (.inl rfl) v10) (p := ⟨g, 11, none⟩) (.inl rfl) v11) (p := ⟨g, 12, none⟩) (.inl rfl) v12) (p := ⟨g, 13, none⟩) (.inl rfl) v13) (p := ⟨g, 14, none⟩) (.inl rfl) v14) (p := ⟨g, 15, none⟩) (.inl rfl) v15) (p := ⟨g, 16, none⟩) (.inl rfl) v16) (p := ⟨g, 17, none⟩) (.inl rfl) v17) (p := ⟨g, 18, none⟩) (.inl rfl) v18) (p := ⟨g, 19, none⟩) (.inl rfl) v19) (p := ⟨g, 20, none⟩) (.inl rfl) v20) (p := ⟨g, 21, none⟩) (.inl rfl) v21)⟩
theorem store16 {w : World} {g : Nat} {c0 c1 c2 c3 c4 c5 c6 c7 c8 c9 c10 c11 c12 c13 c14 c15 : Value} (h : Blk w g 32 [c0, c1, c2, c3, c4, c5, c6, c7, c8, c9, c10, c11, c12, c13, c14, c15]) (v0 v1 v2 v3 v4 v5 v6 v7 v8 v9 v10 v11 v12 v13 v14 v15 : Value) : Blk ((((((((((((((((w.setCell ⟨g, 0, none⟩ v0).setCell ⟨g, 1, none⟩ v1).setCell ⟨g, 2, none⟩ v2).setCell ⟨g, 3, none⟩ v3).setCell ⟨g, 4, none⟩ v4).setCell ⟨g, 5, none⟩ v5).setCell ⟨g, 6, none⟩ v6).setCell ⟨g, 7, none⟩ v7).setCell ⟨g, 8, none⟩ v8).setCell ⟨g, 9, none⟩ v9).setCell ⟨g, 10, none⟩ v10).setCell ⟨g, 11, none⟩ v11).setCell ⟨g, 12, none⟩ v12).setCell ⟨g, 13, none⟩ v13).setCell ⟨g, 14, none⟩ v14).setCell ⟨g, 15, none⟩ v15) g 32 [v0, v1, v2, v3, v4, v5, v6, v7, v8, v9, v10, v11, v12, v13, v14, v15] ∧ Fr (· = g) w ((((((((((((((((w.setCell ⟨g, 0, none⟩ v0).setCell ⟨g, 1, none⟩ v1).setCell ⟨g, 2, none⟩ v2).setCell ⟨g, 3, none⟩ v3).setCell ⟨g, 4, none⟩ v4).setCell ⟨g, 5, none⟩ v5).setCell ⟨g, 6, none⟩ v6).setCell ⟨g, 7, none⟩ v7).setCell ⟨g, 8, none⟩ v8).setCell ⟨g, 9, none⟩ v9).setCell ⟨g, 10, none⟩ v10).setCell ⟨g, 11, none⟩ v11).setCell ⟨g, 12, none⟩ v12).setCell ⟨g, 13, none⟩ v13).setCell ⟨g, 14, none⟩ v14).setCell ⟨g, 15, none⟩ v15) :=
  ⟨by have h0 := ((((((((((((((((h.set_ 0 v0).set_ 1 v1).set_ 2 v2).set_ 3 v3).set_ 4 v4).set_ 5 v5).set_ 6 v6).set_ 7 v7).set_ 8 v8).set_ 9 v9).set_ 10 v10).set_ 11 v11).set_ 12 v12).set_ 13 v13).set_ 14 v14).set_ 15 v15); simp only [List.set_cons_zero, List.set_cons_succ] at h0; exact h0, (Fr.setCell (S := (· = g)) (Fr.setCell (S := (· = g)) (Fr.setCell (S := (· = g)) (Fr.setCell (S := (· = g)) (Fr.setCell (S := (· = g)) (Fr.setCell (S := (· = g)) (Fr.setCell (S := (· = g)) (Fr.setCell (S := (· = g)) (Fr.setCell (S := (· = g)) (Fr.setCell (S := (· = g)) (Fr.setCell (S := (· = g)) (Fr.setCell (S := (· = g)) (Fr.setCell (S := (· = g)) (Fr.setCell (S := (· = g)) (Fr.setCell (S := (· = g)) (Fr.setCell (S := (· = g)) (Fr.refl (· = g) w) (p := ⟨g, 0, none⟩) (.inl rfl) v0) (p := ⟨g, 1, none⟩) (.inl rfl) v1) (p := ⟨g, 2, none⟩) (.inl rfl) v2) (p := ⟨g, 3, none⟩) (.inl rfl) v3) (p := ⟨g, 4, none⟩) (.inl rfl) v4) (p := ⟨g, 5, none⟩) (.inl rfl) v5) (p := ⟨g, 6, none⟩) (.inl rfl) v6) (p := ⟨g, 7, none⟩) (.inl rfl) v7) (p := ⟨g, 8, none⟩) (.inl rfl) v8) (p := ⟨g, 9, none⟩) (.inl rfl) v9) (p := ⟨g, 10, none⟩) (.inl rfl) v10) (p := ⟨g, 11, none⟩) (.inl rfl) v11) (p := ⟨g, 12, none⟩) (.inl rfl) v12) (p := ⟨g, 13, none⟩) (.inl rfl) v13) (p := ⟨g, 14, none⟩) (.inl rfl) v14) (p := ⟨g, 15, none⟩) (.inl rfl) v15)⟩
theorem store3 {w : World} {g : Nat} {a b c : Value} (h : Blk w g 34 [a, b, c]) (v0 v1 v2 : Value) : Blk (((w.setCell ⟨g, 0, none⟩ v0).setCell ⟨g, 1, none⟩ v1).setCell ⟨g, 2, none⟩ v2) g 34 [v0, v1, v2] ∧ Fr (· = g) w (((w.setCell ⟨g, 0, none⟩ v0).setCell ⟨g, 1, none⟩ v1).setCell ⟨g, 2, none⟩ v2) :=
  ⟨((h.set_ 0 v0).set_ 1 v1).set_ 2 v2, ((Fr.setCell (S := (· = g)) (Fr.refl _ _) (p := ⟨g, 0, none⟩) (.inl rfl) v0).setCell (p := ⟨g, 1, none⟩) (.inl rfl) v1).setCell (p := ⟨g, 2, none⟩) (.inl rfl) v2⟩
theorem info_frame : (Try.prog.info? 32).map (·.size) = some 16 := by kernel_rfl
theorem res_frame {fn : Func} {p : Tmp} (h : fn.results = #[.cell p 32]) {tmps : Array Value} {w : World} {g : Nat} {cs : List Value} (hl : cs.length = 16) (hp : tmps.getD p undef = .pointer (some ⟨g, 0, none⟩)) (hb : Blk w g 32 cs) : (results fn tmps).run Try.prog w = .ok (.agg cs.toArray) w :=
  results_cell_row h tmps w g 32 cs.toArray (0, 0) _ hp hb Try.underlying32 rfl (by rw [info_frame]; simp [hl])
theorem res_fbf {fn : Func} {p q r : Tmp} (h : fn.results = #[.cell p 32, .tmp r, .cell q 34]) {tmps : Array Value} {w : World} {g d : Nat} {cs : List Value} {a b c v : Value} (hl : cs.length = 16) (hp : tmps.getD p undef = .pointer (some ⟨g, 0, none⟩)) (hq : tmps.getD q undef = .pointer (some ⟨d, 0, none⟩)) (hr : tmps.getD r undef = v) (hb : Blk w g 32 cs) (hd : Blk w d 34 [a, b, c]) :
    (results fn tmps).run Try.prog w = .ok (.tuple #[.agg cs.toArray, v, .agg #[a, b, c]]) w := by
  have hp' : tmps[p]?.getD undef = .pointer (some ⟨g, 0, none⟩) := by simpa using hp
  have hq' : tmps[q]?.getD undef = .pointer (some ⟨d, 0, none⟩) := by simpa using hq
  have hr' : tmps[r]?.getD undef = v := by simpa using hr
  have h1 := run_loadVar_row (P := Try.prog) w g 32 32 cs.toArray (0, 0) _ hb Try.underlying32 rfl (by rw [info_frame]; simp [hl])
  have h2 := run_loadVar_row (P := Try.prog) w d 34 34 #[a, b, c] (0, 0) _ hd Try.underlying34 rfl (by kernel_rfl)
  simp [results, h, hp', hq', hr', asAddr, h1, h2]
/-- a frame and a fault that are made -/
theorem two_new (w : World) (cs ds : List Value) :
    St (fun _ => False) w ((w.alloc (.cells cs.toArray 32)).alloc (.cells ds.toArray 34)) [BLo w.heap.size 32 cs, BLo (w.heap.size + 1) 34 ds] := by
  have s0 := ((St.nil (fun _ => False) w).block 32 cs).block 34 ds
  have e : ∀ o, (w.alloc o).heap.size = w.heap.size + 1 := fun o => by simp
  rw [e] at s0
  exact s0
theorem cells16v {w : World} {g : Nat} {v0 v1 v2 v3 v4 v5 v6 v7 v8 v9 v10 v11 v12 v13 v14 v15 : Value} (h : Blk w g 32 [v0, v1, v2, v3, v4, v5, v6, v7, v8, v9, v10, v11, v12, v13, v14, v15]) : w.cell? ⟨g, 0, none⟩ = some v0 ∧ w.cell? ⟨g, 1, none⟩ = some v1 ∧ w.cell? ⟨g, 2, none⟩ = some v2 ∧ w.cell? ⟨g, 3, none⟩ = some v3 ∧ w.cell? ⟨g, 4, none⟩ = some v4 ∧ w.cell? ⟨g, 5, none⟩ = some v5 ∧ w.cell? ⟨g, 6, none⟩ = some v6 ∧ w.cell? ⟨g, 7, none⟩ = some v7 ∧ w.cell? ⟨g, 8, none⟩ = some v8 ∧ w.cell? ⟨g, 9, none⟩ = some v9 ∧ w.cell? ⟨g, 10, none⟩ = some v10 ∧ w.cell? ⟨g, 11, none⟩ = some v11 ∧ w.cell? ⟨g, 12, none⟩ = some v12 ∧ w.cell? ⟨g, 13, none⟩ = some v13 ∧ w.cell? ⟨g, 14, none⟩ = some v14 ∧ w.cell? ⟨g, 15, none⟩ = some v15 :=
  have c : ∀ (i : Nat) (v : Value), [v0, v1, v2, v3, v4, v5, v6, v7, v8, v9, v10, v11, v12, v13, v14, v15][i]? = some v → w.cell? ⟨g, i, none⟩ = some v := fun i v hv => (h.cell i).trans hv
  ⟨c 0 _ rfl, c 1 _ rfl, c 2 _ rfl, c 3 _ rfl, c 4 _ rfl, c 5 _ rfl, c 6 _ rfl, c 7 _ rfl, c 8 _ rfl, c 9 _ rfl, c 10 _ rfl, c 11 _ rfl, c 12 _ rfl, c 13 _ rfl, c 14 _ rfl, c 15 _ rfl⟩
theorem cells3v {w : World} {g : Nat} {v0 v1 v2 : Value} (h : Blk w g 34 [v0, v1, v2]) : w.cell? ⟨g, 0, none⟩ = some v0 ∧ w.cell? ⟨g, 1, none⟩ = some v1 ∧ w.cell? ⟨g, 2, none⟩ = some v2 := ⟨h.cell 0, h.cell 1, h.cell 2⟩
section
variable {S : Nat → Prop} {w0 w : World} {L : List Ob} {p : Nat} {a : Asm}
theorem len_c (s : St S w0 w (AO p a :: L)) : Calls Try.prog 12 #[.pointer (some ⟨p, 0, none⟩)] w fun e w' => e = .returned (.int .i64 (a.f.pay.length : Int)) ∧ w' = w := by
  obtain ⟨P, pc, B, ll, lc, s⟩ := ao_open s
  obtain ⟨hl, _, _, _, _, _, _, _, _, _, z8, _⟩ := see_a s
  clear s
  go_enter Try.func12, Try.ntmps12
  go_wp2
  go_ret
  exact ⟨rfl, rfl⟩
theorem open_c (s : St S w0 w (AO p a :: L)) : Calls Try.prog 14 #[.pointer (some ⟨p, 0, none⟩)] w fun e w' => e = .returned (.tuple #[.int .i64 a.f.stream, .bool a.opn]) ∧ ∃ n, w' = w.drewN n := by
  obtain ⟨P, pc, B, ll, lc, s⟩ := ao_open s
  obtain ⟨hl, _, _, z1, _, z3, _⟩ := see_a s
  clear s
  go_enter Try.func14, Try.ntmps14
  go_wp2
  go_quiet (fail)
  go_wp2
  go_ret2
  exact ⟨rfl, _, rfl⟩
theorem new_c {w : World} (n : Int) (m : Nat) (h : (m : Int) = max n 0) :
    Calls Try.prog 9 #[.int .i64 n] w fun e w' => ∃ p, e = .returned (.pointer (some ⟨p, 0, none⟩)) ∧ St (fun _ => False) w w' [AO p (.idle m)] := by
  have s0 : St (fun _ => False) w (w.alloc (.cells (acells (.idle m) (.slice none 0 0) (.slice none 0 0)).toArray 50)) [AO w.heap.size (.idle m)] := by
    have h1 := St.block (St.nil (fun _ => False) w) 50 (acells (.idle m) (.slice none 0 0) (.slice none 0 0))
    have h2 : St (fun _ => False) (w.alloc (.cells (acells (.idle m) (.slice none 0 0) (.slice none 0 0)).toArray 50)) (w.alloc (.cells (acells (.idle m) (.slice none 0 0) (.slice none 0 0)).toArray 50)) [SLo 0 5 1 (.slice none 0 0) 0 []] := St.made (F := fun _ => False) (framed_SLo ..) ⟨World.ownsRow_nil _ _ _ _, by funext i; simp [Value.ownBlock]⟩ (fun _ h => h.elim) (Below.refl _ _)
    exact ao_close (L := []) (h1.add h2)
  have HS := Lib.hid s0
  have hm : Hid ((m : Int) = max n 0) := h
  clear s0 h
  rcases Int.lt_or_le n 0 with h1 | h1
  · obtain rfl : m = 0 := by have := hm.out; omega
    clear hm
    go_enter Try.func9, Try.ntmps9
    go_wp2
    go_ret
    exact ⟨_, rfl, HS.out⟩
  · obtain rfl : n = (m : Int) := by have := hm.out; omega
    clear hm
    go_enter Try.func9, Try.ntmps9
    go_wp2
    go_ret
    exact ⟨_, rfl, HS.out⟩
end
end Go.Proofs.Ytnflegdoeomhcaa
