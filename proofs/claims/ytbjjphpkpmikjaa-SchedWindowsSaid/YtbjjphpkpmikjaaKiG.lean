/- Stage 11: the scheduler in memory. -/
import Derived.Test.YtbjjphpkpmikjaaKiF
import Derived.Test.YtbjjphpkpmikjaaKiE
import Derived.Test.YtbjjphpkpmikjaaShape
import Derived.Test.YtbjjphpkpmikjaaProg
import Derived.StillTailTactics
import Derived.Deep.LoopGhost
import Derived.Deep.DeepCutAuto
import Derived.Deep.CutBlock
import Derived.BigQuiet
import Derived.Deep.RegionHeld
namespace Go.Own
open Go.RowKit
set_option linter.unusedVariables false
set_option linter.unusedSimpArgs false
set_option maxRecDepth 100000
/-- many things as one -/
def many (l : List Ob) : Ob := fun w F => Sep w l F
theorem framed_many (l : List Ob) : Framed (many l) := ⟨fun w F h => Sep.lt h, fun w w' F S h hf hn => Sep.fr h hf hn⟩
theorem sep_many {w : World} {l L : List Ob} {T : Nat → Prop} : Sep w (many l :: L) T ↔ Sep w (l ++ L) T := by
  constructor
  · rintro ⟨F, G, _, h1, h2, h3, rfl⟩
    exact Sep.mk_app h1 h2 h3
  · intro h
    obtain ⟨G, H, h1, h2, h3, rfl⟩ := Sep.app h
    exact ⟨G, H, framed_many _, h1, h2, h3, rfl⟩
theorem st_many {S : Nat → Prop} {w0 w : World} {l L : List Ob} : St S w0 w (many l :: L) ↔ St S w0 w (l ++ L) := by
  constructor
  · rintro ⟨⟨T, h, hT⟩, hf⟩; exact ⟨⟨T, sep_many.1 h, hT⟩, hf⟩
  · rintro ⟨⟨T, h, hT⟩, hf⟩; exact ⟨⟨T, sep_many.2 h, hT⟩, hf⟩
theorem sep_swap {w : World} {L1 L2 M : List Ob} {T : Nat → Prop} (h : Sep w (L1 ++ L2 ++ M) T) : Sep w (L2 ++ L1 ++ M) T := by
  rw [List.append_assoc] at h ⊢
  obtain ⟨A, T1, h1, h2, h3, rfl⟩ := Sep.app h
  obtain ⟨B, C, h4, h5, h6, rfl⟩ := Sep.app h2
  have := Sep.mk_app h4 (Sep.mk_app h1 h5 (fun i hi hn => h3 i hi (.inr hn))) (fun i hi hn => by
    rcases hn with hn | hn
    · exact h3 i hn (.inl hi)
    · exact h6 i hi hn)
  have e : (fun i => B i ∨ (A i ∨ C i)) = fun i => A i ∨ (B i ∨ C i) := by funext i; simp only [or_left_comm]
  rw [e] at this
  exact this
theorem St.swap {S : Nat → Prop} {w0 w : World} {L1 L2 M : List Ob} (s : St S w0 w (L1 ++ L2 ++ M)) : St S w0 w (L2 ++ L1 ++ M) := by
  obtain ⟨⟨T, h, hT⟩, hf⟩ := s
  exact ⟨⟨T, sep_swap h, hT⟩, hf⟩
/-- a thing goes to the end -/
theorem St.toEnd {S : Nat → Prop} {w0 w : World} {L1 L2 : List Ob} {O : Ob} (s : St S w0 w (L1 ++ O :: L2)) : St S w0 w (L1 ++ (L2 ++ [O])) := by
  have h1 : St S w0 w ([O] ++ L1 ++ L2) := by
    have := St.swap (L1 := L1) (L2 := [O]) (M := L2) (by simpa using s)
    exact this
  have h2 : St S w0 w ([O] ++ (L1 ++ L2) ++ []) := by simpa using h1
  have h3 := St.swap h2
  simpa using h3
/-- a cell of a queue's element is set -/
theorem Qu.set {e : TypeId} {k n : Nat} {w : World} {F : Nat → Prop} {xs : List Value} {g o c : Nat} (h : Qu e k w (.slice (some ⟨g, o, none⟩) n c) F n xs) (j : Nat) (hj : j < xs.length) (u : Value) (hu : u.oneCell' = true) :
    Qu e k (w.setCell ⟨g, o + j, none⟩ u) (.slice (some ⟨g, o, none⟩) n c) F n (xs.set j u) ∧ Fr F w (w.setCell ⟨g, o + j, none⟩ u) := by
  obtain ⟨cur, h2, h3, h4, h5, h6, h7, h8, rfl⟩ := h.blk
  refine ⟨.inr ⟨g, o, c, cur.set (o + j) u, rfl, h2.set_ _ _, h3, by rw [List.length_set]; exact h4, h5, ?_, by rw [List.length_set, h7], ?_, rfl⟩, Fr.setCell (S := fun i => i = g) (p := ⟨g, o + j, none⟩) (Fr.refl _ w) (.inl rfl) _⟩
  · rw [List.length_set, List.drop_set, if_neg (by omega), show o + j - o = j by omega, List.take_set, h6]
  · intro v hv
    rcases List.mem_or_eq_of_mem_set hv with hv | rfl
    · exact h8 v hv
    · exact hu
/-- the cells of a queue are there -/
theorem Qu.at_ {e : TypeId} {k n : Nat} {w : World} {F : Nat → Prop} {xs : List Value} {g o c : Nat} (h : Qu e k w (.slice (some ⟨g, o, none⟩) n c) F n xs) {j : Nat} {u : Value} (hu : xs[j]? = some u) : w.cell? ⟨g, o + j, none⟩ = some u ∧ g < w.heap.size := by
  obtain ⟨cur, h2, h3, h4, h5, h6, h7, h8, rfl⟩ := h.blk
  refine ⟨?_, h2.lt⟩
  rw [h2.cell, ← hu]
  have hj : j < xs.length := (List.getElem?_eq_some_iff.1 hu).1
  conv => rhs; rw [← h6]
  rw [List.getElem?_take, List.getElem?_drop, if_pos hj]
theorem Qu.frozen {e : TypeId} {k n : Nat} {w : World} {F : Nat → Prop} {xs : List Value} {g o c : Nat} (h : Qu e k w (.slice (some ⟨g, o, none⟩) n c) F n xs) (j : Nat) : w.frozen? ⟨g, j, none⟩ = false := by
  obtain ⟨cur, h2, _⟩ := h.blk
  exact h2.frozen j
end Go.Own
namespace Go.Proofs.Ytbjjphpkpmikjaa
open Go.RowKit Go.Own Go.Sch
set_option linter.unusedVariables false
set_option linter.unusedSimpArgs false
set_option maxRecDepth 100000
def fcell (f : Fl) : List Value := [.int .i64 (f.id : Int), .int .i64 f.win, .int .i64 (f.wait : Int), .bool f.en]
def fcellsQ (q : List Fl) : List Value := q.flatMap fcell
theorem fcellsQ_cons (f : Fl) (q : List Fl) : fcellsQ (f :: q) = fcell f ++ fcellsQ q := rfl
theorem fcellsQ_app (q r : List Fl) : fcellsQ (q ++ r) = fcellsQ q ++ fcellsQ r := by simp [fcellsQ]
theorem fcellsQ_length : ∀ q : List Fl, (fcellsQ q).length = q.length * 4
  | [] => rfl
  | f :: q => by rw [fcellsQ_cons, List.length_append, fcellsQ_length q, List.length_cons]; simp [fcell]; omega
theorem fcellsQ_one (q : List Fl) : ∀ u ∈ fcellsQ q, u.oneCell' = true := by
  intro u hu
  simp only [fcellsQ, fcell, List.mem_flatMap, List.mem_cons, List.not_mem_nil, or_false] at hu
  obtain ⟨f, _, rfl | rfl | rfl | rfl⟩ := hu <;> rfl
theorem fcellsQ_split (a b : List Fl) (f : Fl) : (fcellsQ (a ++ f :: b)).take (a.length * 4) ++ (fcellsQ (a ++ f :: b)).drop ((a.length + 1) * 4) = fcellsQ (a ++ b) := by
  have e1 : fcellsQ (a ++ f :: b) = fcellsQ a ++ (fcell f ++ fcellsQ b) := by rw [fcellsQ_app, fcellsQ_cons]
  have h1 : (fcellsQ (a ++ f :: b)).take (a.length * 4) = fcellsQ a := by rw [e1, ← fcellsQ_length, List.take_left]
  have h2 : (fcellsQ (a ++ f :: b)).drop ((a.length + 1) * 4) = fcellsQ b := by
    have e2 : (a.length + 1) * 4 = (fcellsQ a ++ fcell f).length := by rw [List.length_append, fcellsQ_length]; simp [fcell]; omega
    rw [e1, ← List.append_assoc, e2, List.drop_left]
  rw [h1, h2, fcellsQ_app]
theorem fcellsQ_at (a b : List Fl) (f : Fl) (j : Nat) (hj : j < 4) : (fcellsQ (a ++ f :: b))[a.length * 4 + j]? = (fcell f)[j]? := by
  rw [fcellsQ_app, ← fcellsQ_length, List.getElem?_append_right (by omega), Nat.add_sub_cancel_left, fcellsQ_cons, List.getElem?_append_left (by simpa [fcell] using hj)]
theorem fcellsQ_set (a b : List Fl) (f : Fl) (j : Nat) (hj : j < 4) (u : Value) : (fcellsQ (a ++ f :: b)).set (a.length * 4 + j) u = fcellsQ a ++ ((fcell f).set j u ++ fcellsQ b) := by
  rw [fcellsQ_app, ← fcellsQ_length, List.set_append_right _ _ (by omega), Nat.add_sub_cancel_left, fcellsQ_cons, List.set_append_left _ _ (by simpa [fcell] using hj)]
/-- a control frame -/
def frO (x : Value × List UInt8) : Ob := SLo 0 5 1 x.1 x.2.length (x.2.map BV)
abbrev SdM (p : Nat) (cv0 qv0 cv qv : Value) (C : List (Value × List UInt8)) (q : List Fl) (W : Int) (F : Nat) (L : List Ob) : List Ob :=
  BLo p 60 [cv0, qv0, .int .i64 W, .int .i64 (F : Int)] :: QO 33 1 cv C.length (C.map Prod.fst) :: QO 63 4 qv q.length (fcellsQ q) :: many (C.map frO) :: L
abbrev SdL (p : Nat) (cv qv : Value) (C : List (Value × List UInt8)) (q : List Fl) (W : Int) (F : Nat) (L : List Ob) : List Ob :=
  BLo p 60 [cv, qv, .int .i64 W, .int .i64 (F : Int)] :: QO 33 1 cv C.length (C.map Prod.fst) :: QO 63 4 qv q.length (fcellsQ q) :: many (C.map frO) :: L
/-- the scheduler at block p: control frames, queue, the connection's window, the greatest frame -/
def SO (p : Nat) (fs : List (List UInt8)) (q : List Fl) (W : Int) (F : Nat) : Ob := fun w X => ∃ cv qv C, C.map Prod.snd = fs ∧ Sep w (SdL p cv qv C q W F []) X
theorem framed_SO (p : Nat) (fs : List (List UInt8)) (q : List Fl) (W : Int) (F : Nat) : Framed (SO p fs q W F) := by
  refine ⟨fun w X h => ?_, fun w w' X S h hf hn => ?_⟩
  · obtain ⟨cv, qv, C, _, h⟩ := h; exact Sep.lt h
  · obtain ⟨cv, qv, C, hC, h⟩ := h; exact ⟨cv, qv, C, hC, Sep.fr h hf hn⟩
section
variable {S : Nat → Prop} {w0 w : World} {L : List Ob} {p : Nat} {fs : List (List UInt8)} {q : List Fl} {W : Int} {F : Nat} {cv qv : Value} {C : List (Value × List UInt8)}
theorem so_open (s : St S w0 w (SO p fs q W F :: L)) : ∃ cv qv C, C.map Prod.snd = fs ∧ St S w0 w (SdL p cv qv C q W F L) := by
  obtain ⟨⟨T, ⟨X, G, hO, ⟨cv, qv, C, hC, h1⟩, h2, h3, rfl⟩, hT⟩, hf⟩ := s
  exact ⟨cv, qv, C, hC, ⟨⟨_, Sep.mk_app h1 h2 h3, hT⟩, hf⟩⟩
theorem so_close (hC : C.map Prod.snd = fs) (s : St S w0 w (SdL p cv qv C q W F L)) : St S w0 w (SO p fs q W F :: L) := by
  obtain ⟨⟨T, h, hT⟩, hf⟩ := s
  have h' : Sep w (SdL p cv qv C q W F [] ++ L) T := h
  obtain ⟨G, H, h1, h2, h3, rfl⟩ := Sep.app h'
  exact ⟨⟨_, ⟨G, H, framed_SO .., ⟨cv, qv, C, hC, h1⟩, h2, h3, rfl⟩, hT⟩, hf⟩
theorem see_s (s : St S w0 w (SdL p cv qv C q W F L)) : p < w.heap.size ∧ w.cell? ⟨p, 0, none⟩ = some cv ∧ w.cell? ⟨p, 1, none⟩ = some qv ∧ w.cell? ⟨p, 2, none⟩ = some (.int .i64 W) ∧ w.cell? ⟨p, 3, none⟩ = some (.int .i64 (F : Int)) ∧ ∀ i, w.frozen? ⟨p, i, none⟩ = false := by
  have hb : Blk w p _ _ := St.blk0 s
  exact ⟨hb.lt, hb.cell 0, hb.cell 1, hb.cell 2, hb.cell 3, hb.frozen⟩
theorem see_q (s : St S w0 w (SdL p cv qv C q W F L)) : ∃ X, Qu 63 4 w qv X q.length (fcellsQ q) := by
  obtain ⟨X, h, _⟩ := St.focus2 s
  exact ⟨X, h⟩
theorem see_k (s : St S w0 w (SdL p cv qv C q W F L)) : ∃ X, Qu 33 1 w cv X C.length (C.map Prod.fst) := by
  obtain ⟨X, h, _⟩ := St.focus1 s
  exact ⟨X, h⟩
/-- one that stands in the queue: its cells -/
theorem see_f {g o c : Nat} {a b : List Fl} {f : Fl} (s : St S w0 w (SdL p cv (.slice (some ⟨g, o, none⟩) q.length c) C q W F L)) (hq : q = a ++ f :: b) :
    g < w.heap.size ∧ w.cell? ⟨g, o + a.length * 4, none⟩ = some (.int .i64 (f.id : Int)) ∧ w.cell? ⟨g, o + a.length * 4 + 1, none⟩ = some (.int .i64 f.win) ∧ w.cell? ⟨g, o + a.length * 4 + 2, none⟩ = some (.int .i64 (f.wait : Int)) ∧ w.cell? ⟨g, o + a.length * 4 + 3, none⟩ = some (.bool f.en) ∧ ∀ i, w.frozen? ⟨g, i, none⟩ = false := by
  obtain ⟨X, h⟩ := see_q s
  have at_ : ∀ j u, j < 4 → (fcell f)[j]? = some u → w.cell? ⟨g, o + a.length * 4 + j, none⟩ = some u ∧ g < w.heap.size := by
    intro j u hj hu
    have := h.at_ (j := a.length * 4 + j) (u := u) (by rw [hq, fcellsQ_at _ _ _ _ hj]; exact hu)
    rw [Nat.add_assoc]
    exact this
  exact ⟨(at_ 0 _ (by omega) rfl).2, (at_ 0 _ (by omega) rfl).1, (at_ 1 _ (by omega) rfl).1, (at_ 2 _ (by omega) rfl).1, (at_ 3 _ (by omega) rfl).1, h.frozen⟩
/-- the queue begins somewhere, if it has one -/
theorem see_v (s : St S w0 w (SdL p cv qv C q W F L)) (h0 : 0 < q.length) : ∃ g o c, qv = .slice (some ⟨g, o, none⟩) q.length c ∧ q.length ≤ c ∧ c ≤ maxLen := by
  obtain ⟨X, h⟩ := see_q s
  obtain ⟨n, hn⟩ : ∃ n, q.length = n + 1 := ⟨q.length - 1, by omega⟩
  rw [hn] at h ⊢
  obtain ⟨g, o, c, h1, h2, h3, _⟩ := Qu.nonempty h
  exact ⟨g, o, c, h1, h2, h3⟩
theorem see_n (s : St S w0 w (SdL p cv qv C q W F L)) : ∃ A c, qv = .slice A q.length c ∧ Rd w 4 A q.length (fcellsQ q) ∧ q.length ≤ c ∧ c ≤ maxLen := by
  obtain ⟨X, h⟩ := see_q s
  exact h.rd
theorem see_c (s : St S w0 w (SdL p cv qv C q W F L)) : ∃ A c, cv = .slice A C.length c ∧ Rd w 1 A C.length (C.map Prod.fst) ∧ C.length ≤ c ∧ c ≤ maxLen := by
  obtain ⟨X, h⟩ := see_k s
  exact h.rd
theorem infoS : (Try.prog.info? 63).map (fun i => (i.zero, i.size, i.bytes)) = some (some (.agg #[.int .i64 0, .int .i64 0, .int .i64 0, .bool false]), 4, 32) := by kernel_rfl
/-- a stream is put behind the queue -/
theorem append_q {cv0 qv0 : Value} (s : St S w0 w (SdM p cv0 qv0 cv qv C q W F L)) (f : Fl) {A : Option Addr} {c : Nat} (hr : Rd w 4 A 1 (fcell f)) (hb : q.length ≤ 1000000) :
    ∃ A' c' w', (Builtin.append_ #[58, 58] 58 #[qv, .slice A 1 c]).run Try.prog w = .ok (.slice A' (q.length + 1) c') w' ∧ St S w0 w' (SdM p cv0 qv0 cv (.slice A' (q.length + 1) c') C (q ++ [f]) W F L) := by
  obtain ⟨X, h, _, _, go⟩ := St.focus2 s
  have hone : ∀ u ∈ fcell f, u.oneCell' = true := fun u hu => fcellsQ_one [f] u (by simpa [fcellsQ] using hu)
  obtain ⟨A', c', w', F', hrun, h2, h3, h4⟩ := run_append_qu (ty := 58) (c := c) Try.underlying58 infoS rfl (by omega) (by intro u hu; simp [Value.cells] at hu; rcases hu with rfl | rfl | rfl | rfl <;> rfl) h hr hone (by omega) (by omega)
  refine ⟨A', c', w', hrun, ?_⟩
  have e : fcellsQ q ++ fcell f = fcellsQ (q ++ [f]) := by rw [fcellsQ_app]; simp [fcellsQ]
  rw [e] at h2
  have := go w' (QO 63 4 (.slice A' (q.length + 1) c') (q ++ [f]).length (fcellsQ (q ++ [f]))) [] (St.changed (framed_QO ..) (by rw [List.length_append]; exact h2) h4 h3)
  rwa [List.append_nil] at this
theorem rd_new_f {t : TypeId} {W : World} {f : Fl} : Rd (W.alloc (.cells #[.int .i64 (f.id : Int), .int .i64 f.win, .int .i64 (f.wait : Int), .bool f.en] t)) 4 (some ⟨W.heap.size, 0, none⟩) 1 (fcell f) := by
  have := Rd.of_blk (n := 1) (size := 4) (Blk.new W t [.int .i64 (f.id : Int), .int .i64 f.win, .int .i64 (f.wait : Int), .bool f.en]) (by simp)
  simpa [fcell] using this
/-- a cell of the stream at a place is set -/
theorem set_f {g o c : Nat} {a b : List Fl} {f f' : Fl} (s : St S w0 w (SdL p cv (.slice (some ⟨g, o, none⟩) (a ++ f :: b).length c) C (a ++ f :: b) W F L)) (j : Nat) (hj : j < 4) (u : Value) (hu : u.oneCell' = true) (hf : fcell f' = (fcell f).set j u) :
    St S w0 (w.setCell ⟨g, o + a.length * 4 + j, none⟩ u) (SdL p cv (.slice (some ⟨g, o, none⟩) (a ++ f' :: b).length c) C (a ++ f' :: b) W F L) := by
  obtain ⟨X, h, hO, _, go⟩ := St.focus2 s
  have hl : (a ++ f :: b).length = (a ++ f' :: b).length := by simp
  obtain ⟨h1, h2⟩ := h.set (a.length * 4 + j) (by rw [fcellsQ_length, List.length_append, List.length_cons]; omega) u hu
  rw [fcellsQ_set _ _ _ _ hj, ← hf, ← fcellsQ_cons, ← fcellsQ_app, hl, ← Nat.add_assoc] at h1
  rw [← Nat.add_assoc] at h2
  rw [hl] at go
  have := go _ (QO 63 4 (.slice (some ⟨g, o, none⟩) (a ++ f' :: b).length c) (a ++ f' :: b).length (fcellsQ (a ++ f' :: b))) [] (St.changed (framed_QO ..) h1 (fun i hi => .inl hi) h2)
  rwa [List.append_nil] at this
end
end Go.Proofs.Ytbjjphpkpmikjaa
