/- Stage 9, pure: what holds of a stream with two ends, always. -/
import Derived.Test.YtdpheliekdgnhaaNiV
namespace Go.Sm
set_option linter.unusedVariables false
set_option linter.unusedSimpArgs false
set_option maxRecDepth 100000
def imp (p q : Bool) : Bool := !p || q
theorem imp_of {p q : Bool} (h : imp p q = true) (hp : p = true) : q = true := by subst hp; simpa [imp] using h
def chk1 : Bool := allS.all fun a => allC.all fun c => allQ.all fun f => allS.all fun b => allB.all fun neu =>
  imp ((stepA a true c).2 == 0 && compat a f b neu && imp neu (f == start b)) (match tr f c with | some f' => compat (stepA a true c).1 f' b (neu && isN c) | none => false)
def chk2 : Bool := allS.all fun a => allC.all fun c => allQ.all fun g => allS.all fun b => allB.all fun neu =>
  imp ((stepA a true c).2 == 0 && compat b g a neu) (
    (start (stepA a true c).1 == start a && compat b g (stepA a true c).1 neu) ||
    (start a == .n && start (stepA a true c).1 == .o && compat b (if g = .n then .o else g) (stepA a true c).1 neu) ||
    (start (stepA a true c).1 == .x && compat b .x (stepA a true c).1 neu))
def chk3 : Bool := allS.all fun a => allC.all fun c => allQ.all fun f => allS.all fun b => allB.all fun neu =>
  match tr (start b) c with
  | none => true
  | some m => imp (compat a f b (isN c && neu) && imp (m == .r) (f == .r)) ((stepA b false c).2 != 2 &&
      ((start (stepA b false c).1 == m && compat a f (stepA b false c).1 neu) || (m == .r && start (stepA b false c).1 == .e && compat a .e (stepA b false c).1 neu)))
def chk4 : Bool := allS.all fun a => allC.all fun c => allQ.all fun f => allS.all fun b => allB.all fun neu => allQ.all fun g => allB.all fun neu0 =>
  match tr (start b) c with
  | none => true
  | some m => imp (compat a f b (isN c && neu) && imp (m == .r) (f == .r) && compat b g a neu0 && imp neu0 (g == start a)) (compat (stepA b false c).1 g a neu0)
theorem chk1_ok : chk1 = true := by decide +kernel
theorem chk2_ok : chk2 = true := by decide +kernel
theorem chk3_ok : chk3 = true := by decide +kernel
theorem chk4_ok : chk4 = true := by decide +kernel
theorem use1 (a : S7) (c : Cl) (f : Q5) (b : S7) (neu : Bool) : imp ((stepA a true c).2 == 0 && compat a f b neu && imp neu (f == start b)) (match tr f c with | some f' => compat (stepA a true c).1 f' b (neu && isN c) | none => false) = true :=
  List.all_eq_true.1 (List.all_eq_true.1 (List.all_eq_true.1 (List.all_eq_true.1 (List.all_eq_true.1 chk1_ok a (memS a)) c (memC c)) f (memQ f)) b (memS b)) neu (memB neu)
theorem use2 (a : S7) (c : Cl) (g : Q5) (b : S7) (neu : Bool) : imp ((stepA a true c).2 == 0 && compat b g a neu) (
    (start (stepA a true c).1 == start a && compat b g (stepA a true c).1 neu) ||
    (start a == .n && start (stepA a true c).1 == .o && compat b (if g = .n then .o else g) (stepA a true c).1 neu) ||
    (start (stepA a true c).1 == .x && compat b .x (stepA a true c).1 neu)) = true :=
  List.all_eq_true.1 (List.all_eq_true.1 (List.all_eq_true.1 (List.all_eq_true.1 (List.all_eq_true.1 chk2_ok a (memS a)) c (memC c)) g (memQ g)) b (memS b)) neu (memB neu)
theorem use3 (a : S7) (c : Cl) (f : Q5) (b : S7) (neu : Bool) {m : Q5} (hm : tr (start b) c = some m) : imp (compat a f b (isN c && neu) && imp (m == .r) (f == .r)) ((stepA b false c).2 != 2 &&
      ((start (stepA b false c).1 == m && compat a f (stepA b false c).1 neu) || (m == .r && start (stepA b false c).1 == .e && compat a .e (stepA b false c).1 neu))) = true := by
  have h := List.all_eq_true.1 (List.all_eq_true.1 (List.all_eq_true.1 (List.all_eq_true.1 (List.all_eq_true.1 chk3_ok a (memS a)) c (memC c)) f (memQ f)) b (memS b)) neu (memB neu)
  simp only [hm] at h
  exact h
theorem use4 (a : S7) (c : Cl) (f : Q5) (b : S7) (neu : Bool) (g : Q5) (neu0 : Bool) {m : Q5} (hm : tr (start b) c = some m) : imp (compat a f b (isN c && neu) && imp (m == .r) (f == .r) && compat b g a neu0 && imp neu0 (g == start a)) (compat (stepA b false c).1 g a neu0) = true := by
  have h := List.all_eq_true.1 (List.all_eq_true.1 (List.all_eq_true.1 (List.all_eq_true.1 (List.all_eq_true.1 (List.all_eq_true.1 (List.all_eq_true.1 chk4_ok a (memS a)) c (memC c)) f (memQ f)) b (memS b)) neu (memB neu)) g (memQ g)) neu0 (memB neu0)
  simp only [hm] at h
  exact h
theorem neu_start {q : List Cl} {s f : Q5} (h : run s q = some f) : imp (q.all isN) (f == s) = true := by
  cases hq : q.all isN with
  | false => rfl
  | true =>
    rw [run_neu q s hq] at h
    cases h
    simp [imp]
theorem r_r {q : List Cl} {m f : Q5} (h : run m q = some f) : imp (m == .r) (f == .r) = true := by
  by_cases hm : m = .r
  · subst hm
    rw [(run_r q f h).1]
    rfl
  · have : (m == Q5.r) = false := by simpa using hm
    rw [this]
    rfl
theorem all_snoc (q : List Cl) (c : Cl) : (q ++ [c]).all isN = (q.all isN && isN c) := by simp
theorem D_send {a b : S7} {q : List Cl} (h : D a q b) {c : Cl} (hs : (stepA a true c).2 = 0) : D (stepA a true c).1 (q ++ [c]) b := by
  obtain ⟨f, h1, h2⟩ := h
  have hu := imp_of (use1 a c f b (q.all isN)) (by rw [h2, neu_start h1, hs]; rfl)
  cases ht : tr f c with
  | none => rw [ht] at hu; cases hu
  | some f' =>
    rw [ht] at hu
    exact ⟨f', by rw [run_app, h1]; exact ht, by rw [all_snoc]; exact hu⟩
theorem D_send' {a b : S7} {q : List Cl} (h : D b q a) {c : Cl} (hs : (stepA a true c).2 = 0) : D b q (stepA a true c).1 := by
  obtain ⟨g, h1, h2⟩ := h
  have hu := imp_of (use2 a c g b (q.all isN)) (by rw [h2, hs]; rfl)
  simp only [Bool.or_eq_true, Bool.and_eq_true, beq_iff_eq] at hu
  rcases hu with (⟨e, hc⟩ | ⟨⟨e1, e2⟩, hc⟩) | ⟨e, hc⟩
  · exact ⟨g, by rw [e]; exact h1, hc⟩
  · rw [e1] at h1
    exact ⟨_, by rw [e2]; exact run_no q g h1, hc⟩
  · exact ⟨.x, by rw [e]; exact run_x q _ g h1, hc⟩
theorem run_cons {s f : Q5} {c : Cl} {q : List Cl} (h : run s (c :: q) = some f) : ∃ m, tr s c = some m ∧ run m q = some f := by
  have h' : (match tr s c with | some s' => run s' q | none => none) = some f := h
  cases hs : tr s c with
  | none => rw [hs] at h'; cases h'
  | some m => rw [hs] at h'; exact ⟨m, rfl, h'⟩
theorem D_get {a b : S7} {c : Cl} {q : List Cl} (h : D a (c :: q) b) : (stepA b false c).2 ≠ 2 ∧ D a q (stepA b false c).1 := by
  obtain ⟨f, h1, h2⟩ := h
  obtain ⟨m, hm, h3⟩ := run_cons h1
  rw [List.all_cons] at h2
  have hu := imp_of (use3 a c f b (q.all isN) hm) (by rw [h2, r_r h3]; rfl)
  simp only [Bool.or_eq_true, Bool.and_eq_true, beq_iff_eq, bne_iff_ne] at hu
  obtain ⟨hn, hu⟩ := hu
  refine ⟨hn, ?_⟩
  rcases hu with ⟨e, hc⟩ | ⟨⟨e1, e2⟩, hc⟩
  · exact ⟨f, by rw [e]; exact h3, hc⟩
  · rw [e1] at h3
    exact ⟨.e, by rw [e2]; exact run_neu q .e (run_r q f h3).2, hc⟩
theorem D_get' {a b : S7} {c : Cl} {q q0 : List Cl} (h : D a (c :: q) b) (h0 : D b q0 a) : D (stepA b false c).1 q0 a := by
  obtain ⟨f, h1, h2⟩ := h
  obtain ⟨g, g1, g2⟩ := h0
  obtain ⟨m, hm, h3⟩ := run_cons h1
  rw [List.all_cons] at h2
  have hu := imp_of (use4 a c f b (q.all isN) g (q0.all isN) hm) (by rw [h2, r_r h3, g2, neu_start g1]; rfl)
  exact ⟨g, g1, hu⟩
/-! resets -/
def rst (s : S7) : Bool := s == .co || s == .ct
/-- a stream with two ends: their states, what is on its way to each, has anybody reset -/
structure LOk (a b : S7) (qa qb : List Cl) (r : Bool) : Prop where
  da : D a qb b
  db : D b qa a
  r0 : r = false → rst a = false ∧ rst b = false ∧ ¬ .r ∈ qa ∧ ¬ .r ∈ qb
  r1 : r = true → a = .co ∨ b = .co
theorem LOk.swap {a b : S7} {qa qb : List Cl} {r : Bool} (h : LOk a b qa qb r) : LOk b a qb qa r :=
  ⟨h.db, h.da, fun e => by obtain ⟨x, y, z, t⟩ := h.r0 e; exact ⟨y, x, t, z⟩, fun e => (h.r1 e).symm⟩
theorem LOk.first : LOk .idle .idle [] [] false := ⟨⟨.n, rfl, rfl⟩, ⟨.n, rfl, rfl⟩, fun _ => ⟨rfl, rfl, by simp, by simp⟩, fun h => by cases h⟩
theorem LOk.send {a b : S7} {qa qb : List Cl} {r : Bool} (h : LOk a b qa qb r) {c : Cl} (hs : (stepA a true c).2 = 0) : LOk (stepA a true c).1 b qa (qb ++ [c]) (r || c == .r) := by
  refine ⟨D_send h.da hs, D_send' h.db hs, fun e => ?_, fun e => ?_⟩
  · simp only [Bool.or_eq_false_iff, beq_eq_false_iff_ne] at e
    obtain ⟨x, y, z, t⟩ := h.r0 e.1
    refine ⟨?_, y, z, ?_⟩
    · have hr := e.2
      cases a <;> cases c <;> first | rfl | exact absurd rfl hr | cases x | cases hs
    · intro hm
      rcases List.mem_append.1 hm with hm | hm
      · exact t hm
      · exact e.2 ((by simpa using hm : Cl.r = c).symm)
  · cases hr : r with
    | true =>
      rcases h.r1 hr with h1 | h1
      · left
        subst h1
        cases c <;> first | rfl | cases hs
      · exact .inr h1
    | false =>
      rw [hr] at e
      have hc : c = .r := by simpa using e
      subst hc
      left
      cases a <;> first | rfl | cases hs
theorem LOk.get {a b : S7} {qa qb : List Cl} {r : Bool} {c : Cl} (h : LOk a b qa (c :: qb) r) : (stepA b false c).2 ≠ 2 ∧ LOk a (stepA b false c).1 qa qb r := by
  obtain ⟨h1, h2⟩ := D_get h.da
  refine ⟨h1, h2, D_get' h.da h.db, fun e => ?_, fun e => ?_⟩
  · obtain ⟨x, y, z, t⟩ := h.r0 e
    have hc : c ≠ .r := fun hc => t (by rw [hc]; exact List.mem_cons_self)
    refine ⟨x, ?_, z, fun hm => t (List.mem_cons_of_mem _ hm)⟩
    cases b <;> cases c <;> first | rfl | exact absurd rfl hc | cases y | exact absurd rfl h1
  · rcases h.r1 e with h3 | h3
    · exact .inl h3
    · right
      subst h3
      cases c <;> first | rfl | exact absurd rfl h1
def mir : S7 → S7
  | .idle => .idle | .op => .op | .hl => .hr | .hr => .hl | .cl => .cl | s => s
theorem LOk.end_ {a b : S7} {r : Bool} (h : LOk a b [] [] r) : (r = true ∧ 4 ≤ a.num ∧ 4 ≤ b.num) ∨ (r = false ∧ 0 ≤ a.num ∧ a.num ≤ 4 ∧ b = mir a) := by
  obtain ⟨f, f1, f2⟩ := h.da
  obtain ⟨g, g1, g2⟩ := h.db
  cases f1
  cases g1
  cases hr : r with
  | true =>
    left
    have := h.r1 hr
    refine ⟨rfl, ?_⟩
    revert f2 g2
    rcases this with e | e <;> subst e
    · cases b <;> simp [compat, start, S7.num]
    · cases a <;> simp [compat, start, S7.num]
  | false =>
    right
    obtain ⟨x, y, _, _⟩ := h.r0 hr
    refine ⟨rfl, ?_⟩
    revert f2 g2 x y
    cases a <;> cases b <;> simp [compat, start, S7.num, rst, mir]
end Go.Sm
