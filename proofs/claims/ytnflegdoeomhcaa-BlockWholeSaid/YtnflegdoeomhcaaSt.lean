/- Several things in memory, apart from one another, each with its blocks: what a walk keeps of them. Nothing of the program. -/
import Derived.Test.YtnflegdoeomhcaaBase
namespace Go.Own
open Go.RowKit
set_option linter.unusedVariables false

/-- a thing in memory, and its blocks -/
abbrev Ob := World → (Nat → Prop) → Prop
structure Framed (O : Ob) : Prop where
  lt : ∀ w F, O w F → ∀ i, F i → i < w.heap.size
  fr : ∀ w w' F S, O w F → Fr S w w' → (∀ i, F i → ¬ S i) → O w' F
/-- things apart, T their blocks -/
def Sep (w : World) : List Ob → (Nat → Prop) → Prop
  | [], T => T = fun _ => False
  | O :: L, T => ∃ F G, Framed O ∧ O w F ∧ Sep w L G ∧ (∀ i, F i → ¬ G i) ∧ T = fun i => F i ∨ G i
section
variable {w w' : World} {L M : List Ob} {T S : Nat → Prop} {O : Ob}
theorem Sep.lt : ∀ {L : List Ob} {T : Nat → Prop}, Sep w L T → ∀ i, T i → i < w.heap.size
  | [], T, h, i, hi => by rw [Sep] at h; subst h; exact hi.elim
  | O :: L, T, h, i, hi => by
    obtain ⟨F, G, hO, hF, hG, _, rfl⟩ := h
    rcases hi with hi | hi
    · exact hO.lt _ _ hF i hi
    · exact Sep.lt hG i hi
theorem Sep.fr : ∀ {L : List Ob} {T : Nat → Prop}, Sep w L T → Fr S w w' → (∀ i, T i → ¬ S i) → Sep w' L T
  | [], T, h, _, _ => h
  | O :: L, T, h, hf, hn => by
    obtain ⟨F, G, hO, hF, hG, hd, rfl⟩ := h
    exact ⟨F, G, hO, hO.fr _ _ _ _ hF hf (fun i hi => hn i (.inl hi)), Sep.fr hG hf (fun i hi => hn i (.inr hi)), hd, rfl⟩
theorem Sep.app : ∀ {L : List Ob} {T : Nat → Prop}, Sep w (L ++ M) T → ∃ G H, Sep w L G ∧ Sep w M H ∧ (∀ i, G i → ¬ H i) ∧ T = fun i => G i ∨ H i
  | [], T, h => ⟨_, T, rfl, h, fun _ h => h.elim, by funext i; simp⟩
  | O :: L, T, h => by
    obtain ⟨F, G, hO, hF, hG, hd, rfl⟩ := h
    obtain ⟨G1, H, h1, h2, h3, rfl⟩ := Sep.app hG
    refine ⟨_, H, ⟨F, G1, hO, hF, h1, fun i hi hg => hd i hi (.inl hg), rfl⟩, h2, fun i hi => ?_, ?_⟩
    · rcases hi with hi | hi
      · exact fun hh => hd i hi (.inr hh)
      · exact h3 i hi
    · funext i
      simp [or_assoc]
theorem Sep.mk_app : ∀ {L : List Ob} {G H : Nat → Prop}, Sep w L G → Sep w M H → (∀ i, G i → ¬ H i) → Sep w (L ++ M) (fun i => G i ∨ H i)
  | [], G, H, h, k, _ => by rw [Sep] at h; subst h; simpa using k
  | O :: L, G, H, h, k, hd => by
    obtain ⟨F, G1, hO, hF, hG, hd1, rfl⟩ := h
    refine ⟨F, _, hO, hF, Sep.mk_app hG k (fun i hi => hd i (.inr hi)), fun i hi hn => ?_, ?_⟩
    · rcases hn with hn | hn
      · exact hd1 i hi hn
      · exact hd i (.inl hi) hn
    · funext i
      simp [or_assoc]
end
/-- all that a walk keeps: the things, made behind w0 or of S; nothing else has changed -/
structure St (S : Nat → Prop) (w0 w : World) (L : List Ob) : Prop where
  all : ∃ T, Sep w L T ∧ ∀ i, T i → S i ∨ w0.heap.size ≤ i
  fr : Fr S w0 w
section
variable {w0 w w' : World} {L M : List Ob} {S F : Nat → Prop} {O : Ob}
theorem St.size (s : St S w0 w L) : w0.heap.size ≤ w.heap.size := s.fr.size
theorem St.start (hO : Framed O) (h : O w F) : St F w w [O] :=
  ⟨⟨_, ⟨F, _, hO, h, rfl, fun _ _ h => h, rfl⟩, fun i hi => by rcases hi with hi | hi; exact .inl hi; exact hi.elim⟩, Fr.refl _ _⟩
theorem St.nil (S : Nat → Prop) (w : World) : St S w w [] := ⟨⟨_, rfl, fun _ h => h.elim⟩, Fr.refl _ _⟩
theorem St.goF {L1 : List Ob} {O : Ob} {L2 : List Ob} {G H2 : Nat → Prop} (F : Nat → Prop) (hF : O w F) (hO : Framed O) (hG : Sep w L1 G) (hH2 : Sep w L2 H2) (hGH : ∀ i, G i → ¬ (F i ∨ H2 i)) (hd : ∀ i, F i → ¬ H2 i) (hTS : ∀ i, G i ∨ F i ∨ H2 i → S i ∨ w0.heap.size ≤ i) (hf : Fr S w0 w) {w' : World} {O' : Ob} {M : List Ob} (k : St F w w' (O' :: M)) : St S w0 w' (L1 ++ O' :: (L2 ++ M)) := by
  obtain ⟨⟨T', hT', hTF⟩, hf'⟩ := k
  obtain ⟨F', G', hO', hF', hG', hd', rfl⟩ := hT'
  have hGw := hG.fr hf' (fun i hi hh => hGH i hi (.inl hh))
  have hHw := hH2.fr hf' (fun i hi hh => hd i hh hi)
  refine ⟨⟨_, Sep.mk_app hGw ⟨F', _, hO', hF', Sep.mk_app hHw hG' ?_, ?_, rfl⟩ ?_, ?_⟩, ?_⟩
  · intro i hi hg
    rcases hTF i (.inr hg) with h | h
    · exact hd i h hi
    · have := hH2.lt i hi; omega
  · intro i hi hn
    rcases hn with hn | hn
    · rcases hTF i (.inl hi) with h | h
      · exact hd i h hn
      · have := hH2.lt i hn; omega
    · exact hd' i hi hn
  · intro i hi hn
    have hlt := hG.lt i hi
    rcases hn with hn | hn | hn
    · rcases hTF i (.inl hn) with h | h
      · exact hGH i hi (.inl h)
      · omega
    · exact hGH i hi (.inr hn)
    · rcases hTF i (.inr hn) with h | h
      · exact hGH i hi (.inl h)
      · omega
  · intro i hi
    have hz := hf.size
    have new : w.heap.size ≤ i → S i ∨ w0.heap.size ≤ i := fun h => .inr (Nat.le_trans hz h)
    rcases hi with hi | hi | hi | hi
    · exact hTS i (.inl hi)
    · rcases hTF i (.inl hi) with h | h
      · exact hTS i (.inr (.inl h))
      · exact new h
    · exact hTS i (.inr (.inr hi))
    · rcases hTF i (.inr hi) with h | h
      · exact hTS i (.inr (.inl h))
      · exact new h
  · refine hf.trans hf' (fun i hi h => ?_)
    rcases hTS i (.inr (.inl h)) with h1 | h1
    · exact h1
    · omega
theorem St.focus (L1 : List Ob) (O : Ob) (L2 : List Ob) (s : St S w0 w (L1 ++ O :: L2)) : ∃ F, O w F ∧ Framed O ∧ (∀ i, F i → S i ∨ w0.heap.size ≤ i) ∧ ∀ w' O' M, St F w w' (O' :: M) → St S w0 w' (L1 ++ O' :: (L2 ++ M)) := by
  obtain ⟨⟨T, hT, hTS⟩, hf⟩ := s
  obtain ⟨G, H, hG, hH, hGH, rfl⟩ := hT.app
  obtain ⟨F, H2, hO, hF, hH2, hd, rfl⟩ := hH
  refine ⟨F, hF, hO, fun i hi => hTS i (.inr (.inl hi)), fun w' O' M k => St.goF F hF hO hG hH2 hGH hd hTS hf k⟩
/-- a thing, and that the others lie apart from it -/
theorem St.focusA (L1 : List Ob) (O : Ob) (L2 : List Ob) (s : St S w0 w (L1 ++ O :: L2)) : ∃ F, O w F ∧ (∀ i, F i → S i ∨ w0.heap.size ≤ i) ∧ (∀ O', O' ∈ L1 ++ L2 → ∃ F', O' w F' ∧ ∀ i, F i → ¬ F' i) ∧ ∀ w' O' M, St F w w' (O' :: M) → St S w0 w' (L1 ++ O' :: (L2 ++ M)) := by
  obtain ⟨⟨T, hT, hTS⟩, hf⟩ := s
  obtain ⟨G, H, hG, hH, hGH, rfl⟩ := hT.app
  obtain ⟨F, H2, hO, hF, hH2, hd, rfl⟩ := hH
  have mem : ∀ (L : List Ob) (T : Nat → Prop), Sep w L T → ∀ O', O' ∈ L → ∃ F', O' w F' ∧ ∀ i, F' i → T i := by
    intro L
    induction L with
    | nil => intro T _ O' h; cases h
    | cons A L ih =>
      intro T hT O' h
      obtain ⟨F1, G1, hA, h1, h2, _, rfl⟩ := hT
      rcases List.mem_cons.1 h with rfl | h
      · exact ⟨F1, h1, fun i hi => .inl hi⟩
      · obtain ⟨F', h3, h4⟩ := ih _ h2 O' h
        exact ⟨F', h3, fun i hi => .inr (h4 i hi)⟩
  refine ⟨F, hF, fun i hi => hTS i (.inr (.inl hi)), fun O' hO' => ?_, fun w' O' M k => ?_⟩
  · rcases List.mem_append.1 hO' with h | h
    · obtain ⟨F', h1, h2⟩ := mem _ _ hG O' h
      exact ⟨F', h1, fun i hi hn => hGH i (h2 i hn) (.inl hi)⟩
    · obtain ⟨F', h1, h2⟩ := mem _ _ hH2 O' h
      exact ⟨F', h1, fun i hi hn => hd i hi (h2 i hn)⟩
  · exact St.goF F hF hO hG hH2 hGH hd hTS hf k
theorem St.add (s : St S w0 w L) (k : St (fun _ => False) w w' M) : St S w0 w' (L ++ M) := by
  obtain ⟨⟨T, hT, hTS⟩, hf⟩ := s
  obtain ⟨⟨T', hT', hTF⟩, hf'⟩ := k
  have hTw := hT.fr hf' (fun i hi hh => hh)
  have new : ∀ i, T' i → w.heap.size ≤ i := fun i hi => (hTF i hi).resolve_left (fun h => h)
  refine ⟨⟨_, Sep.mk_app hTw hT' (fun i hi hn => ?_), fun i hi => ?_⟩, hf.trans hf' (fun i _ h => h.elim)⟩
  · have := hT.lt i hi
    have := new i hn
    omega
  · rcases hi with hi | hi
    · exact hTS i hi
    · exact .inr (Nat.le_trans hf.size (new i hi))
theorem St.next (s : St S w0 w L) (hb : Below w.heap.size w w') : St S w0 w' L := by
  have h := s.add (w' := w') (M := []) ⟨⟨_, rfl, fun _ h => h.elim⟩, Fr.of_below (S := fun _ => False) hb (fun i h1 h2 => by omega)⟩
  rwa [List.append_nil] at h
theorem St.alloc (s : St S w0 w L) (o : Obj) : St S w0 (w.alloc o) L := s.next ((Below.refl _ _).alloc (Nat.le_refl _) _)
theorem St.drewN (s : St S w0 w L) (n : Nat) : St S w0 (w.drewN n) L := s.next (below_drewN (Below.refl _ _) n)
theorem St.drew (s : St S w0 w L) : St S w0 w.drew L := s.drewN 1
theorem St.drop (L1 : List Ob) (O : Ob) (L2 : List Ob) (s : St S w0 w (L1 ++ O :: L2)) : St S w0 w (L1 ++ L2) := by
  obtain ⟨⟨T, hT, hTS⟩, hf⟩ := s
  obtain ⟨G, H, hG, hH, hGH, rfl⟩ := hT.app
  obtain ⟨F, H2, hO, hF, hH2, hd, rfl⟩ := hH
  refine ⟨⟨_, Sep.mk_app hG hH2 (fun i hi hn => hGH i hi (.inr hn)), fun i hi => ?_⟩, hf⟩
  rcases hi with hi | hi
  · exact hTS i (.inl hi)
  · exact hTS i (.inr (.inr hi))
theorem St.below (s : St (fun _ => False) w0 w L) : Below w0.heap.size w0 w := s.fr.below (Nat.le_refl _) (fun i _ h => h.elim)
theorem St.one (s : St S w0 w [O]) : ∃ F, O w F ∧ Framed O ∧ (∀ i, F i → S i ∨ w0.heap.size ≤ i) ∧ Fr S w0 w := by
  obtain ⟨⟨T, ⟨F, G, hO, hF, rfl, _, rfl⟩, hTS⟩, hf⟩ := s
  exact ⟨F, hF, hO, fun i hi => hTS i (.inl hi), hf⟩
theorem St.mono (s : St S w0 w L) {S' : Nat → Prop} (h : ∀ i, i < w0.heap.size → S i → S' i) : St S' w0 w L := by
  obtain ⟨⟨T, hT, hTS⟩, hf⟩ := s
  refine ⟨⟨T, hT, fun i hi => ?_⟩, hf.mono h⟩
  rcases hTS i hi with h1 | h1
  · by_cases hl : i < w0.heap.size
    · exact .inl (h i hl h1)
    · exact .inr (by omega)
  · exact .inr h1
/-- a thing that was made -/
theorem St.made (hO : Framed O) (h : O w' F) (hF : ∀ i, F i → w.heap.size ≤ i) (hb : Below w.heap.size w w') : St (fun _ => False) w w' [O] :=
  ⟨⟨_, ⟨F, _, hO, h, rfl, fun _ _ h => h, rfl⟩, fun i hi => by rcases hi with hi | hi; exact .inr (hF i hi); exact hi.elim⟩, Fr.of_below (S := fun _ => False) hb (fun i h1 h2 => by omega)⟩
/-- a thing that has changed -/
theorem St.changed {F' : Nat → Prop} {O' : Ob} (hO : Framed O') (h : O' w' F') (hF : ∀ i, F' i → F i ∨ w.heap.size ≤ i) (hf : Fr F w w') : St F w w' [O'] :=
  ⟨⟨_, ⟨F', _, hO, h, rfl, fun _ _ h => h, rfl⟩, fun i hi => by rcases hi with hi | hi; exact hF i hi; exact hi.elim⟩, hf⟩
/-- a thing told by another word -/
theorem St.as (L1 : List Ob) {O O' : Ob} (L2 : List Ob) (s : St S w0 w (L1 ++ O :: L2)) (hO : Framed O') (h : ∀ F, O w F → O' w F) : St S w0 w (L1 ++ O' :: L2) := by
  obtain ⟨⟨T, hT, hTS⟩, hf⟩ := s
  obtain ⟨G, H, hG, hH, hGH, rfl⟩ := hT.app
  obtain ⟨F, H2, hO1, hF, hH2, hd, rfl⟩ := hH
  exact ⟨⟨_, Sep.mk_app hG ⟨F, H2, hO, h F hF, hH2, hd, rfl⟩ hGH, hTS⟩, hf⟩
end
theorem St.before {S : Nat → Prop} {w w1 w' : World} {M : List Ob} (s : St S w1 w' M) (h : Fr (fun _ => False) w w1) : St S w w' M := by
  obtain ⟨⟨T, hT, hTS⟩, hf⟩ := s
  refine ⟨⟨T, hT, fun i hi => (hTS i hi).imp id (fun hh => Nat.le_trans h.size hh)⟩, (h.mono (fun _ _ h => h.elim)).trans hf (fun _ _ h => h)⟩
/-- two things change places -/
theorem St.perm2 {w0 w : World} {S : Nat → Prop} {A B : Ob} {L : List Ob} (s : St S w0 w (A :: B :: L)) : St S w0 w (B :: A :: L) := by
  obtain ⟨⟨T, ⟨F1, G, ha, h1, ⟨F2, G2, hb, h2, hG, hd2, rfl⟩, hd, rfl⟩, hTS⟩, hf⟩ := s
  refine ⟨⟨_, ⟨F2, fun i => F1 i ∨ G2 i, hb, h2, ⟨F1, G2, ha, h1, hG, fun i hi hn => hd i hi (.inr hn), rfl⟩, fun i hi hn => ?_, rfl⟩, fun i hi => hTS i ?_⟩, hf⟩
  · rcases hn with hn | hn
    · exact hd i hn (.inl hi)
    · exact hd2 i hi hn
  · rcases hi with hi | hi | hi
    · exact .inr (.inl hi)
    · exact .inl hi
    · exact .inr (.inr hi)
/-- two things as one -/
def star (A B : Ob) : Ob := fun w F => ∃ F1 F2, A w F1 ∧ B w F2 ∧ (∀ i, F1 i → ¬ F2 i) ∧ F = fun i => F1 i ∨ F2 i
theorem framed_star {A B : Ob} (ha : Framed A) (hb : Framed B) : Framed (star A B) := by
  refine ⟨fun w F h i hi => ?_, fun w w' F S h hf hn => ?_⟩
  · obtain ⟨F1, F2, h1, h2, _, rfl⟩ := h
    rcases hi with hi | hi
    · exact ha.lt _ _ h1 i hi
    · exact hb.lt _ _ h2 i hi
  · obtain ⟨F1, F2, h1, h2, hd, rfl⟩ := h
    exact ⟨F1, F2, ha.fr _ _ _ _ h1 hf (fun i hi => hn i (.inl hi)), hb.fr _ _ _ _ h2 hf (fun i hi => hn i (.inr hi)), hd, rfl⟩
theorem sep_star {w : World} {A B : Ob} {R : List Ob} {T : Nat → Prop} (ha : Framed A) (hb : Framed B) : Sep w (star A B :: R) T ↔ Sep w (A :: B :: R) T := by
  constructor
  · rintro ⟨F, G, hO, ⟨F1, F2, h1, h2, hd, rfl⟩, hG, hd2, rfl⟩
    refine ⟨F1, _, ha, h1, ⟨F2, G, hb, h2, hG, fun i hi => hd2 i (.inr hi), rfl⟩, fun i hi hn => ?_, ?_⟩
    · rcases hn with hn | hn
      · exact hd i hi hn
      · exact hd2 i (.inl hi) hn
    · funext i; simp [or_assoc]
  · rintro ⟨F1, G, ha, h1, ⟨F2, G2, hb, h2, hG, hd2, rfl⟩, hd, rfl⟩
    refine ⟨_, G2, framed_star ha hb, ⟨F1, F2, h1, h2, fun i hi hn => hd i hi (.inl hn), rfl⟩, hG, fun i hi hn => ?_, ?_⟩
    · rcases hi with hi | hi
      · exact hd i hi (.inr hn)
      · exact hd2 i hi hn
    · funext i; simp [or_assoc]
theorem sep_tail {w : World} {A : Ob} {R R' : List Ob} (h : ∀ T, Sep w R T ↔ Sep w R' T) {T : Nat → Prop} : Sep w (A :: R) T ↔ Sep w (A :: R') T := by
  constructor
  · rintro ⟨F, G, a, b, c, d, e⟩; exact ⟨F, G, a, b, (h G).1 c, d, e⟩
  · rintro ⟨F, G, a, b, c, d, e⟩; exact ⟨F, G, a, b, (h G).2 c, d, e⟩
/-- a block, a slice of the call's own -/
def BLo (p : Nat) (t : TypeId) (cs : List Value) : Ob := fun w F => Blk w p t cs ∧ F = fun i => i = p
def SLo (base : Nat) (e : TypeId) (size : Nat) (v : Value) (n : Nat) (xs : List Value) : Ob := fun w F => w.ownsRow base e size v n xs ∧ F = fun i => v.ownBlock = some i
theorem framed_BLo (p : Nat) (t : TypeId) (cs : List Value) : Framed (BLo p t cs) := by
  refine ⟨fun w F h i hi => ?_, fun w w' F S h hf hn => ?_⟩
  · obtain ⟨h, rfl⟩ := h; obtain rfl : i = p := hi; exact Blk.lt h
  · obtain ⟨h, rfl⟩ := h; exact ⟨h.fr hf (hn p rfl), rfl⟩
theorem framed_SLo (base : Nat) (e : TypeId) (size : Nat) (v : Value) (n : Nat) (xs : List Value) : Framed (SLo base e size v n xs) := by
  refine ⟨fun w F h i hi => ?_, fun w w' F S h hf hn => ?_⟩
  · obtain ⟨h, rfl⟩ := h; exact own_lt h hi
  · obtain ⟨h, rfl⟩ := h; exact ⟨own_fr h hf (fun g hg => hn g hg), rfl⟩
theorem own_lower {w : World} {b B : Nat} {e : TypeId} {size : Nat} {v : Value} {n : Nat} {xs : List Value} (h : w.ownsRow b e size v n xs) (hB : B ≤ b) : w.ownsRow B e size v n xs := by
  refine ⟨h.1, ?_⟩
  rcases h.2 with hn | ⟨g, cap, cur, rfl, hb, rest⟩
  · exact .inl hn
  · exact .inr ⟨g, cap, cur, rfl, Nat.le_trans hB hb, rest⟩
section
variable {w0 w w' : World} {S : Nat → Prop} {L : List Ob}
/-- a slice that was made -/
theorem St.made_own {e : TypeId} {size : Nat} {v : Value} {n : Nat} {xs : List Value} (h : w'.ownsRow w.heap.size e size v n xs) (hb : Below w.heap.size w w') : St (fun _ => False) w w' [SLo w.heap.size e size v n xs] :=
  St.made (framed_SLo ..) ⟨h, rfl⟩ (fun i hi => (h.lt i hi).1) hb
theorem St.blk (L1 : List Ob) {p : Nat} {t : TypeId} {cs : List Value} (L2 : List Ob) (s : St S w0 w (L1 ++ BLo p t cs :: L2)) : Blk w p t cs := by
  obtain ⟨F, ⟨h, _⟩, _⟩ := s.focus; exact h
theorem St.own (L1 : List Ob) {base : Nat} {e : TypeId} {size : Nat} {v : Value} {n : Nat} {xs : List Value} (L2 : List Ob) (s : St S w0 w (L1 ++ SLo base e size v n xs :: L2)) : w.ownsRow base e size v n xs := by
  obtain ⟨F, ⟨h, _⟩, _⟩ := s.focus; exact h
/-- a cell of a block is set -/
theorem St.set_ (L1 : List Ob) {p : Nat} {t : TypeId} {cs : List Value} (L2 : List Ob) (s : St S w0 w (L1 ++ BLo p t cs :: L2)) (i : Nat) (u : Value) : St S w0 (w.setCell ⟨p, i, none⟩ u) (L1 ++ BLo p t (cs.set i u) :: L2) := by
  obtain ⟨F, ⟨h, rfl⟩, _, _, go⟩ := s.focus
  have := go (w.setCell ⟨p, i, none⟩ u) (BLo p t (cs.set i u)) [] (St.changed (framed_BLo ..) ⟨h.set_ i u, rfl⟩ (fun i hi => .inl hi) ((Fr.refl (fun i => i = p) w).setCell (p := ⟨p, i, none⟩) (.inl rfl) u))
  rwa [List.append_nil] at this
/-- a slice that was appended to -/
theorem St.appended (L1 : List Ob) {base : Nat} {e : TypeId} {size : Nat} {v v' : Value} {n n' : Nat} {xs xs' : List Value} (L2 : List Ob) (s : St S w0 w (L1 ++ SLo base e size v n xs :: L2)) (ho : w'.ownsRow base e size v' n' xs') (hf : Fr (fun i => some i = v.ownBlock) w w')
    (h2 : v'.ownBlock = v.ownBlock ∨ v'.ownBlock = some w.heap.size) : St S w0 w' (L1 ++ SLo base e size v' n' xs' :: L2) := by
  obtain ⟨F, ⟨h, rfl⟩, _, _, go⟩ := s.focus
  have := go w' (SLo base e size v' n' xs') [] (St.changed (framed_SLo ..) ⟨ho, rfl⟩ (fun i hi => ?_) (hf.mono fun i _ e => e.symm))
  · rwa [List.append_nil] at this
  · rcases h2 with h2 | h2
    · exact .inl (h2 ▸ hi)
    · rw [h2] at hi
      cases hi
      exact .inr (Nat.le_refl _)
/-- a slice's floor is lowered -/
theorem St.floor (L1 : List Ob) {base : Nat} {e : TypeId} {size : Nat} {v : Value} {n : Nat} {xs : List Value} (L2 : List Ob) (s : St S w0 w (L1 ++ SLo base e size v n xs :: L2)) {B : Nat} (hB : B ≤ base) : St S w0 w (L1 ++ SLo B e size v n xs :: L2) :=
  s.as L1 L2 (framed_SLo ..) fun F h => ⟨own_lower h.1 hB, h.2⟩
/-- what reads a list outside S is as it was -/
theorem St.rd {size : Nat} {A : Option Addr} {n : Nat} {vs : List Value} (s : St S w0 w L) (h : Rd w0 size A n vs) (hA : ∀ a, A = some a → ¬ S a.block) : Rd w size A n vs := h.fr s.fr hA
/-- a new block -/
theorem St.block (s : St S w0 w L) (t : TypeId) (cs : List Value) : St S w0 (w.alloc (.cells cs.toArray t)) (L ++ [BLo w.heap.size t cs]) :=
  s.add (St.made (framed_BLo ..) ⟨Blk.new w t cs, rfl⟩ (fun i hi => by cases hi; exact Nat.le_refl _) ((Below.refl _ _).alloc (Nat.le_refl _) _))
end
/-! the same, the place told by a number -/
section
variable {w0 w w' : World} {S : Nat → Prop} {L2 : List Ob} {A0 A1 A2 A3 A4 O : Ob}
theorem St.focus0 (s : St S w0 w (O :: L2)) : ∃ F, O w F ∧ Framed O ∧ (∀ i, F i → S i ∨ w0.heap.size ≤ i) ∧ ∀ w' O' M, St F w w' (O' :: M) → St S w0 w' (O' :: (L2 ++ M)) := St.focus [] O L2 s
theorem St.blk0 {p : Nat} {t : TypeId} {cs : List Value} (s : St S w0 w (BLo p t cs :: L2)) : Blk w p t cs := St.blk [] L2 s
theorem St.own0 {base : Nat} {e : TypeId} {size : Nat} {v : Value} {n : Nat} {xs : List Value} (s : St S w0 w (SLo base e size v n xs :: L2)) : w.ownsRow base e size v n xs := St.own [] L2 s
theorem St.set0 {p : Nat} {t : TypeId} {cs : List Value} (s : St S w0 w (BLo p t cs :: L2)) (i : Nat) (u : Value) : St S w0 (w.setCell ⟨p, i, none⟩ u) (BLo p t (cs.set i u) :: L2) := St.set_ [] L2 s i u
theorem St.drop0 (s : St S w0 w (O :: L2)) : St S w0 w (L2) := St.drop [] O L2 s
theorem St.appended0 {base : Nat} {e : TypeId} {size : Nat} {v : Value} {n : Nat} {xs : List Value} {v' : Value} {n' : Nat} {xs' : List Value} (s : St S w0 w (SLo base e size v n xs :: L2)) (ho : w'.ownsRow base e size v' n' xs') (hf : Fr (fun i => some i = v.ownBlock) w w') (h2 : v'.ownBlock = v.ownBlock ∨ v'.ownBlock = some w.heap.size) : St S w0 w' (SLo base e size v' n' xs' :: L2) := St.appended [] L2 s ho hf h2
theorem St.floor0 {base : Nat} {e : TypeId} {size : Nat} {v : Value} {n : Nat} {xs : List Value} (s : St S w0 w (SLo base e size v n xs :: L2)) {B : Nat} (hB : B ≤ base) : St S w0 w (SLo B e size v n xs :: L2) := St.floor [] L2 s hB
theorem St.as0 {O' : Ob} (s : St S w0 w (O :: L2)) (hO : Framed O') (h : ∀ F, O w F → O' w F) : St S w0 w (O' :: L2) := St.as [] L2 s hO h
theorem St.focus1 (s : St S w0 w (A0 :: O :: L2)) : ∃ F, O w F ∧ Framed O ∧ (∀ i, F i → S i ∨ w0.heap.size ≤ i) ∧ ∀ w' O' M, St F w w' (O' :: M) → St S w0 w' (A0 :: O' :: (L2 ++ M)) := St.focus [A0] O L2 s
theorem St.blk1 {p : Nat} {t : TypeId} {cs : List Value} (s : St S w0 w (A0 :: BLo p t cs :: L2)) : Blk w p t cs := St.blk [A0] L2 s
theorem St.own1 {base : Nat} {e : TypeId} {size : Nat} {v : Value} {n : Nat} {xs : List Value} (s : St S w0 w (A0 :: SLo base e size v n xs :: L2)) : w.ownsRow base e size v n xs := St.own [A0] L2 s
theorem St.set1 {p : Nat} {t : TypeId} {cs : List Value} (s : St S w0 w (A0 :: BLo p t cs :: L2)) (i : Nat) (u : Value) : St S w0 (w.setCell ⟨p, i, none⟩ u) (A0 :: BLo p t (cs.set i u) :: L2) := St.set_ [A0] L2 s i u
theorem St.drop1 (s : St S w0 w (A0 :: O :: L2)) : St S w0 w (A0 :: L2) := St.drop [A0] O L2 s
theorem St.appended1 {base : Nat} {e : TypeId} {size : Nat} {v : Value} {n : Nat} {xs : List Value} {v' : Value} {n' : Nat} {xs' : List Value} (s : St S w0 w (A0 :: SLo base e size v n xs :: L2)) (ho : w'.ownsRow base e size v' n' xs') (hf : Fr (fun i => some i = v.ownBlock) w w') (h2 : v'.ownBlock = v.ownBlock ∨ v'.ownBlock = some w.heap.size) : St S w0 w' (A0 :: SLo base e size v' n' xs' :: L2) := St.appended [A0] L2 s ho hf h2
theorem St.floor1 {base : Nat} {e : TypeId} {size : Nat} {v : Value} {n : Nat} {xs : List Value} (s : St S w0 w (A0 :: SLo base e size v n xs :: L2)) {B : Nat} (hB : B ≤ base) : St S w0 w (A0 :: SLo B e size v n xs :: L2) := St.floor [A0] L2 s hB
theorem St.as1 {O' : Ob} (s : St S w0 w (A0 :: O :: L2)) (hO : Framed O') (h : ∀ F, O w F → O' w F) : St S w0 w (A0 :: O' :: L2) := St.as [A0] L2 s hO h
theorem St.focus2 (s : St S w0 w (A0 :: A1 :: O :: L2)) : ∃ F, O w F ∧ Framed O ∧ (∀ i, F i → S i ∨ w0.heap.size ≤ i) ∧ ∀ w' O' M, St F w w' (O' :: M) → St S w0 w' (A0 :: A1 :: O' :: (L2 ++ M)) := St.focus [A0, A1] O L2 s
theorem St.blk2 {p : Nat} {t : TypeId} {cs : List Value} (s : St S w0 w (A0 :: A1 :: BLo p t cs :: L2)) : Blk w p t cs := St.blk [A0, A1] L2 s
theorem St.own2 {base : Nat} {e : TypeId} {size : Nat} {v : Value} {n : Nat} {xs : List Value} (s : St S w0 w (A0 :: A1 :: SLo base e size v n xs :: L2)) : w.ownsRow base e size v n xs := St.own [A0, A1] L2 s
theorem St.set2 {p : Nat} {t : TypeId} {cs : List Value} (s : St S w0 w (A0 :: A1 :: BLo p t cs :: L2)) (i : Nat) (u : Value) : St S w0 (w.setCell ⟨p, i, none⟩ u) (A0 :: A1 :: BLo p t (cs.set i u) :: L2) := St.set_ [A0, A1] L2 s i u
theorem St.drop2 (s : St S w0 w (A0 :: A1 :: O :: L2)) : St S w0 w (A0 :: A1 :: L2) := St.drop [A0, A1] O L2 s
theorem St.appended2 {base : Nat} {e : TypeId} {size : Nat} {v : Value} {n : Nat} {xs : List Value} {v' : Value} {n' : Nat} {xs' : List Value} (s : St S w0 w (A0 :: A1 :: SLo base e size v n xs :: L2)) (ho : w'.ownsRow base e size v' n' xs') (hf : Fr (fun i => some i = v.ownBlock) w w') (h2 : v'.ownBlock = v.ownBlock ∨ v'.ownBlock = some w.heap.size) : St S w0 w' (A0 :: A1 :: SLo base e size v' n' xs' :: L2) := St.appended [A0, A1] L2 s ho hf h2
theorem St.floor2 {base : Nat} {e : TypeId} {size : Nat} {v : Value} {n : Nat} {xs : List Value} (s : St S w0 w (A0 :: A1 :: SLo base e size v n xs :: L2)) {B : Nat} (hB : B ≤ base) : St S w0 w (A0 :: A1 :: SLo B e size v n xs :: L2) := St.floor [A0, A1] L2 s hB
theorem St.as2 {O' : Ob} (s : St S w0 w (A0 :: A1 :: O :: L2)) (hO : Framed O') (h : ∀ F, O w F → O' w F) : St S w0 w (A0 :: A1 :: O' :: L2) := St.as [A0, A1] L2 s hO h
theorem St.focus3 (s : St S w0 w (A0 :: A1 :: A2 :: O :: L2)) : ∃ F, O w F ∧ Framed O ∧ (∀ i, F i → S i ∨ w0.heap.size ≤ i) ∧ ∀ w' O' M, St F w w' (O' :: M) → St S w0 w' (A0 :: A1 :: A2 :: O' :: (L2 ++ M)) := St.focus [A0, A1, A2] O L2 s
theorem St.blk3 {p : Nat} {t : TypeId} {cs : List Value} (s : St S w0 w (A0 :: A1 :: A2 :: BLo p t cs :: L2)) : Blk w p t cs := St.blk [A0, A1, A2] L2 s
theorem St.own3 {base : Nat} {e : TypeId} {size : Nat} {v : Value} {n : Nat} {xs : List Value} (s : St S w0 w (A0 :: A1 :: A2 :: SLo base e size v n xs :: L2)) : w.ownsRow base e size v n xs := St.own [A0, A1, A2] L2 s
theorem St.set3 {p : Nat} {t : TypeId} {cs : List Value} (s : St S w0 w (A0 :: A1 :: A2 :: BLo p t cs :: L2)) (i : Nat) (u : Value) : St S w0 (w.setCell ⟨p, i, none⟩ u) (A0 :: A1 :: A2 :: BLo p t (cs.set i u) :: L2) := St.set_ [A0, A1, A2] L2 s i u
theorem St.drop3 (s : St S w0 w (A0 :: A1 :: A2 :: O :: L2)) : St S w0 w (A0 :: A1 :: A2 :: L2) := St.drop [A0, A1, A2] O L2 s
theorem St.appended3 {base : Nat} {e : TypeId} {size : Nat} {v : Value} {n : Nat} {xs : List Value} {v' : Value} {n' : Nat} {xs' : List Value} (s : St S w0 w (A0 :: A1 :: A2 :: SLo base e size v n xs :: L2)) (ho : w'.ownsRow base e size v' n' xs') (hf : Fr (fun i => some i = v.ownBlock) w w') (h2 : v'.ownBlock = v.ownBlock ∨ v'.ownBlock = some w.heap.size) : St S w0 w' (A0 :: A1 :: A2 :: SLo base e size v' n' xs' :: L2) := St.appended [A0, A1, A2] L2 s ho hf h2
theorem St.floor3 {base : Nat} {e : TypeId} {size : Nat} {v : Value} {n : Nat} {xs : List Value} (s : St S w0 w (A0 :: A1 :: A2 :: SLo base e size v n xs :: L2)) {B : Nat} (hB : B ≤ base) : St S w0 w (A0 :: A1 :: A2 :: SLo B e size v n xs :: L2) := St.floor [A0, A1, A2] L2 s hB
theorem St.as3 {O' : Ob} (s : St S w0 w (A0 :: A1 :: A2 :: O :: L2)) (hO : Framed O') (h : ∀ F, O w F → O' w F) : St S w0 w (A0 :: A1 :: A2 :: O' :: L2) := St.as [A0, A1, A2] L2 s hO h
theorem St.focus4 (s : St S w0 w (A0 :: A1 :: A2 :: A3 :: O :: L2)) : ∃ F, O w F ∧ Framed O ∧ (∀ i, F i → S i ∨ w0.heap.size ≤ i) ∧ ∀ w' O' M, St F w w' (O' :: M) → St S w0 w' (A0 :: A1 :: A2 :: A3 :: O' :: (L2 ++ M)) := St.focus [A0, A1, A2, A3] O L2 s
theorem St.blk4 {p : Nat} {t : TypeId} {cs : List Value} (s : St S w0 w (A0 :: A1 :: A2 :: A3 :: BLo p t cs :: L2)) : Blk w p t cs := St.blk [A0, A1, A2, A3] L2 s
theorem St.own4 {base : Nat} {e : TypeId} {size : Nat} {v : Value} {n : Nat} {xs : List Value} (s : St S w0 w (A0 :: A1 :: A2 :: A3 :: SLo base e size v n xs :: L2)) : w.ownsRow base e size v n xs := St.own [A0, A1, A2, A3] L2 s
theorem St.set4 {p : Nat} {t : TypeId} {cs : List Value} (s : St S w0 w (A0 :: A1 :: A2 :: A3 :: BLo p t cs :: L2)) (i : Nat) (u : Value) : St S w0 (w.setCell ⟨p, i, none⟩ u) (A0 :: A1 :: A2 :: A3 :: BLo p t (cs.set i u) :: L2) := St.set_ [A0, A1, A2, A3] L2 s i u
theorem St.drop4 (s : St S w0 w (A0 :: A1 :: A2 :: A3 :: O :: L2)) : St S w0 w (A0 :: A1 :: A2 :: A3 :: L2) := St.drop [A0, A1, A2, A3] O L2 s
theorem St.appended4 {base : Nat} {e : TypeId} {size : Nat} {v : Value} {n : Nat} {xs : List Value} {v' : Value} {n' : Nat} {xs' : List Value} (s : St S w0 w (A0 :: A1 :: A2 :: A3 :: SLo base e size v n xs :: L2)) (ho : w'.ownsRow base e size v' n' xs') (hf : Fr (fun i => some i = v.ownBlock) w w') (h2 : v'.ownBlock = v.ownBlock ∨ v'.ownBlock = some w.heap.size) : St S w0 w' (A0 :: A1 :: A2 :: A3 :: SLo base e size v' n' xs' :: L2) := St.appended [A0, A1, A2, A3] L2 s ho hf h2
theorem St.floor4 {base : Nat} {e : TypeId} {size : Nat} {v : Value} {n : Nat} {xs : List Value} (s : St S w0 w (A0 :: A1 :: A2 :: A3 :: SLo base e size v n xs :: L2)) {B : Nat} (hB : B ≤ base) : St S w0 w (A0 :: A1 :: A2 :: A3 :: SLo B e size v n xs :: L2) := St.floor [A0, A1, A2, A3] L2 s hB
theorem St.as4 {O' : Ob} (s : St S w0 w (A0 :: A1 :: A2 :: A3 :: O :: L2)) (hO : Framed O') (h : ∀ F, O w F → O' w F) : St S w0 w (A0 :: A1 :: A2 :: A3 :: O' :: L2) := St.as [A0, A1, A2, A3] L2 s hO h
theorem St.focus5 (s : St S w0 w (A0 :: A1 :: A2 :: A3 :: A4 :: O :: L2)) : ∃ F, O w F ∧ Framed O ∧ (∀ i, F i → S i ∨ w0.heap.size ≤ i) ∧ ∀ w' O' M, St F w w' (O' :: M) → St S w0 w' (A0 :: A1 :: A2 :: A3 :: A4 :: O' :: (L2 ++ M)) := St.focus [A0, A1, A2, A3, A4] O L2 s
theorem St.blk5 {p : Nat} {t : TypeId} {cs : List Value} (s : St S w0 w (A0 :: A1 :: A2 :: A3 :: A4 :: BLo p t cs :: L2)) : Blk w p t cs := St.blk [A0, A1, A2, A3, A4] L2 s
theorem St.own5 {base : Nat} {e : TypeId} {size : Nat} {v : Value} {n : Nat} {xs : List Value} (s : St S w0 w (A0 :: A1 :: A2 :: A3 :: A4 :: SLo base e size v n xs :: L2)) : w.ownsRow base e size v n xs := St.own [A0, A1, A2, A3, A4] L2 s
theorem St.set5 {p : Nat} {t : TypeId} {cs : List Value} (s : St S w0 w (A0 :: A1 :: A2 :: A3 :: A4 :: BLo p t cs :: L2)) (i : Nat) (u : Value) : St S w0 (w.setCell ⟨p, i, none⟩ u) (A0 :: A1 :: A2 :: A3 :: A4 :: BLo p t (cs.set i u) :: L2) := St.set_ [A0, A1, A2, A3, A4] L2 s i u
theorem St.drop5 (s : St S w0 w (A0 :: A1 :: A2 :: A3 :: A4 :: O :: L2)) : St S w0 w (A0 :: A1 :: A2 :: A3 :: A4 :: L2) := St.drop [A0, A1, A2, A3, A4] O L2 s
theorem St.appended5 {base : Nat} {e : TypeId} {size : Nat} {v : Value} {n : Nat} {xs : List Value} {v' : Value} {n' : Nat} {xs' : List Value} (s : St S w0 w (A0 :: A1 :: A2 :: A3 :: A4 :: SLo base e size v n xs :: L2)) (ho : w'.ownsRow base e size v' n' xs') (hf : Fr (fun i => some i = v.ownBlock) w w') (h2 : v'.ownBlock = v.ownBlock ∨ v'.ownBlock = some w.heap.size) : St S w0 w' (A0 :: A1 :: A2 :: A3 :: A4 :: SLo base e size v' n' xs' :: L2) := St.appended [A0, A1, A2, A3, A4] L2 s ho hf h2
theorem St.floor5 {base : Nat} {e : TypeId} {size : Nat} {v : Value} {n : Nat} {xs : List Value} (s : St S w0 w (A0 :: A1 :: A2 :: A3 :: A4 :: SLo base e size v n xs :: L2)) {B : Nat} (hB : B ≤ base) : St S w0 w (A0 :: A1 :: A2 :: A3 :: A4 :: SLo B e size v n xs :: L2) := St.floor [A0, A1, A2, A3, A4] L2 s hB
theorem St.as5 {O' : Ob} (s : St S w0 w (A0 :: A1 :: A2 :: A3 :: A4 :: O :: L2)) (hO : Framed O') (h : ∀ F, O w F → O' w F) : St S w0 w (A0 :: A1 :: A2 :: A3 :: A4 :: O' :: L2) := St.as [A0, A1, A2, A3, A4] L2 s hO h
end
section
variable {w0 w w' : World} {S : Nat → Prop} {L2 : List Ob} {A0 A1 A2 A3 A4 A5 A6 A7 O : Ob}
theorem St.blk6 {p : Nat} {t : TypeId} {cs : List Value} (s : St S w0 w (A0 :: A1 :: A2 :: A3 :: A4 :: A5 :: BLo p t cs :: L2)) : Blk w p t cs := St.blk [A0, A1, A2, A3, A4, A5] L2 s
theorem St.own6 {base : Nat} {e : TypeId} {size : Nat} {v : Value} {n : Nat} {xs : List Value} (s : St S w0 w (A0 :: A1 :: A2 :: A3 :: A4 :: A5 :: SLo base e size v n xs :: L2)) : w.ownsRow base e size v n xs := St.own [A0, A1, A2, A3, A4, A5] L2 s
theorem St.drop6 (s : St S w0 w (A0 :: A1 :: A2 :: A3 :: A4 :: A5 :: O :: L2)) : St S w0 w (A0 :: A1 :: A2 :: A3 :: A4 :: A5 :: L2) := St.drop [A0, A1, A2, A3, A4, A5] O L2 s
theorem St.blk7 {p : Nat} {t : TypeId} {cs : List Value} (s : St S w0 w (A0 :: A1 :: A2 :: A3 :: A4 :: A5 :: A6 :: BLo p t cs :: L2)) : Blk w p t cs := St.blk [A0, A1, A2, A3, A4, A5, A6] L2 s
theorem St.own7 {base : Nat} {e : TypeId} {size : Nat} {v : Value} {n : Nat} {xs : List Value} (s : St S w0 w (A0 :: A1 :: A2 :: A3 :: A4 :: A5 :: A6 :: SLo base e size v n xs :: L2)) : w.ownsRow base e size v n xs := St.own [A0, A1, A2, A3, A4, A5, A6] L2 s
theorem St.drop7 (s : St S w0 w (A0 :: A1 :: A2 :: A3 :: A4 :: A5 :: A6 :: O :: L2)) : St S w0 w (A0 :: A1 :: A2 :: A3 :: A4 :: A5 :: A6 :: L2) := St.drop [A0, A1, A2, A3, A4, A5, A6] O L2 s
theorem St.blk8 {p : Nat} {t : TypeId} {cs : List Value} (s : St S w0 w (A0 :: A1 :: A2 :: A3 :: A4 :: A5 :: A6 :: A7 :: BLo p t cs :: L2)) : Blk w p t cs := St.blk [A0, A1, A2, A3, A4, A5, A6, A7] L2 s
theorem St.own8 {base : Nat} {e : TypeId} {size : Nat} {v : Value} {n : Nat} {xs : List Value} (s : St S w0 w (A0 :: A1 :: A2 :: A3 :: A4 :: A5 :: A6 :: A7 :: SLo base e size v n xs :: L2)) : w.ownsRow base e size v n xs := St.own [A0, A1, A2, A3, A4, A5, A6, A7] L2 s
theorem St.drop8 (s : St S w0 w (A0 :: A1 :: A2 :: A3 :: A4 :: A5 :: A6 :: A7 :: O :: L2)) : St S w0 w (A0 :: A1 :: A2 :: A3 :: A4 :: A5 :: A6 :: A7 :: L2) := St.drop [A0, A1, A2, A3, A4, A5, A6, A7] O L2 s
end
end Go.Own
