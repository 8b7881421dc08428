/- Several things in memory, apart from one another, each with its blocks: what a walk keeps of them. Nothing of the program · The program's hpack: what begins a field or an update (prefix, number), a field that is written out · The program's hpack: the encoder as a thing in memory; field, update · The program's hpack: a field's octets · The program's hpack: the encoder as a thing: New, SetMax, updates, Encode, Size, Max · The program's hpack: the reading of a block: kind, number, text · The program's hpack: the reading of a block: number, text · The program's hpack: the reading of a block: a field's name, its value -/
import Derived.Test.YtinieljgcenemaaDoorG5
import Derived.Deep.RegionWith
import Derived.Deep.LoopGhost
namespace Go.Own
open Go.RowKit
set_option linter.unusedVariables false

/-- a thing in memory, and its blocks -/
abbrev Ob := World → (Nat → Prop) → Prop
structure Framed (O : Ob) : Prop where
  lt : ∀ w F, O w F → ∀ i, F i → i < w.heap.size
  fr : ∀ w w' F S, O w F → Fr S w w' → (∀ i, F i → ¬ S i) → O w' F
/-- things apart, T their blocks -/
def Sep (w : World) : List Ob → (Nat → Prop) → Prop
  | [], T => T = fun _ => False
  | O :: L, T => ∃ F G, Framed O ∧ O w F ∧ Sep w L G ∧ (∀ i, F i → ¬ G i) ∧ T = fun i => F i ∨ G i
section
variable {w w' : World} {L M : List Ob} {T S : Nat → Prop} {O : Ob}
theorem Sep.lt : ∀ {L : List Ob} {T : Nat → Prop}, Sep w L T → ∀ i, T i → i < w.heap.size
  | [], T, h, i, hi => by rw [Sep] at h; subst h; exact hi.elim
  | O :: L, T, h, i, hi => by
    obtain ⟨F, G, hO, hF, hG, _, rfl⟩ := h
    rcases hi with hi | hi
    · exact hO.lt _ _ hF i hi
    · exact Sep.lt hG i hi
theorem Sep.fr : ∀ {L : List Ob} {T : Nat → Prop}, Sep w L T → Fr S w w' → (∀ i, T i → ¬ S i) → Sep w' L T
  | [], T, h, _, _ => h
  | O :: L, T, h, hf, hn => by
    obtain ⟨F, G, hO, hF, hG, hd, rfl⟩ := h
    exact ⟨F, G, hO, hO.fr _ _ _ _ hF hf (fun i hi => hn i (.inl hi)), Sep.fr hG hf (fun i hi => hn i (.inr hi)), hd, rfl⟩
theorem Sep.app : ∀ {L : List Ob} {T : Nat → Prop}, Sep w (L ++ M) T → ∃ G H, Sep w L G ∧ Sep w M H ∧ (∀ i, G i → ¬ H i) ∧ T = fun i => G i ∨ H i
  | [], T, h => ⟨_, T, rfl, h, fun _ h => h.elim, by funext i; simp⟩
  | O :: L, T, h => by
    obtain ⟨F, G, hO, hF, hG, hd, rfl⟩ := h
    obtain ⟨G1, H, h1, h2, h3, rfl⟩ := Sep.app hG
    refine ⟨_, H, ⟨F, G1, hO, hF, h1, fun i hi hg => hd i hi (.inl hg), rfl⟩, h2, fun i hi => ?_, ?_⟩
    · rcases hi with hi | hi
      · exact fun hh => hd i hi (.inr hh)
      · exact h3 i hi
    · funext i
      simp [or_assoc]
theorem Sep.mk_app : ∀ {L : List Ob} {G H : Nat → Prop}, Sep w L G → Sep w M H → (∀ i, G i → ¬ H i) → Sep w (L ++ M) (fun i => G i ∨ H i)
  | [], G, H, h, k, _ => by rw [Sep] at h; subst h; simpa using k
  | O :: L, G, H, h, k, hd => by
    obtain ⟨F, G1, hO, hF, hG, hd1, rfl⟩ := h
    refine ⟨F, _, hO, hF, Sep.mk_app hG k (fun i hi => hd i (.inr hi)), fun i hi hn => ?_, ?_⟩
    · rcases hn with hn | hn
      · exact hd1 i hi hn
      · exact hd i (.inl hi) hn
    · funext i
      simp [or_assoc]
end
/-- all that a walk keeps: the things, made behind w0 or of S; nothing else has changed -/
structure St (S : Nat → Prop) (w0 w : World) (L : List Ob) : Prop where
  all : ∃ T, Sep w L T ∧ ∀ i, T i → S i ∨ w0.heap.size ≤ i
  fr : Fr S w0 w
section
variable {w0 w w' : World} {L M : List Ob} {S F : Nat → Prop} {O : Ob}
theorem St.size (s : St S w0 w L) : w0.heap.size ≤ w.heap.size := s.fr.size
theorem St.start (hO : Framed O) (h : O w F) : St F w w [O] :=
  ⟨⟨_, ⟨F, _, hO, h, rfl, fun _ _ h => h, rfl⟩, fun i hi => by rcases hi with hi | hi; exact .inl hi; exact hi.elim⟩, Fr.refl _ _⟩
theorem St.nil (S : Nat → Prop) (w : World) : St S w w [] := ⟨⟨_, rfl, fun _ h => h.elim⟩, Fr.refl _ _⟩
theorem St.goF {L1 : List Ob} {O : Ob} {L2 : List Ob} {G H2 : Nat → Prop} (F : Nat → Prop) (hF : O w F) (hO : Framed O) (hG : Sep w L1 G) (hH2 : Sep w L2 H2) (hGH : ∀ i, G i → ¬ (F i ∨ H2 i)) (hd : ∀ i, F i → ¬ H2 i) (hTS : ∀ i, G i ∨ F i ∨ H2 i → S i ∨ w0.heap.size ≤ i) (hf : Fr S w0 w) {w' : World} {O' : Ob} {M : List Ob} (k : St F w w' (O' :: M)) : St S w0 w' (L1 ++ O' :: (L2 ++ M)) := by
  obtain ⟨⟨T', hT', hTF⟩, hf'⟩ := k
  obtain ⟨F', G', hO', hF', hG', hd', rfl⟩ := hT'
  have hGw := hG.fr hf' (fun i hi hh => hGH i hi (.inl hh))
  have hHw := hH2.fr hf' (fun i hi hh => hd i hh hi)
  refine ⟨⟨_, Sep.mk_app hGw ⟨F', _, hO', hF', Sep.mk_app hHw hG' ?_, ?_, rfl⟩ ?_, ?_⟩, ?_⟩
  · intro i hi hg
    rcases hTF i (.inr hg) with h | h
    · exact hd i h hi
    · have := hH2.lt i hi; omega
  · intro i hi hn
    rcases hn with hn | hn
    · rcases hTF i (.inl hi) with h | h
      · exact hd i h hn
      · have := hH2.lt i hn; omega
    · exact hd' i hi hn
  · intro i hi hn
    have hlt := hG.lt i hi
    rcases hn with hn | hn | hn
    · rcases hTF i (.inl hn) with h | h
      · exact hGH i hi (.inl h)
      · omega
    · exact hGH i hi (.inr hn)
    · rcases hTF i (.inr hn) with h | h
      · exact hGH i hi (.inl h)
      · omega
  · intro i hi
    have hz := hf.size
    have new : w.heap.size ≤ i → S i ∨ w0.heap.size ≤ i := fun h => .inr (Nat.le_trans hz h)
    rcases hi with hi | hi | hi | hi
    · exact hTS i (.inl hi)
    · rcases hTF i (.inl hi) with h | h
      · exact hTS i (.inr (.inl h))
      · exact new h
    · exact hTS i (.inr (.inr hi))
    · rcases hTF i (.inr hi) with h | h
      · exact hTS i (.inr (.inl h))
      · exact new h
  · refine hf.trans hf' (fun i hi h => ?_)
    rcases hTS i (.inr (.inl h)) with h1 | h1
    · exact h1
    · omega
theorem St.focus (L1 : List Ob) (O : Ob) (L2 : List Ob) (s : St S w0 w (L1 ++ O :: L2)) : ∃ F, O w F ∧ Framed O ∧ (∀ i, F i → S i ∨ w0.heap.size ≤ i) ∧ ∀ w' O' M, St F w w' (O' :: M) → St S w0 w' (L1 ++ O' :: (L2 ++ M)) := by
  obtain ⟨⟨T, hT, hTS⟩, hf⟩ := s
  obtain ⟨G, H, hG, hH, hGH, rfl⟩ := hT.app
  obtain ⟨F, H2, hO, hF, hH2, hd, rfl⟩ := hH
  refine ⟨F, hF, hO, fun i hi => hTS i (.inr (.inl hi)), fun w' O' M k => St.goF F hF hO hG hH2 hGH hd hTS hf k⟩
/-- a thing, and that the others lie apart from it -/
theorem St.focusA (L1 : List Ob) (O : Ob) (L2 : List Ob) (s : St S w0 w (L1 ++ O :: L2)) : ∃ F, O w F ∧ (∀ i, F i → S i ∨ w0.heap.size ≤ i) ∧ (∀ O', O' ∈ L1 ++ L2 → ∃ F', O' w F' ∧ ∀ i, F i → ¬ F' i) ∧ ∀ w' O' M, St F w w' (O' :: M) → St S w0 w' (L1 ++ O' :: (L2 ++ M)) := by
  obtain ⟨⟨T, hT, hTS⟩, hf⟩ := s
  obtain ⟨G, H, hG, hH, hGH, rfl⟩ := hT.app
  obtain ⟨F, H2, hO, hF, hH2, hd, rfl⟩ := hH
  have mem : ∀ (L : List Ob) (T : Nat → Prop), Sep w L T → ∀ O', O' ∈ L → ∃ F', O' w F' ∧ ∀ i, F' i → T i := by
    intro L
    induction L with
    | nil => intro T _ O' h; cases h
    | cons A L ih =>
      intro T hT O' h
      obtain ⟨F1, G1, hA, h1, h2, _, rfl⟩ := hT
      rcases List.mem_cons.1 h with rfl | h
      · exact ⟨F1, h1, fun i hi => .inl hi⟩
      · obtain ⟨F', h3, h4⟩ := ih _ h2 O' h
        exact ⟨F', h3, fun i hi => .inr (h4 i hi)⟩
  refine ⟨F, hF, fun i hi => hTS i (.inr (.inl hi)), fun O' hO' => ?_, fun w' O' M k => ?_⟩
  · rcases List.mem_append.1 hO' with h | h
    · obtain ⟨F', h1, h2⟩ := mem _ _ hG O' h
      exact ⟨F', h1, fun i hi hn => hGH i (h2 i hn) (.inl hi)⟩
    · obtain ⟨F', h1, h2⟩ := mem _ _ hH2 O' h
      exact ⟨F', h1, fun i hi hn => hd i hi (h2 i hn)⟩
  · exact St.goF F hF hO hG hH2 hGH hd hTS hf k
theorem St.add (s : St S w0 w L) (k : St (fun _ => False) w w' M) : St S w0 w' (L ++ M) := by
  obtain ⟨⟨T, hT, hTS⟩, hf⟩ := s
  obtain ⟨⟨T', hT', hTF⟩, hf'⟩ := k
  have hTw := hT.fr hf' (fun i hi hh => hh)
  have new : ∀ i, T' i → w.heap.size ≤ i := fun i hi => (hTF i hi).resolve_left (fun h => h)
  refine ⟨⟨_, Sep.mk_app hTw hT' (fun i hi hn => ?_), fun i hi => ?_⟩, hf.trans hf' (fun i _ h => h.elim)⟩
  · have := hT.lt i hi
    have := new i hn
    omega
  · rcases hi with hi | hi
    · exact hTS i hi
    · exact .inr (Nat.le_trans hf.size (new i hi))
theorem St.next (s : St S w0 w L) (hb : Below w.heap.size w w') : St S w0 w' L := by
  have h := s.add (w' := w') (M := []) ⟨⟨_, rfl, fun _ h => h.elim⟩, Fr.of_below (S := fun _ => False) hb (fun i h1 h2 => by omega)⟩
  rwa [List.append_nil] at h
theorem St.alloc (s : St S w0 w L) (o : Obj) : St S w0 (w.alloc o) L := s.next ((Below.refl _ _).alloc (Nat.le_refl _) _)
theorem St.drewN (s : St S w0 w L) (n : Nat) : St S w0 (w.drewN n) L := s.next (below_drewN (Below.refl _ _) n)
theorem St.drew (s : St S w0 w L) : St S w0 w.drew L := s.drewN 1
theorem St.drop (L1 : List Ob) (O : Ob) (L2 : List Ob) (s : St S w0 w (L1 ++ O :: L2)) : St S w0 w (L1 ++ L2) := by
  obtain ⟨⟨T, hT, hTS⟩, hf⟩ := s
  obtain ⟨G, H, hG, hH, hGH, rfl⟩ := hT.app
  obtain ⟨F, H2, hO, hF, hH2, hd, rfl⟩ := hH
  refine ⟨⟨_, Sep.mk_app hG hH2 (fun i hi hn => hGH i hi (.inr hn)), fun i hi => ?_⟩, hf⟩
  rcases hi with hi | hi
  · exact hTS i (.inl hi)
  · exact hTS i (.inr (.inr hi))
theorem St.below (s : St (fun _ => False) w0 w L) : Below w0.heap.size w0 w := s.fr.below (Nat.le_refl _) (fun i _ h => h.elim)
theorem St.one (s : St S w0 w [O]) : ∃ F, O w F ∧ Framed O ∧ (∀ i, F i → S i ∨ w0.heap.size ≤ i) ∧ Fr S w0 w := by
  obtain ⟨⟨T, ⟨F, G, hO, hF, rfl, _, rfl⟩, hTS⟩, hf⟩ := s
  exact ⟨F, hF, hO, fun i hi => hTS i (.inl hi), hf⟩
theorem St.mono (s : St S w0 w L) {S' : Nat → Prop} (h : ∀ i, i < w0.heap.size → S i → S' i) : St S' w0 w L := by
  obtain ⟨⟨T, hT, hTS⟩, hf⟩ := s
  refine ⟨⟨T, hT, fun i hi => ?_⟩, hf.mono h⟩
  rcases hTS i hi with h1 | h1
  · by_cases hl : i < w0.heap.size
    · exact .inl (h i hl h1)
    · exact .inr (by omega)
  · exact .inr h1
/-- a thing that was made -/
theorem St.made (hO : Framed O) (h : O w' F) (hF : ∀ i, F i → w.heap.size ≤ i) (hb : Below w.heap.size w w') : St (fun _ => False) w w' [O] :=
  ⟨⟨_, ⟨F, _, hO, h, rfl, fun _ _ h => h, rfl⟩, fun i hi => by rcases hi with hi | hi; exact .inr (hF i hi); exact hi.elim⟩, Fr.of_below (S := fun _ => False) hb (fun i h1 h2 => by omega)⟩
/-- a thing that has changed -/
theorem St.changed {F' : Nat → Prop} {O' : Ob} (hO : Framed O') (h : O' w' F') (hF : ∀ i, F' i → F i ∨ w.heap.size ≤ i) (hf : Fr F w w') : St F w w' [O'] :=
  ⟨⟨_, ⟨F', _, hO, h, rfl, fun _ _ h => h, rfl⟩, fun i hi => by rcases hi with hi | hi; exact hF i hi; exact hi.elim⟩, hf⟩
/-- a thing told by another word -/
theorem St.as (L1 : List Ob) {O O' : Ob} (L2 : List Ob) (s : St S w0 w (L1 ++ O :: L2)) (hO : Framed O') (h : ∀ F, O w F → O' w F) : St S w0 w (L1 ++ O' :: L2) := by
  obtain ⟨⟨T, hT, hTS⟩, hf⟩ := s
  obtain ⟨G, H, hG, hH, hGH, rfl⟩ := hT.app
  obtain ⟨F, H2, hO1, hF, hH2, hd, rfl⟩ := hH
  exact ⟨⟨_, Sep.mk_app hG ⟨F, H2, hO, h F hF, hH2, hd, rfl⟩ hGH, hTS⟩, hf⟩
end
theorem St.before {S : Nat → Prop} {w w1 w' : World} {M : List Ob} (s : St S w1 w' M) (h : Fr (fun _ => False) w w1) : St S w w' M := by
  obtain ⟨⟨T, hT, hTS⟩, hf⟩ := s
  refine ⟨⟨T, hT, fun i hi => (hTS i hi).imp id (fun hh => Nat.le_trans h.size hh)⟩, (h.mono (fun _ _ h => h.elim)).trans hf (fun _ _ h => h)⟩
/-- two things change places -/
theorem St.perm2 {w0 w : World} {S : Nat → Prop} {A B : Ob} {L : List Ob} (s : St S w0 w (A :: B :: L)) : St S w0 w (B :: A :: L) := by
  obtain ⟨⟨T, ⟨F1, G, ha, h1, ⟨F2, G2, hb, h2, hG, hd2, rfl⟩, hd, rfl⟩, hTS⟩, hf⟩ := s
  refine ⟨⟨_, ⟨F2, fun i => F1 i ∨ G2 i, hb, h2, ⟨F1, G2, ha, h1, hG, fun i hi hn => hd i hi (.inr hn), rfl⟩, fun i hi hn => ?_, rfl⟩, fun i hi => hTS i ?_⟩, hf⟩
  · rcases hn with hn | hn
    · exact hd i hn (.inl hi)
    · exact hd2 i hi hn
  · rcases hi with hi | hi | hi
    · exact .inr (.inl hi)
    · exact .inl hi
    · exact .inr (.inr hi)
/-- two things as one -/
def star (A B : Ob) : Ob := fun w F => ∃ F1 F2, A w F1 ∧ B w F2 ∧ (∀ i, F1 i → ¬ F2 i) ∧ F = fun i => F1 i ∨ F2 i
theorem framed_star {A B : Ob} (ha : Framed A) (hb : Framed B) : Framed (star A B) := by
  refine ⟨fun w F h i hi => ?_, fun w w' F S h hf hn => ?_⟩
  · obtain ⟨F1, F2, h1, h2, _, rfl⟩ := h
    rcases hi with hi | hi
    · exact ha.lt _ _ h1 i hi
    · exact hb.lt _ _ h2 i hi
  · obtain ⟨F1, F2, h1, h2, hd, rfl⟩ := h
    exact ⟨F1, F2, ha.fr _ _ _ _ h1 hf (fun i hi => hn i (.inl hi)), hb.fr _ _ _ _ h2 hf (fun i hi => hn i (.inr hi)), hd, rfl⟩
theorem sep_star {w : World} {A B : Ob} {R : List Ob} {T : Nat → Prop} (ha : Framed A) (hb : Framed B) : Sep w (star A B :: R) T ↔ Sep w (A :: B :: R) T := by
  constructor
  · rintro ⟨F, G, hO, ⟨F1, F2, h1, h2, hd, rfl⟩, hG, hd2, rfl⟩
    refine ⟨F1, _, ha, h1, ⟨F2, G, hb, h2, hG, fun i hi => hd2 i (.inr hi), rfl⟩, fun i hi hn => ?_, ?_⟩
    · rcases hn with hn | hn
      · exact hd i hi hn
      · exact hd2 i (.inl hi) hn
    · funext i; simp [or_assoc]
  · rintro ⟨F1, G, ha, h1, ⟨F2, G2, hb, h2, hG, hd2, rfl⟩, hd, rfl⟩
    refine ⟨_, G2, framed_star ha hb, ⟨F1, F2, h1, h2, fun i hi hn => hd i hi (.inl hn), rfl⟩, hG, fun i hi hn => ?_, ?_⟩
    · rcases hi with hi | hi
      · exact hd i hi (.inr hn)
      · exact hd2 i hi hn
    · funext i; simp [or_assoc]
theorem sep_tail {w : World} {A : Ob} {R R' : List Ob} (h : ∀ T, Sep w R T ↔ Sep w R' T) {T : Nat → Prop} : Sep w (A :: R) T ↔ Sep w (A :: R') T := by
  constructor
  · rintro ⟨F, G, a, b, c, d, e⟩; exact ⟨F, G, a, b, (h G).1 c, d, e⟩
  · rintro ⟨F, G, a, b, c, d, e⟩; exact ⟨F, G, a, b, (h G).2 c, d, e⟩
/-- a block, a slice of the call's own -/
def BLo (p : Nat) (t : TypeId) (cs : List Value) : Ob := fun w F => Blk w p t cs ∧ F = fun i => i = p
def SLo (base : Nat) (e : TypeId) (size : Nat) (v : Value) (n : Nat) (xs : List Value) : Ob := fun w F => w.ownsRow base e size v n xs ∧ F = fun i => v.ownBlock = some i
theorem framed_BLo (p : Nat) (t : TypeId) (cs : List Value) : Framed (BLo p t cs) := by
  refine ⟨fun w F h i hi => ?_, fun w w' F S h hf hn => ?_⟩
  · obtain ⟨h, rfl⟩ := h; obtain rfl : i = p := hi; exact Blk.lt h
  · obtain ⟨h, rfl⟩ := h; exact ⟨h.fr hf (hn p rfl), rfl⟩
theorem framed_SLo (base : Nat) (e : TypeId) (size : Nat) (v : Value) (n : Nat) (xs : List Value) : Framed (SLo base e size v n xs) := by
  refine ⟨fun w F h i hi => ?_, fun w w' F S h hf hn => ?_⟩
  · obtain ⟨h, rfl⟩ := h; exact own_lt h hi
  · obtain ⟨h, rfl⟩ := h; exact ⟨own_fr h hf (fun g hg => hn g hg), rfl⟩
theorem own_lower {w : World} {b B : Nat} {e : TypeId} {size : Nat} {v : Value} {n : Nat} {xs : List Value} (h : w.ownsRow b e size v n xs) (hB : B ≤ b) : w.ownsRow B e size v n xs := by
  refine ⟨h.1, ?_⟩
  rcases h.2 with hn | ⟨g, cap, cur, rfl, hb, rest⟩
  · exact .inl hn
  · exact .inr ⟨g, cap, cur, rfl, Nat.le_trans hB hb, rest⟩
section
variable {w0 w w' : World} {S : Nat → Prop} {L : List Ob}
/-- a slice that was made -/
theorem St.made_own {e : TypeId} {size : Nat} {v : Value} {n : Nat} {xs : List Value} (h : w'.ownsRow w.heap.size e size v n xs) (hb : Below w.heap.size w w') : St (fun _ => False) w w' [SLo w.heap.size e size v n xs] :=
  St.made (framed_SLo ..) ⟨h, rfl⟩ (fun i hi => (h.lt i hi).1) hb
theorem St.blk (L1 : List Ob) {p : Nat} {t : TypeId} {cs : List Value} (L2 : List Ob) (s : St S w0 w (L1 ++ BLo p t cs :: L2)) : Blk w p t cs := by
  obtain ⟨F, ⟨h, _⟩, _⟩ := s.focus; exact h
theorem St.own (L1 : List Ob) {base : Nat} {e : TypeId} {size : Nat} {v : Value} {n : Nat} {xs : List Value} (L2 : List Ob) (s : St S w0 w (L1 ++ SLo base e size v n xs :: L2)) : w.ownsRow base e size v n xs := by
  obtain ⟨F, ⟨h, _⟩, _⟩ := s.focus; exact h
/-- a cell of a block is set -/
theorem St.set_ (L1 : List Ob) {p : Nat} {t : TypeId} {cs : List Value} (L2 : List Ob) (s : St S w0 w (L1 ++ BLo p t cs :: L2)) (i : Nat) (u : Value) : St S w0 (w.setCell ⟨p, i, none⟩ u) (L1 ++ BLo p t (cs.set i u) :: L2) := by
  obtain ⟨F, ⟨h, rfl⟩, _, _, go⟩ := s.focus
  have := go (w.setCell ⟨p, i, none⟩ u) (BLo p t (cs.set i u)) [] (St.changed (framed_BLo ..) ⟨h.set_ i u, rfl⟩ (fun i hi => .inl hi) ((Fr.refl (fun i => i = p) w).setCell (p := ⟨p, i, none⟩) (.inl rfl) u))
  rwa [List.append_nil] at this
/-- a slice that was appended to -/
theorem St.appended (L1 : List Ob) {base : Nat} {e : TypeId} {size : Nat} {v v' : Value} {n n' : Nat} {xs xs' : List Value} (L2 : List Ob) (s : St S w0 w (L1 ++ SLo base e size v n xs :: L2)) (ho : w'.ownsRow base e size v' n' xs') (hf : Fr (fun i => some i = v.ownBlock) w w')
    (h2 : v'.ownBlock = v.ownBlock ∨ v'.ownBlock = some w.heap.size) : St S w0 w' (L1 ++ SLo base e size v' n' xs' :: L2) := by
  obtain ⟨F, ⟨h, rfl⟩, _, _, go⟩ := s.focus
  have := go w' (SLo base e size v' n' xs') [] (St.changed (framed_SLo ..) ⟨ho, rfl⟩ (fun i hi => ?_) (hf.mono fun i _ e => e.symm))
  · rwa [List.append_nil] at this
  · rcases h2 with h2 | h2
    · exact .inl (h2 ▸ hi)
    · rw [h2] at hi
      cases hi
      exact .inr (Nat.le_refl _)
/-- a slice's floor is lowered -/
theorem St.floor (L1 : List Ob) {base : Nat} {e : TypeId} {size : Nat} {v : Value} {n : Nat} {xs : List Value} (L2 : List Ob) (s : St S w0 w (L1 ++ SLo base e size v n xs :: L2)) {B : Nat} (hB : B ≤ base) : St S w0 w (L1 ++ SLo B e size v n xs :: L2) :=
  s.as L1 L2 (framed_SLo ..) fun F h => ⟨own_lower h.1 hB, h.2⟩
/-- what reads a list outside S is as it was -/
theorem St.rd {size : Nat} {A : Option Addr} {n : Nat} {vs : List Value} (s : St S w0 w L) (h : Rd w0 size A n vs) (hA : ∀ a, A = some a → ¬ S a.block) : Rd w size A n vs := h.fr s.fr hA
/-- a new block -/
theorem St.block (s : St S w0 w L) (t : TypeId) (cs : List Value) : St S w0 (w.alloc (.cells cs.toArray t)) (L ++ [BLo w.heap.size t cs]) :=
  s.add (St.made (framed_BLo ..) ⟨Blk.new w t cs, rfl⟩ (fun i hi => by cases hi; exact Nat.le_refl _) ((Below.refl _ _).alloc (Nat.le_refl _) _))
end
/-! the same, the place told by a number -/
section
variable {w0 w w' : World} {S : Nat → Prop} {L2 : List Ob} {A0 A1 A2 A3 A4 O : Ob}
theorem St.focus0 (s : St S w0 w (O :: L2)) : ∃ F, O w F ∧ Framed O ∧ (∀ i, F i → S i ∨ w0.heap.size ≤ i) ∧ ∀ w' O' M, St F w w' (O' :: M) → St S w0 w' (O' :: (L2 ++ M)) := St.focus [] O L2 s
theorem St.blk0 {p : Nat} {t : TypeId} {cs : List Value} (s : St S w0 w (BLo p t cs :: L2)) : Blk w p t cs := St.blk [] L2 s
theorem St.own0 {base : Nat} {e : TypeId} {size : Nat} {v : Value} {n : Nat} {xs : List Value} (s : St S w0 w (SLo base e size v n xs :: L2)) : w.ownsRow base e size v n xs := St.own [] L2 s
theorem St.set0 {p : Nat} {t : TypeId} {cs : List Value} (s : St S w0 w (BLo p t cs :: L2)) (i : Nat) (u : Value) : St S w0 (w.setCell ⟨p, i, none⟩ u) (BLo p t (cs.set i u) :: L2) := St.set_ [] L2 s i u
theorem St.drop0 (s : St S w0 w (O :: L2)) : St S w0 w (L2) := St.drop [] O L2 s
theorem St.appended0 {base : Nat} {e : TypeId} {size : Nat} {v : Value} {n : Nat} {xs : List Value} {v' : Value} {n' : Nat} {xs' : List Value} (s : St S w0 w (SLo base e size v n xs :: L2)) (ho : w'.ownsRow base e size v' n' xs') (hf : Fr (fun i => some i = v.ownBlock) w w') (h2 : v'.ownBlock = v.ownBlock ∨ v'.ownBlock = some w.heap.size) : St S w0 w' (SLo base e size v' n' xs' :: L2) := St.appended [] L2 s ho hf h2
theorem St.floor0 {base : Nat} {e : TypeId} {size : Nat} {v : Value} {n : Nat} {xs : List Value} (s : St S w0 w (SLo base e size v n xs :: L2)) {B : Nat} (hB : B ≤ base) : St S w0 w (SLo B e size v n xs :: L2) := St.floor [] L2 s hB
theorem St.as0 {O' : Ob} (s : St S w0 w (O :: L2)) (hO : Framed O') (h : ∀ F, O w F → O' w F) : St S w0 w (O' :: L2) := St.as [] L2 s hO h
theorem St.focus1 (s : St S w0 w (A0 :: O :: L2)) : ∃ F, O w F ∧ Framed O ∧ (∀ i, F i → S i ∨ w0.heap.size ≤ i) ∧ ∀ w' O' M, St F w w' (O' :: M) → St S w0 w' (A0 :: O' :: (L2 ++ M)) := St.focus [A0] O L2 s
theorem St.blk1 {p : Nat} {t : TypeId} {cs : List Value} (s : St S w0 w (A0 :: BLo p t cs :: L2)) : Blk w p t cs := St.blk [A0] L2 s
theorem St.own1 {base : Nat} {e : TypeId} {size : Nat} {v : Value} {n : Nat} {xs : List Value} (s : St S w0 w (A0 :: SLo base e size v n xs :: L2)) : w.ownsRow base e size v n xs := St.own [A0] L2 s
theorem St.set1 {p : Nat} {t : TypeId} {cs : List Value} (s : St S w0 w (A0 :: BLo p t cs :: L2)) (i : Nat) (u : Value) : St S w0 (w.setCell ⟨p, i, none⟩ u) (A0 :: BLo p t (cs.set i u) :: L2) := St.set_ [A0] L2 s i u
theorem St.drop1 (s : St S w0 w (A0 :: O :: L2)) : St S w0 w (A0 :: L2) := St.drop [A0] O L2 s
theorem St.appended1 {base : Nat} {e : TypeId} {size : Nat} {v : Value} {n : Nat} {xs : List Value} {v' : Value} {n' : Nat} {xs' : List Value} (s : St S w0 w (A0 :: SLo base e size v n xs :: L2)) (ho : w'.ownsRow base e size v' n' xs') (hf : Fr (fun i => some i = v.ownBlock) w w') (h2 : v'.ownBlock = v.ownBlock ∨ v'.ownBlock = some w.heap.size) : St S w0 w' (A0 :: SLo base e size v' n' xs' :: L2) := St.appended [A0] L2 s ho hf h2
theorem St.floor1 {base : Nat} {e : TypeId} {size : Nat} {v : Value} {n : Nat} {xs : List Value} (s : St S w0 w (A0 :: SLo base e size v n xs :: L2)) {B : Nat} (hB : B ≤ base) : St S w0 w (A0 :: SLo B e size v n xs :: L2) := St.floor [A0] L2 s hB
theorem St.as1 {O' : Ob} (s : St S w0 w (A0 :: O :: L2)) (hO : Framed O') (h : ∀ F, O w F → O' w F) : St S w0 w (A0 :: O' :: L2) := St.as [A0] L2 s hO h
theorem St.focus2 (s : St S w0 w (A0 :: A1 :: O :: L2)) : ∃ F, O w F ∧ Framed O ∧ (∀ i, F i → S i ∨ w0.heap.size ≤ i) ∧ ∀ w' O' M, St F w w' (O' :: M) → St S w0 w' (A0 :: A1 :: O' :: (L2 ++ M)) := St.focus [A0, A1] O L2 s
theorem St.blk2 {p : Nat} {t : TypeId} {cs : List Value} (s : St S w0 w (A0 :: A1 :: BLo p t cs :: L2)) : Blk w p t cs := St.blk [A0, A1] L2 s
theorem St.own2 {base : Nat} {e : TypeId} {size : Nat} {v : Value} {n : Nat} {xs : List Value} (s : St S w0 w (A0 :: A1 :: SLo base e size v n xs :: L2)) : w.ownsRow base e size v n xs := St.own [A0, A1] L2 s
theorem St.set2 {p : Nat} {t : TypeId} {cs : List Value} (s : St S w0 w (A0 :: A1 :: BLo p t cs :: L2)) (i : Nat) (u : Value) : St S w0 (w.setCell ⟨p, i, none⟩ u) (A0 :: A1 :: BLo p t (cs.set i u) :: L2) := St.set_ [A0, A1] L2 s i u
theorem St.drop2 (s : St S w0 w (A0 :: A1 :: O :: L2)) : St S w0 w (A0 :: A1 :: L2) := St.drop [A0, A1] O L2 s
theorem St.appended2 {base : Nat} {e : TypeId} {size : Nat} {v : Value} {n : Nat} {xs : List Value} {v' : Value} {n' : Nat} {xs' : List Value} (s : St S w0 w (A0 :: A1 :: SLo base e size v n xs :: L2)) (ho : w'.ownsRow base e size v' n' xs') (hf : Fr (fun i => some i = v.ownBlock) w w') (h2 : v'.ownBlock = v.ownBlock ∨ v'.ownBlock = some w.heap.size) : St S w0 w' (A0 :: A1 :: SLo base e size v' n' xs' :: L2) := St.appended [A0, A1] L2 s ho hf h2
theorem St.floor2 {base : Nat} {e : TypeId} {size : Nat} {v : Value} {n : Nat} {xs : List Value} (s : St S w0 w (A0 :: A1 :: SLo base e size v n xs :: L2)) {B : Nat} (hB : B ≤ base) : St S w0 w (A0 :: A1 :: SLo B e size v n xs :: L2) := St.floor [A0, A1] L2 s hB
theorem St.as2 {O' : Ob} (s : St S w0 w (A0 :: A1 :: O :: L2)) (hO : Framed O') (h : ∀ F, O w F → O' w F) : St S w0 w (A0 :: A1 :: O' :: L2) := St.as [A0, A1] L2 s hO h
theorem St.focus3 (s : St S w0 w (A0 :: A1 :: A2 :: O :: L2)) : ∃ F, O w F ∧ Framed O ∧ (∀ i, F i → S i ∨ w0.heap.size ≤ i) ∧ ∀ w' O' M, St F w w' (O' :: M) → St S w0 w' (A0 :: A1 :: A2 :: O' :: (L2 ++ M)) := St.focus [A0, A1, A2] O L2 s
theorem St.blk3 {p : Nat} {t : TypeId} {cs : List Value} (s : St S w0 w (A0 :: A1 :: A2 :: BLo p t cs :: L2)) : Blk w p t cs := St.blk [A0, A1, A2] L2 s
theorem St.own3 {base : Nat} {e : TypeId} {size : Nat} {v : Value} {n : Nat} {xs : List Value} (s : St S w0 w (A0 :: A1 :: A2 :: SLo base e size v n xs :: L2)) : w.ownsRow base e size v n xs := St.own [A0, A1, A2] L2 s
theorem St.set3 {p : Nat} {t : TypeId} {cs : List Value} (s : St S w0 w (A0 :: A1 :: A2 :: BLo p t cs :: L2)) (i : Nat) (u : Value) : St S w0 (w.setCell ⟨p, i, none⟩ u) (A0 :: A1 :: A2 :: BLo p t (cs.set i u) :: L2) := St.set_ [A0, A1, A2] L2 s i u
theorem St.drop3 (s : St S w0 w (A0 :: A1 :: A2 :: O :: L2)) : St S w0 w (A0 :: A1 :: A2 :: L2) := St.drop [A0, A1, A2] O L2 s
theorem St.appended3 {base : Nat} {e : TypeId} {size : Nat} {v : Value} {n : Nat} {xs : List Value} {v' : Value} {n' : Nat} {xs' : List Value} (s : St S w0 w (A0 :: A1 :: A2 :: SLo base e size v n xs :: L2)) (ho : w'.ownsRow base e size v' n' xs') (hf : Fr (fun i => some i = v.ownBlock) w w') (h2 : v'.ownBlock = v.ownBlock ∨ v'.ownBlock = some w.heap.size) : St S w0 w' (A0 :: A1 :: A2 :: SLo base e size v' n' xs' :: L2) := St.appended [A0, A1, A2] L2 s ho hf h2
theorem St.floor3 {base : Nat} {e : TypeId} {size : Nat} {v : Value} {n : Nat} {xs : List Value} (s : St S w0 w (A0 :: A1 :: A2 :: SLo base e size v n xs :: L2)) {B : Nat} (hB : B ≤ base) : St S w0 w (A0 :: A1 :: A2 :: SLo B e size v n xs :: L2) := St.floor [A0, A1, A2] L2 s hB
theorem St.as3 {O' : Ob} (s : St S w0 w (A0 :: A1 :: A2 :: O :: L2)) (hO : Framed O') (h : ∀ F, O w F → O' w F) : St S w0 w (A0 :: A1 :: A2 :: O' :: L2) := St.as [A0, A1, A2] L2 s hO h
theorem St.focus4 (s : St S w0 w (A0 :: A1 :: A2 :: A3 :: O :: L2)) : ∃ F, O w F ∧ Framed O ∧ (∀ i, F i → S i ∨ w0.heap.size ≤ i) ∧ ∀ w' O' M, St F w w' (O' :: M) → St S w0 w' (A0 :: A1 :: A2 :: A3 :: O' :: (L2 ++ M)) := St.focus [A0, A1, A2, A3] O L2 s
theorem St.blk4 {p : Nat} {t : TypeId} {cs : List Value} (s : St S w0 w (A0 :: A1 :: A2 :: A3 :: BLo p t cs :: L2)) : Blk w p t cs := St.blk [A0, A1, A2, A3] L2 s
theorem St.own4 {base : Nat} {e : TypeId} {size : Nat} {v : Value} {n : Nat} {xs : List Value} (s : St S w0 w (A0 :: A1 :: A2 :: A3 :: SLo base e size v n xs :: L2)) : w.ownsRow base e size v n xs := St.own [A0, A1, A2, A3] L2 s
theorem St.set4 {p : Nat} {t : TypeId} {cs : List Value} (s : St S w0 w (A0 :: A1 :: A2 :: A3 :: BLo p t cs :: L2)) (i : Nat) (u : Value) : St S w0 (w.setCell ⟨p, i, none⟩ u) (A0 :: A1 :: A2 :: A3 :: BLo p t (cs.set i u) :: L2) := St.set_ [A0, A1, A2, A3] L2 s i u
theorem St.drop4 (s : St S w0 w (A0 :: A1 :: A2 :: A3 :: O :: L2)) : St S w0 w (A0 :: A1 :: A2 :: A3 :: L2) := St.drop [A0, A1, A2, A3] O L2 s
theorem St.appended4 {base : Nat} {e : TypeId} {size : Nat} {v : Value} {n : Nat} {xs : List Value} {v' : Value} {n' : Nat} {xs' : List Value} (s : St S w0 w (A0 :: A1 :: A2 :: A3 :: SLo base e size v n xs :: L2)) (ho : w'.ownsRow base e size v' n' xs') (hf : Fr (fun i => some i = v.ownBlock) w w') (h2 : v'.ownBlock = v.ownBlock ∨ v'.ownBlock = some w.heap.size) : St S w0 w' (A0 :: A1 :: A2 :: A3 :: SLo base e size v' n' xs' :: L2) := St.appended [A0, A1, A2, A3] L2 s ho hf h2
theorem St.floor4 {base : Nat} {e : TypeId} {size : Nat} {v : Value} {n : Nat} {xs : List Value} (s : St S w0 w (A0 :: A1 :: A2 :: A3 :: SLo base e size v n xs :: L2)) {B : Nat} (hB : B ≤ base) : St S w0 w (A0 :: A1 :: A2 :: A3 :: SLo B e size v n xs :: L2) := St.floor [A0, A1, A2, A3] L2 s hB
theorem St.as4 {O' : Ob} (s : St S w0 w (A0 :: A1 :: A2 :: A3 :: O :: L2)) (hO : Framed O') (h : ∀ F, O w F → O' w F) : St S w0 w (A0 :: A1 :: A2 :: A3 :: O' :: L2) := St.as [A0, A1, A2, A3] L2 s hO h
theorem St.focus5 (s : St S w0 w (A0 :: A1 :: A2 :: A3 :: A4 :: O :: L2)) : ∃ F, O w F ∧ Framed O ∧ (∀ i, F i → S i ∨ w0.heap.size ≤ i) ∧ ∀ w' O' M, St F w w' (O' :: M) → St S w0 w' (A0 :: A1 :: A2 :: A3 :: A4 :: O' :: (L2 ++ M)) := St.focus [A0, A1, A2, A3, A4] O L2 s
theorem St.blk5 {p : Nat} {t : TypeId} {cs : List Value} (s : St S w0 w (A0 :: A1 :: A2 :: A3 :: A4 :: BLo p t cs :: L2)) : Blk w p t cs := St.blk [A0, A1, A2, A3, A4] L2 s
theorem St.own5 {base : Nat} {e : TypeId} {size : Nat} {v : Value} {n : Nat} {xs : List Value} (s : St S w0 w (A0 :: A1 :: A2 :: A3 :: A4 :: SLo base e size v n xs :: L2)) : w.ownsRow base e size v n xs := St.own [A0, A1, A2, A3, A4] L2 s
theorem St.set5 {p : Nat} {t : TypeId} {cs : List Value} (s : St S w0 w (A0 :: A1 :: A2 :: A3 :: A4 :: BLo p t cs :: L2)) (i : Nat) (u : Value) : St S w0 (w.setCell ⟨p, i, none⟩ u) (A0 :: A1 :: A2 :: A3 :: A4 :: BLo p t (cs.set i u) :: L2) := St.set_ [A0, A1, A2, A3, A4] L2 s i u
theorem St.drop5 (s : St S w0 w (A0 :: A1 :: A2 :: A3 :: A4 :: O :: L2)) : St S w0 w (A0 :: A1 :: A2 :: A3 :: A4 :: L2) := St.drop [A0, A1, A2, A3, A4] O L2 s
theorem St.appended5 {base : Nat} {e : TypeId} {size : Nat} {v : Value} {n : Nat} {xs : List Value} {v' : Value} {n' : Nat} {xs' : List Value} (s : St S w0 w (A0 :: A1 :: A2 :: A3 :: A4 :: SLo base e size v n xs :: L2)) (ho : w'.ownsRow base e size v' n' xs') (hf : Fr (fun i => some i = v.ownBlock) w w') (h2 : v'.ownBlock = v.ownBlock ∨ v'.ownBlock = some w.heap.size) : St S w0 w' (A0 :: A1 :: A2 :: A3 :: A4 :: SLo base e size v' n' xs' :: L2) := St.appended [A0, A1, A2, A3, A4] L2 s ho hf h2
theorem St.floor5 {base : Nat} {e : TypeId} {size : Nat} {v : Value} {n : Nat} {xs : List Value} (s : St S w0 w (A0 :: A1 :: A2 :: A3 :: A4 :: SLo base e size v n xs :: L2)) {B : Nat} (hB : B ≤ base) : St S w0 w (A0 :: A1 :: A2 :: A3 :: A4 :: SLo B e size v n xs :: L2) := St.floor [A0, A1, A2, A3, A4] L2 s hB
theorem St.as5 {O' : Ob} (s : St S w0 w (A0 :: A1 :: A2 :: A3 :: A4 :: O :: L2)) (hO : Framed O') (h : ∀ F, O w F → O' w F) : St S w0 w (A0 :: A1 :: A2 :: A3 :: A4 :: O' :: L2) := St.as [A0, A1, A2, A3, A4] L2 s hO h
end
section
variable {w0 w w' : World} {S : Nat → Prop} {L2 : List Ob} {A0 A1 A2 A3 A4 A5 A6 A7 O : Ob}
theorem St.blk6 {p : Nat} {t : TypeId} {cs : List Value} (s : St S w0 w (A0 :: A1 :: A2 :: A3 :: A4 :: A5 :: BLo p t cs :: L2)) : Blk w p t cs := St.blk [A0, A1, A2, A3, A4, A5] L2 s
theorem St.own6 {base : Nat} {e : TypeId} {size : Nat} {v : Value} {n : Nat} {xs : List Value} (s : St S w0 w (A0 :: A1 :: A2 :: A3 :: A4 :: A5 :: SLo base e size v n xs :: L2)) : w.ownsRow base e size v n xs := St.own [A0, A1, A2, A3, A4, A5] L2 s
theorem St.drop6 (s : St S w0 w (A0 :: A1 :: A2 :: A3 :: A4 :: A5 :: O :: L2)) : St S w0 w (A0 :: A1 :: A2 :: A3 :: A4 :: A5 :: L2) := St.drop [A0, A1, A2, A3, A4, A5] O L2 s
theorem St.blk7 {p : Nat} {t : TypeId} {cs : List Value} (s : St S w0 w (A0 :: A1 :: A2 :: A3 :: A4 :: A5 :: A6 :: BLo p t cs :: L2)) : Blk w p t cs := St.blk [A0, A1, A2, A3, A4, A5, A6] L2 s
theorem St.own7 {base : Nat} {e : TypeId} {size : Nat} {v : Value} {n : Nat} {xs : List Value} (s : St S w0 w (A0 :: A1 :: A2 :: A3 :: A4 :: A5 :: A6 :: SLo base e size v n xs :: L2)) : w.ownsRow base e size v n xs := St.own [A0, A1, A2, A3, A4, A5, A6] L2 s
theorem St.drop7 (s : St S w0 w (A0 :: A1 :: A2 :: A3 :: A4 :: A5 :: A6 :: O :: L2)) : St S w0 w (A0 :: A1 :: A2 :: A3 :: A4 :: A5 :: A6 :: L2) := St.drop [A0, A1, A2, A3, A4, A5, A6] O L2 s
theorem St.blk8 {p : Nat} {t : TypeId} {cs : List Value} (s : St S w0 w (A0 :: A1 :: A2 :: A3 :: A4 :: A5 :: A6 :: A7 :: BLo p t cs :: L2)) : Blk w p t cs := St.blk [A0, A1, A2, A3, A4, A5, A6, A7] L2 s
theorem St.own8 {base : Nat} {e : TypeId} {size : Nat} {v : Value} {n : Nat} {xs : List Value} (s : St S w0 w (A0 :: A1 :: A2 :: A3 :: A4 :: A5 :: A6 :: A7 :: SLo base e size v n xs :: L2)) : w.ownsRow base e size v n xs := St.own [A0, A1, A2, A3, A4, A5, A6, A7] L2 s
theorem St.drop8 (s : St S w0 w (A0 :: A1 :: A2 :: A3 :: A4 :: A5 :: A6 :: A7 :: O :: L2)) : St S w0 w (A0 :: A1 :: A2 :: A3 :: A4 :: A5 :: A6 :: A7 :: L2) := St.drop [A0, A1, A2, A3, A4, A5, A6, A7] O L2 s
end
end Go.Own
namespace Go.Proofs.YtinieljgcenemaaDoor
open Go.RowKit Go.Own Go.Tbl Go.Huf Go.Hin
set_option linter.unusedVariables false
set_option maxRecDepth 100000

/-- the kinds and their prefixes -/
def KP (k p : Nat) : Prop := (k = 128 ∧ p = 7) ∨ (k = 64 ∧ p = 6) ∨ (k = 32 ∧ p = 5) ∨ (k = 16 ∧ p = 4) ∨ (k = 0 ∧ p = 4)
theorem KP.bd {k p : Nat} (h : KP k p) : k < 256 ∧ 1 ≤ p ∧ p ≤ 8 := by unfold KP at h; omega
set_option maxHeartbeats 2000000 in
theorem tz8_c (k p : Nat) (h : (k = 128 ∧ p = 7) ∨ (k = 64 ∧ p = 6) ∨ (k = 32 ∧ p = 5) ∨ (k = 16 ∧ p = 4)) (z : Int) (hz : z = (k : Int)) (w : World) : Calls Tryd.prog 88 #[.int .u8 z] w fun e w' => e = .returned (.int .i64 (p : Int)) ∧ w = w' := by
  subst hz
  rcases h with ⟨rfl, rfl⟩ | ⟨rfl, rfl⟩ | ⟨rfl, rfl⟩ | ⟨rfl, rfl⟩
  all_goals
    go_enter Tryd.func88, Tryd.ntmps88
    go_wp2
    go_ret
    exact ⟨by kernel_rfl, rfl⟩
set_option maxHeartbeats 2000000 in
theorem ePrefix_c (k p : Nat) (h : KP k p) (z : Int) (hz : z = (k : Int)) (w : World) : Calls Tryd.prog 70 #[.int .u8 z] w fun e w' => e = .returned (.int .i64 (p : Int)) ∧ w = w' := by
  by_cases h0 : k = 0
  · obtain rfl : p = 4 := by unfold KP at h; omega
    subst hz h0
    go_enter Tryd.func70, Tryd.ntmps70
    go_wp2
    go_ret
    exact ⟨rfl, rfl⟩
  · have h' : (k = 128 ∧ p = 7) ∨ (k = 64 ∧ p = 6) ∨ (k = 32 ∧ p = 5) ∨ (k = 16 ∧ p = 4) := by unfold KP at h; omega
    have kb : (z == 0) = false := by simp; omega
    have H := Lib.hid h'
    have Hz := Lib.hid hz
    clear h' h h0 hz
    go_enter Tryd.func70, Tryd.ntmps70
    go_wp2_with (first
      | (go_at_call 88; (with_reducible refine (tz8_c k p H.out z Hz.out _).mono ?_); rintro e w2 ⟨rfl, rfl⟩))
    go_ret
    exact ⟨rfl, rfl⟩
theorem PutInt_z (x m v : Nat) (hx : x < 256) (h1 : 1 ≤ m) (h8 : m ≤ 8) (hv : v ≤ 2147483647) (L : List UInt8) (hL : putB (2 ^ m - 1) (topOf x m) v = L) (zx : Int) (hzx : zx = (x : Int)) (z : Int) (hz : z = (m : Int)) (zv : Int) (hzv : zv = (v : Int)) (N : Nat) (hN : L.length = N) (w : World) :
    Calls Tryd.prog 69 #[.int .u8 zx, .int .i64 z, .int .i64 zv] w fun e w' => ∃ A c, e = .returned (.tuple #[.slice A N c, .int .i64 0]) ∧ w'.ownsRow w.heap.size 5 1 (.slice A N c) N (L.map BV) ∧ Below w.heap.size w w' := by
  subst hzx
  refine (PutInt_ok x m v hx h1 h8 hv L hL z hz zv hzv N hN w).mono ?_
  rintro e w' ⟨A, c, rfl, ho, hb⟩
  exact ⟨A, c, rfl, own_base2 ho (Nat.le_succ _), hb⟩
/-- what a call answers that makes octets -/
def MadeB (w : World) (L : List UInt8) (N : Nat) (e : Ending) (w' : World) : Prop := ∃ A c, e = .returned (.slice A N c) ∧ w'.ownsRow w.heap.size 5 1 (.slice A N c) N (L.map BV) ∧ Below w.heap.size w w'
set_option maxHeartbeats 2000000 in
theorem eNumber_c (k p v : Nat) (h : KP k p) (hv : v ≤ 2147483647) (L : List UInt8) (hL : putB (2 ^ p - 1) (topOf k p) v = L) (N : Nat) (hN : L.length = N) (z : Int) (hz : z = (k : Int)) (zv : Int) (hzv : zv = (v : Int)) (w : World) :
    Calls Tryd.prog 54 #[.int .u8 z, .int .i64 zv] w (MadeB w L N) := by
  obtain ⟨hx, h1, h8⟩ := h.bd
  have H := Lib.hid h
  have HL := Lib.hid hL
  have HN := Lib.hid hN
  have Hz := Lib.hid hz
  have Hzv := Lib.hid hzv
  clear h hL hN hz hzv
  go_enter Tryd.func54, Tryd.ntmps54
  go_wp2_with (first
    | (go_at_call 70; (with_reducible refine (ePrefix_c k p H.out z Hz.out _).mono ?_); rintro e w2 ⟨rfl, rfl⟩)
    | (go_at_call 69; (with_reducible refine (PutInt_z k p v hx h1 h8 hv L HL.out z Hz.out _ rfl zv Hzv.out N HN.out _).mono ?_); rintro e w3 ⟨A, c, rfl, ho, hb⟩; have Ho := Lib.hid ho; have Hb := Lib.hid hb; clear ho hb))
  go_ret
  exact ⟨A, c, rfl, Ho.out, Hb.out⟩
/-- PutText, in hpack's words -/
theorem PutText_t (s : ByteArray) (hs : s.size ≤ 16777216) (L : List UInt8) (hL : txt s = L) (N : Nat) (hN : L.length = N) (w : World) (hC : Cnt w) : Calls Tryd.prog 68 #[.string s] w (MadeB w L N) :=
  PutText_any s _ (packT_pk _) hs L hL N hN w hC
set_option maxHeartbeats 4000000 in
theorem eWritten_c (k p i : Nat) (h : KP k p) (hi : i ≤ 2147483647) (f : Fld) (hn : f.n.size ≤ 16777216) (hv : f.v.size ≤ 16777216) (L : List UInt8) (hL : litB k p i f = L) (N : Nat) (hN : L.length = N) (z : Int) (hz : z = (k : Int)) (zi : Int) (hzi : zi = (i : Int)) (w : World) (hC : Cnt w) :
    Calls Tryd.prog 53 #[.int .u8 z, .int .i64 zi, .agg #[.string f.n, .string f.v, .bool f.nv]] w (MadeB w L N) := by
  obtain ⟨P1, hP1⟩ : ∃ P1, putB (2 ^ p - 1) (topOf k p) i = P1 := ⟨_, rfl⟩
  obtain ⟨N1, hN1⟩ : ∃ N1, txt f.n = N1 := ⟨_, rfl⟩
  obtain ⟨V1, hV1⟩ : ∃ V1, txt f.v = V1 := ⟨_, rfl⟩
  obtain ⟨a, ha⟩ : ∃ a, P1.length = a := ⟨_, rfl⟩
  obtain ⟨b, hb⟩ : ∃ b, N1.length = b := ⟨_, rfl⟩
  obtain ⟨d, hd⟩ : ∃ d, V1.length = d := ⟨_, rfl⟩
  have sP : a ≤ 6 := by rw [← ha, ← hP1]; exact putB_le _ _ _ hi
  have sN : b ≤ 16777222 := by rw [← hb, ← hN1]; have := txt_len f.n (by omega); omega
  have sV : d ≤ 16777222 := by rw [← hd, ← hV1]; have := txt_len f.v (by omega); omega
  have Hk := Lib.hid h
  have HP1 := Lib.hid hP1
  have HN1 := Lib.hid hN1
  have HV1 := Lib.hid hV1
  have Ha := Lib.hid ha
  have Hb := Lib.hid hb
  have Hd := Lib.hid hd
  have Hz := Lib.hid hz
  have Hzi := Lib.hid hzi
  have HC : Hid (Cnt (w.alloc (.cells #[.string f.n, .string f.v, .bool f.nv] 38))) := hC.fr ((Fr.refl (fun _ => False) _).alloc _) (fun h => h)
  have HCp := Lib.hid hC.pos
  have HB0 : Hid (Below w.heap.size w (w.alloc (.cells #[.string f.n, .string f.v, .bool f.nv] 38))) := (Below.refl _ _).alloc (Nat.le_refl _) _
  have X0 : Hid (Blk (w.alloc (.cells #[.string f.n, .string f.v, .bool f.nv] 38)) w.heap.size 38 [.string f.n, .string f.v, .bool f.nv]) := Blk.new w 38 [.string f.n, .string f.v, .bool f.nv]
  by_cases h0 : i = 0
  · have k0 : (zi == 0) = true := by simp; omega
    have hcat : P1 ++ N1 ++ V1 = L := by rw [← hL, litB, if_pos h0, hP1, hN1, hV1, List.append_assoc]
    have hlen : a + b + d = N := by rw [← hN, ← hcat, List.length_append, List.length_append, ha, hb, hd]
    have Hcat := Lib.hid hcat
    have Hlen := Lib.hid hlen
    clear hP1 hN1 hV1 ha hb hd hL hN hz hzi hC h h0 hcat hlen
    go_enter Tryd.func53, Tryd.ntmps53
    go_wp2_with (first
      | (go_at_call 54; (with_reducible refine (eNumber_c k p i Hk.out hi P1 HP1.out a Ha.out z Hz.out zi Hzi.out _).mono ?_); rintro e w2 ⟨A2, c2, rfl, ho, hb⟩
         have B2 := Lib.hid (HB0.out.trans (hb.mono (by simp)))
         have O2 := Lib.hid (own_base2 ho (B := w.heap.size) (by simp))
         have C2 := Lib.hid (HC.out.below hb)
         have X2 := X0.out.below hb (by simp)
         have x0 : w2.cell? ⟨w.heap.size, 0, none⟩ = some (.string f.n) := X2.cell 0
         have U2 := Lib.hid (fun g hg => (ho.lt g hg).1)
         have X2 := Lib.hid X2
         clear hb ho)
      | (go_at_call 68; (with_reducible refine (PutText_t f.v hv V1 HV1.out d Hd.out _ C4.out).mono ?_); rintro e w5 ⟨A5, c5, rfl, ho, hb⟩
         have B5 := Lib.hid (B4.out.trans (hb.mono B4.out.size))
         have O5 := Lib.hid (own_fr (S := fun i => w4.heap.size ≤ i) O4.out (Fr.of_below hb (fun _ _ h => h)) (fun g hg h => by have := own_lt O4.out hg; omega))
         have R5 := Lib.hid (Rd.of_own ho)
         clear hb ho)
      | (go_at_call 68; (with_reducible refine (PutText_t f.n hn N1 HN1.out b Hb.out _ C2.out).mono ?_); rintro e w3 ⟨A3, c3, rfl, ho, hb⟩
         have B3 := Lib.hid (B2.out.trans (hb.mono B2.out.size))
         have O3 := Lib.hid (own_fr (S := fun i => w2.heap.size ≤ i) O2.out (Fr.of_below hb (fun _ _ h => h)) (fun g hg h => by have := own_lt O2.out hg; omega))
         have R3 := Lib.hid (Rd.of_own ho)
         have C3 := Lib.hid (C2.out.below hb)
         have X3 := Lib.hid (X2.out.below hb (Blk.lt X2.out))
         clear hb ho x0)
      | (at_builtin
         refine wpList_append_rd rfl (.tmp 18) (.tmp 21) 29 rfl E31 (.slice A4 (a + b) c4) (a + b) ((P1 ++ N1).map BV) rfl O5.out A5 d c5 (V1.map BV) rfl R5.out (BV_one _) (by omega) (by unfold maxLen; omega) B5.out.size ?_
         intro A6 c6 w6 ho6 hf6 _
         rw [← List.map_append] at ho6
         have O6 := Lib.hid ho6
         have B6 := Lib.hid (B5.out.trans (hf6.below B5.out.size (fun i _ e => (O5.out.lt i e.symm).1)))
         clear ho6 hf6)
      | (at_builtin
         refine wpList_append_rd rfl (.tmp 13) (.tmp 16) 29 rfl E31 (.slice A2 a c2) a (P1.map BV) rfl O3.out A3 b c3 (N1.map BV) rfl R3.out (BV_one _) (by omega) (by unfold maxLen; omega) B3.out.size ?_
         intro A4 c4 w4 ho4 hf4 _
         rw [← List.map_append] at ho4
         have O4 := Lib.hid ho4
         have B4 := Lib.hid (B3.out.trans (hf4.below B3.out.size (fun i _ e => (O3.out.lt i e.symm).1)))
         have C4 := Lib.hid (C3.out.fr hf4 (fun e => by have := (O3.out.lt _ e.symm).1; have := HCp.out; omega))
         have x1 : w4.cell? ⟨w.heap.size, 1, none⟩ = some (.string f.v) := (X3.out.fr hf4 (fun e => by have := U2.out _ e.symm; simp at this; omega)).cell 1
         clear ho4 hf4))
    go_ret
    exact ⟨A6, c6, by rw [← Hlen.out]; rfl, by rw [← Hlen.out, ← Hcat.out]; exact O6.out, B6.out⟩
  · have k0 : (zi == 0) = false := by simp; omega
    have hcat : P1 ++ V1 = L := by rw [← hL, litB, if_neg h0, hP1, hV1, List.nil_append]
    have hlen : a + d = N := by rw [← hN, ← hcat, List.length_append, ha, hd]
    have Hcat := Lib.hid hcat
    have Hlen := Lib.hid hlen
    clear hP1 hN1 hV1 ha hb hd hL hN hz hzi hC h h0 hcat hlen
    go_enter Tryd.func53, Tryd.ntmps53
    go_wp2_with (first
      | (go_at_call 54; (with_reducible refine (eNumber_c k p i Hk.out hi P1 HP1.out a Ha.out z Hz.out zi Hzi.out _).mono ?_); rintro e w2 ⟨A2, c2, rfl, ho, hb⟩
         have B2 := Lib.hid (HB0.out.trans (hb.mono (by simp)))
         have O2 := Lib.hid (own_base2 ho (B := w.heap.size) (by simp))
         have C2 := Lib.hid (HC.out.below hb)
         have x1 : w2.cell? ⟨w.heap.size, 1, none⟩ = some (.string f.v) := (X0.out.below hb (by simp)).cell 1
         clear hb ho)
      | (go_at_call 68; (with_reducible refine (PutText_t f.v hv V1 HV1.out d Hd.out _ C2.out).mono ?_); rintro e w5 ⟨A5, c5, rfl, ho, hb⟩
         have B5 := Lib.hid (B2.out.trans (hb.mono B2.out.size))
         have O5 := Lib.hid (own_fr (S := fun i => w2.heap.size ≤ i) O2.out (Fr.of_below hb (fun _ _ h => h)) (fun g hg h => by have := own_lt O2.out hg; omega))
         have R5 := Lib.hid (Rd.of_own ho)
         clear hb ho)
      | (at_builtin
         refine wpList_append_rd rfl (.tmp 18) (.tmp 21) 29 rfl E31 (.slice A2 a c2) a (P1.map BV) rfl O5.out A5 d c5 (V1.map BV) rfl R5.out (BV_one _) (by omega) (by unfold maxLen; omega) B5.out.size ?_
         intro A6 c6 w6 ho6 hf6 _
         rw [← List.map_append] at ho6
         have O6 := Lib.hid ho6
         have B6 := Lib.hid (B5.out.trans (hf6.below B5.out.size (fun i _ e => (O5.out.lt i e.symm).1)))
         clear ho6 hf6))
    go_ret
    exact ⟨A6, c6, by rw [← Hlen.out]; rfl, by rw [← Hlen.out, ← Hcat.out]; exact O6.out, B6.out⟩
end Go.Proofs.YtinieljgcenemaaDoor
namespace Go.Proofs.YtinieljgcenemaaDoor
open Go.RowKit Go.Own Go.Tbl Go.Huf Go.Hin
set_option linter.unusedVariables false
set_option maxRecDepth 100000
attribute [local go_sem ↓] Go.wp_at_zero Go.wp_at_succ

/-- the program's table, as a thing -/
abbrev PTo (q h : Nat) (l : List Fld) : Ob := fun w F => PT w q F h l
theorem framed_PTo (q h : Nat) (l : List Fld) : Framed (PTo q h l) := ⟨fun w F t => t.lt, fun w w' F S t hf hn => t.fr hf hn⟩
/-- octets that the call made -/
abbrev BSo (base : Nat) (A : Option Addr) (c N : Nat) (L : List UInt8) : Ob := SLo base 5 1 (.slice A N c) N (L.map BV)
/-- a table that a call has changed, alone -/
theorem PT.st {w w' : World} {q h' : Nat} {F F' : Nat → Prop} {l' : List Fld} (t : PT w' q F' h' l') (hF : ∀ i, F' i → F i ∨ w.heap.size ≤ i) (hf : Fr F w w') : St F w w' [PTo q h' l'] := St.changed (framed_PTo ..) t hF hf
/-- octets that were made -/
theorem st_bytes {S : Nat → Prop} {w0 w w' : World} {L : List Ob} (s : St S w0 w L) {A : Option Addr} {c N : Nat} {bs : List UInt8} (ho : w'.ownsRow w.heap.size 5 1 (.slice A N c) N (bs.map BV)) (hb : Below w.heap.size w w') : St S w0 w' (L ++ [BSo w0.heap.size A c N bs]) :=
  St.floor L [] (s.add (St.made_own ho hb)) s.size
theorem fok_of {f : Fld} {n v : Nat} (hn : f.n.size ≤ n) (hv : f.v.size ≤ v) (h1 : n ≤ 140737488355328) (h2 : v ≤ 140737488355328) : fok f := ⟨by omega, by omega⟩
theorem pFind_f {w : World} {p h : Nat} {F : Nat → Prop} {l : List Fld} (t : PT w p F h l) (f : Fld) (hf : fok f) (i : Nat) (b : Bool) (hR : findF (statL ++ l) f = (i, b)) : Calls Tryd.prog 52 #[.pointer (some ⟨p, 0, none⟩), .agg #[.string f.n, .string f.v, .bool f.nv]] w fun e w' => e = .returned (.tuple #[.int .i64 (i : Int), .bool b]) ∧ Below w.heap.size w w' := by
  refine (pFind_c t f hf).mono fun e w' ⟨he, hb⟩ => ⟨?_, hb⟩
  rw [he, hR]
set_option maxHeartbeats 2000000 in
/-- update: the table's Max is set; its octets -/
theorem eUpd_c {w : World} {p q h : Nat} {F : Nat → Prop} {l : List Fld} {cs : List Value} (t : PT w q F h l) (b : Blk w p 44 (.pointer (some ⟨q, 0, none⟩) :: cs)) (n : Nat) (hn : n ≤ 65536) (L : List UInt8) (hL : updB n = L) (N : Nat) (hN : L.length = N) :
    Calls Tryd.prog 51 #[.pointer (some ⟨p, 0, none⟩), .int .i64 (n : Int)] w fun e w' => ∃ A c, e = .returned (.slice A N c) ∧ St F w w' [PTo q n (pre n l), BSo w.heap.size A c N L] := by
  have y0 : w.cell? ⟨p, 0, none⟩ = some (.pointer (some ⟨q, 0, none⟩)) := b.cell 0
  have Ht := Lib.hid t
  have HL : Hid (putB (2 ^ 5 - 1) (topOf 32 5) n = L) := Lib.hid hL
  have HN := Lib.hid hN
  have Hc := Lib.hid (clampI_nat n hn)
  have h64 : i64 (n : Int) := by unfold i64; omega
  have hKP : KP 32 5 := by unfold KP; omega
  have hn2 : n ≤ 2147483647 := by omega
  clear t b hL hN
  go_enter Tryd.func51, Tryd.ntmps51
  go_wp2_with (first
    | (go_at_call 66; (with_reducible refine (pSetMax_c Ht.out (n : Int) h64).mono ?_); rintro e w2 ⟨F2, rfl, t2, hF2, f2⟩
       rw [Hc.out] at t2
       have T2 := Lib.hid (PT.st t2 hF2 f2)
       clear t2 hF2 f2)
    | (go_at_call 54; (with_reducible refine (eNumber_c 32 5 n hKP hn2 L HL.out N HN.out 32 rfl _ rfl _).mono ?_); rintro e w3 ⟨A, c, rfl, ho, hb⟩
       have T3 := Lib.hid (st_bytes T2.out ho hb)
       clear ho hb))
  go_ret
  exact ⟨A, c, rfl, T3.out⟩
end Go.Proofs.YtinieljgcenemaaDoor
namespace Go.Proofs.YtinieljgcenemaaDoor
open Go.RowKit Go.Own Go.Tbl Go.Huf Go.Hin
set_option linter.unusedVariables false
set_option maxRecDepth 100000
attribute [local go_sem ↓] Go.wp_at_zero Go.wp_at_succ

theorem pFind_p {w : World} {p h : Nat} {F : Nat → Prop} {l : List Fld} (t : PT w p F h l) (n v : ByteArray) (nv : Bool) (hf : fok ⟨n, v, nv⟩) (i : Nat) (b : Bool) (hR : findF (statL ++ l) ⟨n, v, nv⟩ = (i, b)) : Calls Tryd.prog 52 #[.pointer (some ⟨p, 0, none⟩), .agg #[.string n, .string v, .bool nv]] w fun e w' => e = .returned (.tuple #[.int .i64 (i : Int), .bool b]) ∧ Below w.heap.size w w' := pFind_f t ⟨n, v, nv⟩ hf i b hR
theorem pAdd_p {w : World} {p h : Nat} {F : Nat → Prop} {l : List Fld} (t : PT w p F h l) (n v : ByteArray) (nv : Bool) (hf : fok ⟨n, v, nv⟩) (L : List Fld) (hL : addF h ⟨n, v, nv⟩ l = L) : Calls Tryd.prog 56 #[.pointer (some ⟨p, 0, none⟩), .agg #[.string n, .string v, .bool nv]] w fun e w' => ∃ F', e = .returned (.tuple #[]) ∧ PT w' p F' h L ∧ (∀ i, F' i → F i ∨ w.heap.size ≤ i) ∧ Fr F w w' := by
  subst hL
  exact pAdd_c t ⟨n, v, nv⟩ hf
theorem eWritten_p (k p i : Nat) (h : KP k p) (hi : i ≤ 2147483647) (n v : ByteArray) (nv : Bool) (hn : n.size ≤ 16777216) (hv : v.size ≤ 16777216) (L : List UInt8) (hL : litB k p i ⟨n, v, nv⟩ = L) (N : Nat) (hN : L.length = N) (z : Int) (hz : z = (k : Int)) (zi : Int) (hzi : zi = (i : Int)) (w : World) (hC : Cnt w) :
    Calls Tryd.prog 53 #[.int .u8 z, .int .i64 zi, .agg #[.string n, .string v, .bool nv]] w (MadeB w L N) := eWritten_c k p i h hi ⟨n, v, nv⟩ hn hv L hL N hN z hz zi hzi w hC
/-- what a call leaves that writes a field -/
def FieldP (w : World) (F : Nat → Prop) (q h : Nat) (l' : List Fld) (N : Nat) (L : List UInt8) (e : Ending) (w' : World) : Prop := ∃ A c, e = .returned (.slice A N c) ∧ St F w w' [PTo q h l', BSo w.heap.size A c N L]
theorem st_drop1 {S : Nat → Prop} {w0 w : World} {A O : Ob} {L : List Ob} (s : St S w0 w (A :: O :: L)) : St S w0 w (A :: L) := s.drop1
theorem bool_flip {b : Bool} (h : b = false) : ¬ b = true := by simp [h]
set_option maxHeartbeats 4000000 in
theorem eField_never {w : World} {p q h : Nat} {F : Nat → Prop} {l : List Fld} {cs : List Value} (t : PT w q F h l) (b : Blk w p 44 (.pointer (some ⟨q, 0, none⟩) :: cs)) (hC : Cnt w) (hFC : ¬ F 0)
    (n v : ByteArray) (hn : n.size ≤ 16777216) (hv : v.size ≤ 16777216) (i : Nat) (b1 : Bool) (hf : findF (statL ++ l) ⟨n, v, true⟩ = (i, b1)) (hi : i ≤ 2147483647)  (L : List UInt8) (l' : List Fld) (hL : oneE statL h l ⟨n, v, true⟩ = (L, l')) (N : Nat) (hN : L.length = N) :
    Calls Tryd.prog 40 #[.pointer (some ⟨p, 0, none⟩), .agg #[.string n, .string v, .bool true]] w (FieldP w F q h l' N L) := by
  have hfo : fok ⟨n, v, true⟩ := fok_of (f := ⟨n, v, true⟩) hn hv (by omega) (by omega)
  have hL2 : litB 16 4 i ⟨n, v, true⟩ = L ∧ l = l' := by rw [oneE, if_pos rfl, hf] at hL; injection hL with h1 h2; exact ⟨h1, h2⟩
  obtain ⟨hL2, rfl⟩ := hL2
  have hKP : KP 16 4 := by unfold KP; omega
  have hfn : n.size ≤ 140737488355328 := by omega
  have hfv : v.size ≤ 140737488355328 := by omega
  have y0 : w.cell? ⟨p, 0, none⟩ = some (.pointer (some ⟨q, 0, none⟩)) := b.cell 0
  have S1 : Hid (St F w (w.alloc (.cells #[.string n, .string v, .bool true] 38)) [PTo q h l, BLo w.heap.size 38 [.string n, .string v, .bool true]]) := (St.start (framed_PTo ..) t).block 38 [.string n, .string v, .bool true]
  have S1d : Hid (St F w (w.alloc (.cells #[.string n, .string v, .bool true] 38)).drew [PTo q h l, BLo w.heap.size 38 [.string n, .string v, .bool true]]) := S1.out.drew
  have HF := Lib.hid hf
  have HL := Lib.hid hL2
  have HN := Lib.hid hN
  have HC := Lib.hid hC
  have Hb := Lib.hid b
  have Hfo := Lib.hid hfo
  have x0 : (w.alloc (.cells #[.string n, .string v, .bool true] 38)).cell? ⟨w.heap.size, 0, none⟩ = some (.string n) := (Blk.new w 38 [.string n, .string v, .bool true]).cell 0
  have x1 : (w.alloc (.cells #[.string n, .string v, .bool true] 38)).cell? ⟨w.heap.size, 1, none⟩ = some (.string v) := (Blk.new w 38 [.string n, .string v, .bool true]).cell 1
  have x2 : (w.alloc (.cells #[.string n, .string v, .bool true] 38)).cell? ⟨w.heap.size, 2, none⟩ = some (.bool true) := (Blk.new w 38 [.string n, .string v, .bool true]).cell 2
  have yp : p < w.heap.size := Blk.lt b
  have y1 : (w.alloc (.cells #[.string n, .string v, .bool true] 38)).cell? ⟨p, 0, none⟩ = some (.pointer (some ⟨q, 0, none⟩)) := (b.alloc _).cell 0
  have y1' : (w.alloc (.cells #[.string n, .string v, .bool true] 38)).drew.cell? ⟨p, 0, none⟩ = some (.pointer (some ⟨q, 0, none⟩)) := y1
  have x0' : (w.alloc (.cells #[.string n, .string v, .bool true] 38)).drew.cell? ⟨w.heap.size, 0, none⟩ = some (.string n) := x0
  have x1' : (w.alloc (.cells #[.string n, .string v, .bool true] 38)).drew.cell? ⟨w.heap.size, 1, none⟩ = some (.string v) := x1
  have x2' : (w.alloc (.cells #[.string n, .string v, .bool true] 38)).drew.cell? ⟨w.heap.size, 2, none⟩ = some (.bool true) := x2
  clear t b hf hL hL2 hN hC
  go_enter Tryd.func40, Tryd.ntmps40
  go_wp2
  go_region_with
    (first
    | (go_at_call 52; (obtain ⟨F2, t2, _⟩ := S1d.out.focus0); (with_reducible refine (pFind_p t2 n v true Hfo.out i b1 HF.out).mono ?_); rintro e w2 ⟨rfl, hb⟩
       have S2 := Lib.hid (S1d.out.next hb)
       have X2 := S2.out.blk1
       have z0 := X2.cell 0
       have z1 := X2.cell 1
       have z2 := X2.cell 2
       have Y2 := ((Hb.out.alloc (.cells #[.string n, .string v, .bool true] 38)).drew.below hb (Nat.lt_of_lt_of_le yp S1d.out.size))
       have v0 := Y2.cell 0
       have Y2 := Lib.hid Y2
       simp only [List.getElem?_cons_zero, List.getElem?_cons_succ] at z0 z1 z2 v0
       have C2 := Lib.hid (HC.out.fr S2.out.fr hFC)
       clear hb t2 X2))
  all_goals
    clear y1 y1' x0 x1 x2 x0' x1' x2' y0
    go_wp2_with (first
      | (go_at_call 53; (with_reducible refine (eWritten_p 16 4 i hKP hi n v true hn hv L HL.out N HN.out 16 rfl _ rfl _ C2.out).mono ?_); rintro e w3 ⟨A, c, rfl, ho, hb⟩
         have S3 := Lib.hid (st_bytes (st_drop1 S2.out) ho hb)
         clear ho hb))
    go_ret
    exact ⟨A, c, rfl, S3.out⟩
set_option maxHeartbeats 4000000 in
theorem eField_whole {w : World} {p q h : Nat} {F : Nat → Prop} {l : List Fld} {cs : List Value} (t : PT w q F h l) (b : Blk w p 44 (.pointer (some ⟨q, 0, none⟩) :: cs)) (hC : Cnt w) (hFC : ¬ F 0)
    (n v : ByteArray) (hn : n.size ≤ 16777216) (hv : v.size ≤ 16777216) (i : Nat) (b1 : Bool) (hf : findF (statL ++ l) ⟨n, v, false⟩ = (i, b1)) (hi : i ≤ 2147483647) (hb1 : b1 = true) (L : List UInt8) (l' : List Fld) (hL : oneE statL h l ⟨n, v, false⟩ = (L, l')) (N : Nat) (hN : L.length = N) :
    Calls Tryd.prog 40 #[.pointer (some ⟨p, 0, none⟩), .agg #[.string n, .string v, .bool false]] w (FieldP w F q h l' N L) := by
  have hfo : fok ⟨n, v, false⟩ := fok_of (f := ⟨n, v, false⟩) hn hv (by omega) (by omega)
  subst hb1
  have hL2 : putB (2 ^ 7 - 1) (topOf 128 7) i = L ∧ l = l' := by rw [oneE, if_neg (by simp), hf, if_pos rfl] at hL; injection hL with h1 h2; exact ⟨h1, h2⟩
  obtain ⟨hL2, rfl⟩ := hL2
  have hKP : KP 128 7 := by unfold KP; omega
  have hfn : n.size ≤ 140737488355328 := by omega
  have hfv : v.size ≤ 140737488355328 := by omega
  have y0 : w.cell? ⟨p, 0, none⟩ = some (.pointer (some ⟨q, 0, none⟩)) := b.cell 0
  have S1 : Hid (St F w (w.alloc (.cells #[.string n, .string v, .bool false] 38)) [PTo q h l, BLo w.heap.size 38 [.string n, .string v, .bool false]]) := (St.start (framed_PTo ..) t).block 38 [.string n, .string v, .bool false]
  have S1d : Hid (St F w (w.alloc (.cells #[.string n, .string v, .bool false] 38)).drew [PTo q h l, BLo w.heap.size 38 [.string n, .string v, .bool false]]) := S1.out.drew
  have HF := Lib.hid hf
  have HL := Lib.hid hL2
  have HN := Lib.hid hN
  have HC := Lib.hid hC
  have Hb := Lib.hid b
  have Hfo := Lib.hid hfo
  have x0 : (w.alloc (.cells #[.string n, .string v, .bool false] 38)).cell? ⟨w.heap.size, 0, none⟩ = some (.string n) := (Blk.new w 38 [.string n, .string v, .bool false]).cell 0
  have x1 : (w.alloc (.cells #[.string n, .string v, .bool false] 38)).cell? ⟨w.heap.size, 1, none⟩ = some (.string v) := (Blk.new w 38 [.string n, .string v, .bool false]).cell 1
  have x2 : (w.alloc (.cells #[.string n, .string v, .bool false] 38)).cell? ⟨w.heap.size, 2, none⟩ = some (.bool false) := (Blk.new w 38 [.string n, .string v, .bool false]).cell 2
  have yp : p < w.heap.size := Blk.lt b
  have y1 : (w.alloc (.cells #[.string n, .string v, .bool false] 38)).cell? ⟨p, 0, none⟩ = some (.pointer (some ⟨q, 0, none⟩)) := (b.alloc _).cell 0
  have y1' : (w.alloc (.cells #[.string n, .string v, .bool false] 38)).drew.cell? ⟨p, 0, none⟩ = some (.pointer (some ⟨q, 0, none⟩)) := y1
  have x0' : (w.alloc (.cells #[.string n, .string v, .bool false] 38)).drew.cell? ⟨w.heap.size, 0, none⟩ = some (.string n) := x0
  have x1' : (w.alloc (.cells #[.string n, .string v, .bool false] 38)).drew.cell? ⟨w.heap.size, 1, none⟩ = some (.string v) := x1
  have x2' : (w.alloc (.cells #[.string n, .string v, .bool false] 38)).drew.cell? ⟨w.heap.size, 2, none⟩ = some (.bool false) := x2
  clear t b hf hL hL2 hN hC
  go_enter Tryd.func40, Tryd.ntmps40
  go_wp2
  go_region_with
    (first
    | (go_at_call 52; (obtain ⟨F2, t2, _⟩ := S1d.out.focus0); (with_reducible refine (pFind_p t2 n v false Hfo.out i true HF.out).mono ?_); rintro e w2 ⟨rfl, hb⟩
       have S2 := Lib.hid (S1d.out.next hb)
       have X2 := S2.out.blk1
       have z0 := X2.cell 0
       have z1 := X2.cell 1
       have z2 := X2.cell 2
       have Y2 := ((Hb.out.alloc (.cells #[.string n, .string v, .bool false] 38)).drew.below hb (Nat.lt_of_lt_of_le yp S1d.out.size))
       have v0 := Y2.cell 0
       have Y2 := Lib.hid Y2
       simp only [List.getElem?_cons_zero, List.getElem?_cons_succ] at z0 z1 z2 v0
       have C2 := Lib.hid (HC.out.fr S2.out.fr hFC)
       clear hb t2 X2))
  all_goals
    clear y1 y1' x0 x1 x2 x0' x1' x2' y0
    go_wp2_with (first
      | (go_at_call 54; (with_reducible refine (eNumber_c 128 7 i hKP hi L HL.out N HN.out 128 rfl _ rfl _).mono ?_); rintro e w3 ⟨A, c, rfl, ho, hb⟩
         have S3 := Lib.hid (st_bytes (st_drop1 S2.out) ho hb)
         clear ho hb))
    go_ret
    exact ⟨A, c, rfl, S3.out⟩
set_option maxHeartbeats 4000000 in
theorem eField_plain {w : World} {p q h : Nat} {F : Nat → Prop} {l : List Fld} {cs : List Value} (t : PT w q F h l) (b : Blk w p 44 (.pointer (some ⟨q, 0, none⟩) :: cs)) (hC : Cnt w) (hFC : ¬ F 0)
    (n v : ByteArray) (hn : n.size ≤ 16777216) (hv : v.size ≤ 16777216) (i : Nat) (b1 : Bool) (hf : findF (statL ++ l) ⟨n, v, false⟩ = (i, b1)) (hi : i ≤ 2147483647) (hb1 : b1 = false) (M : Nat) (hM : n.size + v.size + 32 = M) (hlt : h < M) (L : List UInt8) (l' : List Fld) (hL : oneE statL h l ⟨n, v, false⟩ = (L, l')) (N : Nat) (hN : L.length = N) :
    Calls Tryd.prog 40 #[.pointer (some ⟨p, 0, none⟩), .agg #[.string n, .string v, .bool false]] w (FieldP w F q h l' N L) := by
  have hfo : fok ⟨n, v, false⟩ := fok_of (f := ⟨n, v, false⟩) hn hv (by omega) (by omega)
  subst hb1
  have hL2 : litB 0 4 i ⟨n, v, false⟩ = L ∧ l = l' := by rw [oneE, if_neg (by simp), hf, if_neg (by simp), if_pos (by show h < n.size + v.size + 32; omega)] at hL; injection hL with h1 h2; exact ⟨h1, h2⟩
  obtain ⟨hL2, rfl⟩ := hL2
  have hKP : KP 0 4 := by unfold KP; omega
  have HM := Lib.hid hM
  have klt : (h : Int) < (M : Int) := by omega
  have kb : decide (h < M) = true := decide_eq_true hlt
  clear hM hlt
  have hfn : n.size ≤ 140737488355328 := by omega
  have hfv : v.size ≤ 140737488355328 := by omega
  have y0 : w.cell? ⟨p, 0, none⟩ = some (.pointer (some ⟨q, 0, none⟩)) := b.cell 0
  have S1 : Hid (St F w (w.alloc (.cells #[.string n, .string v, .bool false] 38)) [PTo q h l, BLo w.heap.size 38 [.string n, .string v, .bool false]]) := (St.start (framed_PTo ..) t).block 38 [.string n, .string v, .bool false]
  have S1d : Hid (St F w (w.alloc (.cells #[.string n, .string v, .bool false] 38)).drew [PTo q h l, BLo w.heap.size 38 [.string n, .string v, .bool false]]) := S1.out.drew
  have HF := Lib.hid hf
  have HL := Lib.hid hL2
  have HN := Lib.hid hN
  have HC := Lib.hid hC
  have Hb := Lib.hid b
  have Hfo := Lib.hid hfo
  have x0 : (w.alloc (.cells #[.string n, .string v, .bool false] 38)).cell? ⟨w.heap.size, 0, none⟩ = some (.string n) := (Blk.new w 38 [.string n, .string v, .bool false]).cell 0
  have x1 : (w.alloc (.cells #[.string n, .string v, .bool false] 38)).cell? ⟨w.heap.size, 1, none⟩ = some (.string v) := (Blk.new w 38 [.string n, .string v, .bool false]).cell 1
  have x2 : (w.alloc (.cells #[.string n, .string v, .bool false] 38)).cell? ⟨w.heap.size, 2, none⟩ = some (.bool false) := (Blk.new w 38 [.string n, .string v, .bool false]).cell 2
  have yp : p < w.heap.size := Blk.lt b
  have y1 : (w.alloc (.cells #[.string n, .string v, .bool false] 38)).cell? ⟨p, 0, none⟩ = some (.pointer (some ⟨q, 0, none⟩)) := (b.alloc _).cell 0
  have y1' : (w.alloc (.cells #[.string n, .string v, .bool false] 38)).drew.cell? ⟨p, 0, none⟩ = some (.pointer (some ⟨q, 0, none⟩)) := y1
  have x0' : (w.alloc (.cells #[.string n, .string v, .bool false] 38)).drew.cell? ⟨w.heap.size, 0, none⟩ = some (.string n) := x0
  have x1' : (w.alloc (.cells #[.string n, .string v, .bool false] 38)).drew.cell? ⟨w.heap.size, 1, none⟩ = some (.string v) := x1
  have x2' : (w.alloc (.cells #[.string n, .string v, .bool false] 38)).drew.cell? ⟨w.heap.size, 2, none⟩ = some (.bool false) := x2
  clear t b hf hL hL2 hN hC
  go_enter Tryd.func40, Tryd.ntmps40
  go_wp2
  go_region_with
    (first
    | (go_at_call 52; (obtain ⟨F2, t2, _⟩ := S1d.out.focus0); (with_reducible refine (pFind_p t2 n v false Hfo.out i false HF.out).mono ?_); rintro e w2 ⟨rfl, hb⟩
       have S2 := Lib.hid (S1d.out.next hb)
       have X2 := S2.out.blk1
       have z0 := X2.cell 0
       have z1 := X2.cell 1
       have z2 := X2.cell 2
       have Y2 := ((Hb.out.alloc (.cells #[.string n, .string v, .bool false] 38)).drew.below hb (Nat.lt_of_lt_of_le yp S1d.out.size))
       have v0 := Y2.cell 0
       have Y2 := Lib.hid Y2
       simp only [List.getElem?_cons_zero, List.getElem?_cons_succ] at z0 z1 z2 v0
       have C2 := Lib.hid (HC.out.fr S2.out.fr hFC)
       clear hb t2 X2))
  all_goals
    clear y1 y1' x0 x1 x2 x0' x1' x2' y0
    go_wp2
    have d0 : w2.drew.cell? ⟨w.heap.size, 0, none⟩ = some (.string n) := z0
    have d1 : w2.drew.cell? ⟨w.heap.size, 1, none⟩ = some (.string v) := z1
    have d2 : w2.drew.cell? ⟨w.heap.size, 2, none⟩ = some (.bool false) := z2
    have dp : w2.drew.cell? ⟨p, 0, none⟩ = some (.pointer (some ⟨q, 0, none⟩)) := v0
    have S2d := Lib.hid S2.out.drew
    have Y2d : Hid (Blk w2.drew p 44 (.pointer (some ⟨q, 0, none⟩) :: cs)) := Y2.out.drew
    have C2d : Hid (Cnt w2.drew) := C2
    clear S1 S1d
    go_region_with
      (first
      | (go_at_call 55; (with_reducible refine (pSize_n n v false hfn hfv M HM.out _).mono ?_); rintro e w4 ⟨rfl, hb⟩
         have S4 := Lib.hid (S2d.out.next hb)
         have X4 := S4.out.blk1
         have e0 := X4.cell 0
         have e1 := X4.cell 1
         have e2 := X4.cell 2
         have Y4 := Y2d.out.below hb (Blk.lt Y2d.out)
         have ep := Y4.cell 0
         have Y4 := Lib.hid Y4
         simp only [List.getElem?_cons_zero, List.getElem?_cons_succ] at e0 e1 e2 ep
         have C4 := Lib.hid (C2d.out.below hb)
         clear hb X4)
      | (go_at_call 45; (obtain ⟨F2, t2, _⟩ := S4.out.focus0); (with_reducible refine (pMax_c t2).mono ?_); rintro e w5 ⟨rfl, hb⟩
         have S5 := Lib.hid (S4.out.next hb)
         have X5 := S5.out.blk1
         have u0 := X5.cell 0
         have u1 := X5.cell 1
         have u2 := X5.cell 2
         have Y5 := Y4.out.below hb (Blk.lt Y4.out)
         have up := Y5.cell 0
         have Y5 := Lib.hid Y5
         simp only [List.getElem?_cons_zero, List.getElem?_cons_succ] at u0 u1 u2 up
         have C5 := Lib.hid (C4.out.below hb)
         clear hb t2 X5))
    all_goals
      clear z0 z1 z2 v0 d0 d1 d2 dp S2 S2d Y2 Y2d C2 C2d
      go_wp2_with (first
        | (go_at_call 53; (with_reducible refine (eWritten_p 0 4 i hKP hi n v false hn hv L HL.out N HN.out 0 rfl _ rfl _ C5.out).mono ?_); rintro e w3 ⟨A, c, rfl, ho, hb⟩
           have S3 := Lib.hid (st_bytes (st_drop1 S5.out) ho hb)
           clear ho hb))
      go_ret
      exact ⟨A, c, rfl, S3.out⟩
set_option maxHeartbeats 4000000 in
theorem eField_add {w : World} {p q h : Nat} {F : Nat → Prop} {l : List Fld} {cs : List Value} (t : PT w q F h l) (b : Blk w p 44 (.pointer (some ⟨q, 0, none⟩) :: cs)) (hC : Cnt w) (hFC : ¬ F 0)
    (n v : ByteArray) (hn : n.size ≤ 16777216) (hv : v.size ≤ 16777216) (i : Nat) (b1 : Bool) (hf : findF (statL ++ l) ⟨n, v, false⟩ = (i, b1)) (hi : i ≤ 2147483647) (hb1 : b1 = false) (M : Nat) (hM : n.size + v.size + 32 = M) (hlt : ¬ h < M) (L : List UInt8) (l' : List Fld) (hL : oneE statL h l ⟨n, v, false⟩ = (L, l')) (N : Nat) (hN : L.length = N) :
    Calls Tryd.prog 40 #[.pointer (some ⟨p, 0, none⟩), .agg #[.string n, .string v, .bool false]] w (FieldP w F q h l' N L) := by
  have hfo : fok ⟨n, v, false⟩ := fok_of (f := ⟨n, v, false⟩) hn hv (by omega) (by omega)
  subst hb1
  have hL2 : litB 64 6 i ⟨n, v, false⟩ = L ∧ addF h ⟨n, v, false⟩ l = l' := by rw [oneE, if_neg (by simp), hf, if_neg (by simp), if_neg (by show ¬ h < n.size + v.size + 32; omega)] at hL; injection hL with h1 h2; exact ⟨h1, h2⟩
  obtain ⟨hL2, rfl⟩ := hL2
  have hKP : KP 64 6 := by unfold KP; omega
  have HM := Lib.hid hM
  have klt : ¬ (h : Int) < (M : Int) := by omega
  have kb : decide (h < M) = false := decide_eq_false hlt
  clear hM hlt
  have hfn : n.size ≤ 140737488355328 := by omega
  have hfv : v.size ≤ 140737488355328 := by omega
  have y0 : w.cell? ⟨p, 0, none⟩ = some (.pointer (some ⟨q, 0, none⟩)) := b.cell 0
  have S1 : Hid (St F w (w.alloc (.cells #[.string n, .string v, .bool false] 38)) [PTo q h l, BLo w.heap.size 38 [.string n, .string v, .bool false]]) := (St.start (framed_PTo ..) t).block 38 [.string n, .string v, .bool false]
  have S1d : Hid (St F w (w.alloc (.cells #[.string n, .string v, .bool false] 38)).drew [PTo q h l, BLo w.heap.size 38 [.string n, .string v, .bool false]]) := S1.out.drew
  have HF := Lib.hid hf
  have HL := Lib.hid hL2
  have HN := Lib.hid hN
  have HC := Lib.hid hC
  have Hb := Lib.hid b
  have Hfo := Lib.hid hfo
  have x0 : (w.alloc (.cells #[.string n, .string v, .bool false] 38)).cell? ⟨w.heap.size, 0, none⟩ = some (.string n) := (Blk.new w 38 [.string n, .string v, .bool false]).cell 0
  have x1 : (w.alloc (.cells #[.string n, .string v, .bool false] 38)).cell? ⟨w.heap.size, 1, none⟩ = some (.string v) := (Blk.new w 38 [.string n, .string v, .bool false]).cell 1
  have x2 : (w.alloc (.cells #[.string n, .string v, .bool false] 38)).cell? ⟨w.heap.size, 2, none⟩ = some (.bool false) := (Blk.new w 38 [.string n, .string v, .bool false]).cell 2
  have yp : p < w.heap.size := Blk.lt b
  have y1 : (w.alloc (.cells #[.string n, .string v, .bool false] 38)).cell? ⟨p, 0, none⟩ = some (.pointer (some ⟨q, 0, none⟩)) := (b.alloc _).cell 0
  have y1' : (w.alloc (.cells #[.string n, .string v, .bool false] 38)).drew.cell? ⟨p, 0, none⟩ = some (.pointer (some ⟨q, 0, none⟩)) := y1
  have x0' : (w.alloc (.cells #[.string n, .string v, .bool false] 38)).drew.cell? ⟨w.heap.size, 0, none⟩ = some (.string n) := x0
  have x1' : (w.alloc (.cells #[.string n, .string v, .bool false] 38)).drew.cell? ⟨w.heap.size, 1, none⟩ = some (.string v) := x1
  have x2' : (w.alloc (.cells #[.string n, .string v, .bool false] 38)).drew.cell? ⟨w.heap.size, 2, none⟩ = some (.bool false) := x2
  clear t b hf hL hL2 hN hC
  go_enter Tryd.func40, Tryd.ntmps40
  go_wp2
  go_region_with
    (first
    | (go_at_call 52; (obtain ⟨F2, t2, _⟩ := S1d.out.focus0); (with_reducible refine (pFind_p t2 n v false Hfo.out i false HF.out).mono ?_); rintro e w2 ⟨rfl, hb⟩
       have S2 := Lib.hid (S1d.out.next hb)
       have X2 := S2.out.blk1
       have z0 := X2.cell 0
       have z1 := X2.cell 1
       have z2 := X2.cell 2
       have Y2 := ((Hb.out.alloc (.cells #[.string n, .string v, .bool false] 38)).drew.below hb (Nat.lt_of_lt_of_le yp S1d.out.size))
       have v0 := Y2.cell 0
       have Y2 := Lib.hid Y2
       simp only [List.getElem?_cons_zero, List.getElem?_cons_succ] at z0 z1 z2 v0
       have C2 := Lib.hid (HC.out.fr S2.out.fr hFC)
       clear hb t2 X2))
  all_goals
    clear y1 y1' x0 x1 x2 x0' x1' x2' y0
    go_wp2
    have d0 : w2.drew.cell? ⟨w.heap.size, 0, none⟩ = some (.string n) := z0
    have d1 : w2.drew.cell? ⟨w.heap.size, 1, none⟩ = some (.string v) := z1
    have d2 : w2.drew.cell? ⟨w.heap.size, 2, none⟩ = some (.bool false) := z2
    have dp : w2.drew.cell? ⟨p, 0, none⟩ = some (.pointer (some ⟨q, 0, none⟩)) := v0
    have S2d := Lib.hid S2.out.drew
    have Y2d : Hid (Blk w2.drew p 44 (.pointer (some ⟨q, 0, none⟩) :: cs)) := Y2.out.drew
    have C2d : Hid (Cnt w2.drew) := C2
    clear S1 S1d
    go_region_with
      (first
      | (go_at_call 55; (with_reducible refine (pSize_n n v false hfn hfv M HM.out _).mono ?_); rintro e w4 ⟨rfl, hb⟩
         have S4 := Lib.hid (S2d.out.next hb)
         have X4 := S4.out.blk1
         have e0 := X4.cell 0
         have e1 := X4.cell 1
         have e2 := X4.cell 2
         have Y4 := Y2d.out.below hb (Blk.lt Y2d.out)
         have ep := Y4.cell 0
         have Y4 := Lib.hid Y4
         simp only [List.getElem?_cons_zero, List.getElem?_cons_succ] at e0 e1 e2 ep
         have C4 := Lib.hid (C2d.out.below hb)
         clear hb X4)
      | (go_at_call 45; (obtain ⟨F2, t2, _⟩ := S4.out.focus0); (with_reducible refine (pMax_c t2).mono ?_); rintro e w5 ⟨rfl, hb⟩
         have S5 := Lib.hid (S4.out.next hb)
         have X5 := S5.out.blk1
         have u0 := X5.cell 0
         have u1 := X5.cell 1
         have u2 := X5.cell 2
         have Y5 := Y4.out.below hb (Blk.lt Y4.out)
         have up := Y5.cell 0
         have Y5 := Lib.hid Y5
         simp only [List.getElem?_cons_zero, List.getElem?_cons_succ] at u0 u1 u2 up
         have C5 := Lib.hid (C4.out.below hb)
         clear hb t2 X5))
    all_goals
      clear z0 z1 z2 v0 d0 d1 d2 dp S2 S2d Y2 Y2d C2 C2d
      go_wp2
      have f0 : w5.drew.cell? ⟨w.heap.size, 0, none⟩ = some (.string n) := u0
      have f1 : w5.drew.cell? ⟨w.heap.size, 1, none⟩ = some (.string v) := u1
      have f2 : w5.drew.cell? ⟨w.heap.size, 2, none⟩ = some (.bool false) := u2
      have fp : w5.drew.cell? ⟨p, 0, none⟩ = some (.pointer (some ⟨q, 0, none⟩)) := up
      have S5d := Lib.hid S5.out.drew
      go_region_with
        (first
        | (go_at_call 56; (obtain ⟨F2, t2, _, _, go⟩ := S5d.out.focus0); (with_reducible refine (pAdd_p t2 n v false Hfo.out _ rfl).mono ?_); rintro e w6 ⟨F6, rfl, t6, hF6, f6⟩
           have S6 := Lib.hid (go _ _ [] (PT.st t6 hF6 f6))
           have X6 := S6.out.blk1
           have g0 := X6.cell 0
           have g1 := X6.cell 1
           have g2 := X6.cell 2
           simp only [List.getElem?_cons_zero, List.getElem?_cons_succ] at g0 g1 g2
           have C6 := Lib.hid (HC.out.fr S6.out.fr hFC)
           clear t6 hF6 f6 t2 X6 go))
      all_goals
        clear u0 u1 u2 up f0 f1 f2 fp S5 S5d
        go_wp2_with (first
          | (go_at_call 53; (with_reducible refine (eWritten_p 64 6 i hKP hi n v false hn hv L HL.out N HN.out 64 rfl _ rfl _ C6.out).mono ?_); rintro e w3 ⟨A, c, rfl, ho, hb⟩
             have S3 := Lib.hid (st_bytes (st_drop1 S6.out) ho hb)
             clear ho hb))
        go_ret
        exact ⟨A, c, rfl, S3.out⟩
/-- a field's octets: the table behind it -/
theorem eField_c {w : World} {p q h : Nat} {F : Nat → Prop} {l : List Fld} {cs : List Value} (t : PT w q F h l) (b : Blk w p 44 (.pointer (some ⟨q, 0, none⟩) :: cs)) (hC : Cnt w) (hFC : ¬ F 0)
    (n v : ByteArray) (nv : Bool) (hn : n.size ≤ 16777216) (hv : v.size ≤ 16777216) (hOk : Ok statL h l) (L : List UInt8) (l' : List Fld) (hL : oneE statL h l ⟨n, v, nv⟩ = (L, l')) (N : Nat) (hN : L.length = N) :
    Calls Tryd.prog 40 #[.pointer (some ⟨p, 0, none⟩), .agg #[.string n, .string v, .bool nv]] w (FieldP w F q h l' N L) := by
  obtain ⟨⟨i, b1⟩, hf⟩ : ∃ z, findF (statL ++ l) ⟨n, v, nv⟩ = z := ⟨_, rfl⟩
  have hi : i ≤ 2147483647 := by
    have h1 := findF_le (all := statL ++ l) (f := ⟨n, v, nv⟩)
    rw [hf] at h1
    have h2 := hOk.len
    have h3 : i ≤ (statL ++ l).length := h1
    omega
  cases nv with
  | true => exact eField_never t b hC hFC n v hn hv i b1 hf hi L l' hL N hN
  | false =>
    cases b1 with
    | true => exact eField_whole t b hC hFC n v hn hv i true hf hi rfl L l' hL N hN
    | false =>
      by_cases hlt : h < n.size + v.size + 32
      · exact eField_plain t b hC hFC n v hn hv i false hf hi rfl _ rfl hlt L l' hL N hN
      · exact eField_add t b hC hFC n v hn hv i false hf hi rfl _ rfl hlt L l' hL N hN
end Go.Proofs.YtinieljgcenemaaDoor
namespace Go.Proofs.YtinieljgcenemaaDoor
open Go.RowKit Go.Own Go.Tbl Go.Huf Go.Hin
set_option linter.unusedVariables false
set_option maxRecDepth 100000
attribute [local go_sem ↓] Go.wp_at_zero Go.wp_at_succ

/-- what least and last hold -/
def pendIs : Pend → Int → Int → Prop
  | none, _, _ => True
  | some (x, y), a, b => a = (x : Int) ∧ b = (y : Int) ∧ x ≤ 65536 ∧ y ≤ 65536
abbrev encCells (q : Nat) (ch : Bool) (a b : Int) : List Value := [.pointer (some ⟨q, 0, none⟩), .bool ch, .int .i64 a, .int .i64 b]
/-- the program's encoder -/
def PEo (p h : Nat) (l : List Fld) (pd : Pend) : Ob := fun w F => Ok statL h l ∧ ∃ q a b, pendIs pd a b ∧ star (BLo p 44 (encCells q pd.isSome a b)) (PTo q h l) w F
theorem framed_PEo (p h : Nat) (l : List Fld) (pd : Pend) : Framed (PEo p h l pd) := by
  refine ⟨fun w F t i hi => ?_, fun w w' F S t hf hn => ?_⟩
  · obtain ⟨_, q, a, b, _, t⟩ := t
    exact (framed_star (framed_BLo ..) (framed_PTo ..)).lt _ _ t i hi
  · obtain ⟨hk, q, a, b, hp, t⟩ := t
    exact ⟨hk, q, a, b, hp, (framed_star (framed_BLo ..) (framed_PTo ..)).fr _ _ _ _ t hf hn⟩
section
variable {S : Nat → Prop} {w0 w w' : World} {L : List Ob} {p h : Nat} {l : List Fld} {pd : Pend} {F : Nat → Prop}
theorem pe_open (s : St S w0 w (PEo p h l pd :: L)) : Ok statL h l ∧ ∃ q a b, pendIs pd a b ∧ St S w0 w (BLo p 44 (encCells q pd.isSome a b) :: PTo q h l :: L) := by
  obtain ⟨⟨T, ⟨F, G, hO, ⟨hk, q, a, b, hp, t⟩, hG, hd, rfl⟩, hTS⟩, hf⟩ := s
  exact ⟨hk, q, a, b, hp, ⟨_, (sep_star (framed_BLo ..) (framed_PTo ..)).1 ⟨F, G, framed_star (framed_BLo ..) (framed_PTo ..), t, hG, hd, rfl⟩, hTS⟩, hf⟩
theorem pe_close {q : Nat} {a b : Int} (s : St S w0 w (BLo p 44 (encCells q pd.isSome a b) :: PTo q h l :: L)) (hk : Ok statL h l) (hp : pendIs pd a b) : St S w0 w (PEo p h l pd :: L) := by
  obtain ⟨⟨T, hT, hTS⟩, hf⟩ := s
  obtain ⟨F, G, hO, t, hG, hd, rfl⟩ := (sep_star (framed_BLo ..) (framed_PTo ..)).2 hT
  exact ⟨⟨_, ⟨F, G, framed_PEo .., ⟨hk, q, a, b, hp, t⟩, hG, hd, rfl⟩, hTS⟩, hf⟩
theorem pe_start (t : PEo p h l pd w F) : St F w w [PEo p h l pd] := St.start (framed_PEo ..) t
end
theorem statL_nv : ∀ g ∈ statL, g.nv = false := by decide +kernel
theorem ok_new (h : Nat) (hh : h ≤ 65536) : Ok statL h [] := ⟨fun g hg => by rw [List.append_nil] at hg; exact statL_nv g hg, by rw [statL_length]; omega, by simp [szs], hh⟩
theorem pMax_i {w : World} {p h : Nat} {F : Nat → Prop} {l : List Fld} (t : PT w p F h l) : Calls Tryd.prog 45 #[.pointer (some ⟨p, 0, none⟩)] w fun e w' => e = .returned (.int .i64 (h : Int)) ∧ Below w.heap.size w w' := pMax_c t
set_option maxHeartbeats 1000000 in
theorem eCnt_c (x : Int) (hx : i64 x) (h : Nat) (hh : clampI x = h) (w : World) : Calls Tryd.prog 37 #[.int .i64 x] w fun e w' => e = .returned (.int .i64 (h : Int)) ∧ Below w.heap.size w w' := by
  subst hh
  have Hx := Lib.hid hx
  clear hx
  go_enter Tryd.func37, Tryd.ntmps37
  go_wp2_with (first
    | (go_at_call 35; (with_reducible refine (pNew_c x Hx.out _).mono ?_); rintro e w2 ⟨p, F, rfl, t, hF, hb⟩
       have T2 := Lib.hid t
       have B2 := Lib.hid hb
       clear t hF hb)
    | (go_at_call 45; (with_reducible refine (pMax_c T2.out).mono ?_); rintro e w3 ⟨rfl, hb⟩
       have B3 := Lib.hid (B2.out.trans (hb.mono B2.out.size))
       clear hb))
  go_ret
  exact ⟨rfl, B3.out⟩
set_option maxHeartbeats 1000000 in
theorem eNew_c (x : Int) (hx : i64 x) (h : Nat) (hh : clampI x = h) (w : World) : Calls Tryd.prog 13 #[.int .i64 x] w fun e w' => ∃ p, e = .returned (.pointer (some ⟨p, 0, none⟩)) ∧ St (fun _ => False) w w' [PEo p h [] none] := by
  have hh2 : h ≤ 65536 := hh ▸ clampI_le x
  subst hh
  have Hx := Lib.hid hx
  clear hx
  go_enter Tryd.func13, Tryd.ntmps13
  go_wp2_with (first
    | (go_at_call 35; (with_reducible refine (pNew_c x Hx.out _).mono ?_); rintro e w2 ⟨q, F, rfl, t, hF, hb⟩
       have S2 := Lib.hid (St.made (framed_PTo ..) t hF hb)
       clear t hF hb))
  go_ret
  refine ⟨_, rfl, ?_⟩
  have s := (S2.out.block 44 (encCells q false 0 0)).perm2
  exact pe_close (pd := none) s (ok_new _ hh2) trivial
end Go.Proofs.YtinieljgcenemaaDoor
namespace Go.Proofs.YtinieljgcenemaaDoor
open Go.RowKit Go.Own Go.Tbl Go.Huf Go.Hin
set_option linter.unusedVariables false
set_option maxRecDepth 100000
attribute [local go_sem ↓] Go.wp_at_zero Go.wp_at_succ

/-- the kind that an octet begins, and its prefix -/
def kOf (x : Nat) : Nat := if 128 ≤ x then 128 else if 64 ≤ x then 64 else if 32 ≤ x then 32 else if 16 ≤ x then 16 else 0
def pOf (x : Nat) : Nat := if 128 ≤ x then 7 else if 64 ≤ x then 6 else if 32 ≤ x then 5 else 4
theorem kp_of (x : Nat) : KP (kOf x) (pOf x) := by
  unfold KP kOf pOf
  repeat' split
  all_goals omega
set_option maxHeartbeats 4000000 in
theorem eKindOf_c (x : Nat) (hx : x < 256) (k : Nat) (hk : kOf x = k) (z : Int) (hz : z = (x : Int)) (w : World) : Calls Tryd.prog 92 #[.int .u8 z] w fun e w' => e = .returned (.int .u8 (k : Int)) ∧ w = w' := by
  subst hz
  have HK := Lib.hid hk
  clear hk
  have hix0 : ∀ w, (Instr.index 144 (.agg #[.int .u8 128, .int .u8 64, .int .u8 32, .int .u8 16]) (.int .i64 0)).run Tryd.prog w = .ok (.int .u8 128) w := fun w => by kernel_rfl
  have hix1 : ∀ w, (Instr.index 144 (.agg #[.int .u8 128, .int .u8 64, .int .u8 32, .int .u8 16]) (.int .i64 1)).run Tryd.prog w = .ok (.int .u8 64) w := fun w => by kernel_rfl
  have hix2 : ∀ w, (Instr.index 144 (.agg #[.int .u8 128, .int .u8 64, .int .u8 32, .int .u8 16]) (.int .i64 2)).run Tryd.prog w = .ok (.int .u8 32) w := fun w => by kernel_rfl
  have hix3 : ∀ w, (Instr.index 144 (.agg #[.int .u8 128, .int .u8 64, .int .u8 32, .int .u8 16]) (.int .i64 3)).run Tryd.prog w = .ok (.int .u8 16) w := fun w => by kernel_rfl
  go_enter Tryd.func92, Tryd.ntmps92
  go_wp2
  go_loopg [6] 4 (fun gh i w' => ∃ j : Nat, gh + j = 4 ∧ i = .int .i64 (j : Int) ∧ w' = w ∧ (j = 0 ∨ x < 2 ^ (8 - j)))
  case atStart => exact ⟨0, by omega, rfl, rfl, .inl rfl⟩
  case round =>
    obtain ⟨j, hj, rfl, rfl, hlt⟩ := hrel
    cases gk with
    | succ g1 =>
      rcases (by omega : j = 0 ∨ j = 1 ∨ j = 2 ∨ j = 3) with rfl | rfl | rfl | rfl
      · by_cases hc : 128 ≤ x
        · have kc : (128 : Int) ≤ (x : Int) := by omega
          have e : 128 = k := by rw [← HK.out, kOf, if_pos hc]
          subst e
          go_wp2
          go_ret
          exact ⟨rfl, rfl⟩
        · have kc : ¬ (128 : Int) ≤ (x : Int) := by omega
          go_wp2
          go_roundg g1
          case measure => omega
          case rel => exact ⟨1, by omega, by go_num, rfl, .inr (by omega)⟩
      · have hlt : x < 128 := by omega
        by_cases hc : 64 ≤ x
        · have kc : (64 : Int) ≤ (x : Int) := by omega
          have e : 64 = k := by rw [← HK.out, kOf, if_neg (by omega), if_pos hc]
          subst e
          go_wp2
          go_ret
          exact ⟨rfl, rfl⟩
        · have kc : ¬ (64 : Int) ≤ (x : Int) := by omega
          go_wp2
          go_roundg g1
          case measure => omega
          case rel => exact ⟨2, by omega, by go_num, rfl, .inr (by omega)⟩
      · have hlt : x < 64 := by omega
        by_cases hc : 32 ≤ x
        · have kc : (32 : Int) ≤ (x : Int) := by omega
          have e : 32 = k := by rw [← HK.out, kOf, if_neg (by omega), if_neg (by omega), if_pos hc]
          subst e
          go_wp2
          go_ret
          exact ⟨rfl, rfl⟩
        · have kc : ¬ (32 : Int) ≤ (x : Int) := by omega
          go_wp2
          go_roundg g1
          case measure => omega
          case rel => exact ⟨3, by omega, by go_num, rfl, .inr (by omega)⟩
      · have hlt : x < 32 := by omega
        by_cases hc : 16 ≤ x
        · have kc : (16 : Int) ≤ (x : Int) := by omega
          have e : 16 = k := by rw [← HK.out, kOf, if_neg (by omega), if_neg (by omega), if_neg (by omega), if_pos hc]
          subst e
          go_wp2
          go_ret
          exact ⟨rfl, rfl⟩
        · have kc : ¬ (16 : Int) ≤ (x : Int) := by omega
          go_wp2
          go_roundg g1
          case measure => omega
          case rel => exact ⟨4, by omega, by go_num, rfl, .inr (by omega)⟩
    | zero =>
      obtain rfl : j = 4 := by omega
      have hlt : x < 16 := by omega
      have e : 0 = k := by rw [← HK.out, kOf, if_neg (by omega), if_neg (by omega), if_neg (by omega), if_neg (by omega)]
      subst e
      go_wp2
      go_ret
      exact ⟨rfl, rfl⟩
theorem rd_fr1 {w w' : World} {S : Nat → Prop} {n : Nat} {A : Option Addr} {vs : List Value} (h : Rd w 1 A n vs) (hf : Fr S w w') (hs : ∀ a, A = some a → 0 < n → ¬ S a.block) : Rd w' 1 A n vs := by
  rcases Nat.eq_zero_or_pos n with h0 | h0
  · subst h0
    exact ⟨h.1, fun h => absurd h (by omega)⟩
  · exact h.fr hf fun a ha => hs a ha h0
/-- what is left of octets: a slice that reads, in the first world, as ys -/
structure Left (w0 : World) (A0 : Option Addr) (A : Option Addr) (n c : Nat) (ys : List UInt8) : Prop where
  rd : Rd w0 1 A n (ys.map BV)
  nc : n ≤ c
  cm : c ≤ 9223372036854775807
  blk : ∀ a, A = some a → 0 < n → ∃ a0, A0 = some a0 ∧ a.block = a0.block
theorem Left.len {w0 : World} {A0 A : Option Addr} {n c : Nat} {ys : List UInt8} (h : Left w0 A0 A n c ys) : ys.length = n := by simpa using h.rd.1
theorem Left.drop_ {w0 : World} {A0 A : Option Addr} {n c : Nat} {ys : List UInt8} (h : Left w0 A0 A n c ys) (k : Nat) (hk : k ≤ n) : Left w0 A0 (if c = k then A else A.map (·.add (k * 1))) (n - k) (c - k) (ys.drop k) := by
  refine ⟨?_, by have := h.nc; omega, by have := h.cm; omega, fun a ha hn => ?_⟩
  · have := h.rd.drop hk h.nc
    simpa [List.map_drop] using this
  · split at ha
    · exact h.blk a ha (by omega)
    · cases A with
      | none => cases ha
      | some b =>
        simp only [Option.map_some, Option.some.injEq] at ha
        subst ha
        obtain ⟨a0, h1, h2⟩ := h.blk b rfl (by omega)
        refine ⟨a0, h1, ?_⟩
        rw [← h2]
        unfold Addr.add
        split <;> simp [*]
/-- the reading at r has ys left -/
def RdAt (w0 w : World) (A0 : Option Addr) (r : Nat) (ys : List UInt8) : Prop := ∃ A n c, Left w0 A0 A n c ys ∧ Blk w r 98 [.slice A n c] ∧ Rd w 1 A n (ys.map BV)
section
variable {w0 w : World} {A0 : Option Addr} {r : Nat} {ys : List UInt8}
set_option maxHeartbeats 2000000 in
theorem dKind_c {x : UInt8} {q : List UInt8} (h : RdAt w0 w A0 r (x :: q)) (k : Nat) (hk : kOf x.toNat = k) : Calls Tryd.prog 75 #[.pointer (some ⟨r, 0, none⟩)] w fun e w' => e = .returned (.int .u8 (k : Int)) ∧ w = w' := by
  obtain ⟨A, n, c, hl, hb, hr⟩ := h
  have hn : n = q.length + 1 := by have := hl.len; simpa using this.symm
  obtain ⟨b, o, rfl, hc⟩ := hr.2 (by omega)
  have d0 := hc 0 (BV x) rfl
  have y0 := hb.cell 0
  simp only [List.getElem?_cons_zero, BV, Nat.add_zero] at y0 d0
  have hx := x.toNat_lt
  have k1 : (0 : Int) < (n : Int) := by omega
  have HK := Lib.hid hk
  clear hl hb hr hc hk
  go_enter Tryd.func75, Tryd.ntmps75
  go_wp2_with (first
    | (go_at_call 92; (with_reducible refine (eKindOf_c x.toNat (by omega) k HK.out _ rfl _).mono ?_); rintro e w2 ⟨rfl, rfl⟩))
  go_ret
  exact ⟨rfl, rfl⟩
end
end Go.Proofs.YtinieljgcenemaaDoor
namespace Go.Proofs.YtinieljgcenemaaDoor
open Go.RowKit Go.Own Go.Tbl Go.Huf Go.Hin
set_option linter.unusedVariables false
set_option maxRecDepth 100000
attribute [local go_sem ↓] Go.wp_at_zero Go.wp_at_succ

/-- what number answers, and how many octets it takes -/
def numV : G → Value
  | .ok v n => .tuple #[.int .i64 (v : Int), .bool true]
  | _ => .tuple #[.int .i64 0, .bool false]
def numN : G → Nat
  | .ok v n => n
  | _ => 0
theorem GetInt_p {w : World} {A : Option Addr} {len cap : Nat} {xs : List UInt8} (hr : Rd w 1 A len (xs.map BV)) (hlc : len ≤ cap) (hcap : cap ≤ 9223372036854775807) (p : Nat) (h1 : 1 ≤ p) (h8 : p ≤ 8) (z : Int) (hz : z = (p : Int)) (R0 : G) (hR : getN p xs = R0) (v : Value) (hv : getV R0 = v) :
    Calls Tryd.prog 93 #[.slice A len cap, .int .i64 z] w fun e w' => e = .returned v ∧ Below w.heap.size w w' := by
  subst hz hv
  refine GetInt_any hr hlc hcap p R0 ?_
  rw [getI, if_pos ⟨by omega, by omega⟩]
  simpa using hR
section
variable {w0 w : World} {A0 : Option Addr} {r : Nat} {ys : List UInt8}
/-- what a call leaves that reads -/
def ReadP (w0 w : World) (A0 : Option Addr) (r : Nat) (ys : List UInt8) (v : Value) (e : Ending) (w' : World) : Prop := e = .returned v ∧ RdAt w0 w' A0 r ys ∧ Fr (· = r) w w'
theorem rdAt_step {A : Option Addr} {n c k : Nat} {w' : World} (hl : Left w0 A0 A n c ys) (hA : ∀ a, A0 = some a → a.block ≠ r) (hr : Rd w 1 A n (ys.map BV)) (hk : k ≤ n) (hb : Blk w' r 98 [.slice (if c = k then A else A.map (·.add (k * 1))) (n - k) (c - k)]) (hf : Fr (· = r) w w') : RdAt w0 w' A0 r (ys.drop k) := by
  have hd := hl.drop_ k hk
  refine ⟨_, _, _, hd, hb, ?_⟩
  have h2 := hr.drop hk hl.nc
  have h3 : Rd w 1 (if c = k then A else A.map (·.add (k * 1))) (n - k) ((ys.drop k).map BV) := by simpa [List.map_drop] using h2
  refine rd_fr1 h3 hf (fun a ha hn => ?_)
  obtain ⟨a0, h4, h5⟩ := hd.blk a ha hn
  rw [h5]
  exact hA a0 h4
theorem rdAt_end {A : Option Addr} {n c k : Nat} {w3 : World} (hl : Left w0 A0 A n c ys) (hA : ∀ a, A0 = some a → a.block ≠ r) (hr : Rd w 1 A n (ys.map BV)) (hk : k ≤ n) (hb : Blk w3 r 98 [.slice A n c]) (hf : Fr (· = r) w w3) (u : Value) (hu : u = .slice (if c = k then A else A.map (·.add k)) (n - k) (c - k)) :
    RdAt w0 (w3.setCell ⟨r, 0, none⟩ u) A0 r (ys.drop k) ∧ Fr (· = r) w (w3.setCell ⟨r, 0, none⟩ u) := by
  subst hu
  have hf2 := hf.setCell (p := ⟨r, 0, none⟩) (.inl rfl) (.slice (if c = k then A else A.map (·.add k)) (n - k) (c - k))
  refine ⟨rdAt_step hl hA hr hk ?_ hf2, hf2⟩
  rw [Nat.mul_one]
  exact hb.set_ 0 _
set_option maxHeartbeats 4000000 in
theorem dNumber_v {x : UInt8} {q : List UInt8} (h : RdAt w0 w A0 r (x :: q)) (hA : ∀ a, A0 = some a → a.block ≠ r) (R0 : G) (hR : getN (pOf x.toNat) (x :: q) = R0) (v m : Nat) (ec : Int) (b : Bool) (hv : getV R0 = .tuple #[.int .i64 (v : Int), .int .i64 (m : Int), .int .i64 ec])
    (hec : (ec = 0 ∧ b = true) ∨ (ec = 1 ∧ b = false) ∨ (ec = 2 ∧ b = false) ∨ (ec = 3 ∧ b = false)) (hm : m ≤ (x :: q).length) : Calls Tryd.prog 76 #[.pointer (some ⟨r, 0, none⟩)] w (ReadP w0 w A0 r ((x :: q).drop m) (.tuple #[.int .i64 (v : Int), .bool b])) := by
  obtain ⟨A, n, c, hl, hb, hr⟩ := id h
  have m2 : m ≤ n := hl.len ▸ hm
  have hnc := hl.nc
  have hcm := hl.cm
  have hrl : r < w.heap.size := Blk.lt hb
  have y0 : w.cell? ⟨r, 0, none⟩ = some (.slice A n c) := hb.cell 0
  have y0' : w.drew.cell? ⟨r, 0, none⟩ = some (.slice A n c) := y0
  have Hd : Hid (RdAt w0 w.drew A0 r (x :: q)) := by obtain ⟨A', n', c', a1, a2, a3⟩ := h; exact ⟨A', n', c', a1, a2, a3.below (below_drewN (Below.refl _ _) 1)⟩
  have Hrd : Hid (Rd w.drew 1 A n ((x :: q).map BV)) := hr.below (below_drewN (Below.refl _ _) 1)
  have Hb := Lib.hid hb
  have Hr := Lib.hid hr
  have Hl := Lib.hid hl
  have HA := Lib.hid hA
  have Hv := Lib.hid hv
  have hkp := kp_of x.toNat
  obtain ⟨p, hp⟩ : ∃ p, pOf x.toNat = p := ⟨_, rfl⟩
  obtain ⟨k, hk⟩ : ∃ k, kOf x.toNat = k := ⟨_, rfl⟩
  rw [hp, hk] at hkp
  rw [hp] at hR
  obtain ⟨_, h1, h8⟩ := hkp.bd
  have Hkp := Lib.hid hkp
  have Hk := Lib.hid hk
  have HR := Lib.hid hR
  clear h hl hb hr hA hR hkp hp hk hv hm
  rcases hec with ⟨rfl, rfl⟩ | ⟨rfl, rfl⟩ | ⟨rfl, rfl⟩ | ⟨rfl, rfl⟩
  · go_enter Tryd.func76, Tryd.ntmps76
    go_wp2
    go_region_with
        (first
        | (go_at_call 75; (with_reducible refine (dKind_c Hd.out k Hk.out).mono ?_); rintro e w2 ⟨rfl, rfl⟩)
        | (go_at_call 70; (with_reducible refine (ePrefix_c k p Hkp.out _ rfl _).mono ?_); rintro e w2 ⟨rfl, rfl⟩)
        | (go_at_call 93; (with_reducible refine (GetInt_p Hrd.out hnc hcm p h1 h8 _ rfl _ HR.out _ Hv.out).mono ?_); rintro e w3 ⟨rfl, hb3⟩
           have X3 := Hb.out.drew.below hb3 hrl
           have z0 := X3.cell 0
           have zf := X3.frozen 0
           have F3 := Lib.hid ((Fr.refl (· = r) w).drew.trans (Fr.of_below (S := fun i => w.drew.heap.size ≤ i) hb3 (fun _ _ h => h)) (fun i hi h => by have e : w.drew.heap.size = w.heap.size := rfl; omega))
           have X3 := Lib.hid X3
           simp only [List.getElem?_cons_zero] at z0
           clear hb3))
    all_goals
      go_wp2
    all_goals
      try clear y0
      try clear y0'
      try clear z0
      go_ret2
    all_goals first
      | exact ⟨rfl, rdAt_end Hl.out HA.out Hr.out m2 X3.out F3.out _ (by rw [if_pos ‹c = m›, ‹c = m›, Nat.sub_self])⟩
      | exact ⟨rfl, rdAt_end Hl.out HA.out Hr.out m2 X3.out F3.out _ (by rw [if_neg ‹¬ c = m›])⟩
  · go_enter Tryd.func76, Tryd.ntmps76
    go_wp2
    go_region_with
        (first
        | (go_at_call 75; (with_reducible refine (dKind_c Hd.out k Hk.out).mono ?_); rintro e w2 ⟨rfl, rfl⟩)
        | (go_at_call 70; (with_reducible refine (ePrefix_c k p Hkp.out _ rfl _).mono ?_); rintro e w2 ⟨rfl, rfl⟩)
        | (go_at_call 93; (with_reducible refine (GetInt_p Hrd.out hnc hcm p h1 h8 _ rfl _ HR.out _ Hv.out).mono ?_); rintro e w3 ⟨rfl, hb3⟩
           have X3 := Hb.out.drew.below hb3 hrl
           have z0 := X3.cell 0
           have zf := X3.frozen 0
           have F3 := Lib.hid ((Fr.refl (· = r) w).drew.trans (Fr.of_below (S := fun i => w.drew.heap.size ≤ i) hb3 (fun _ _ h => h)) (fun i hi h => by have e : w.drew.heap.size = w.heap.size := rfl; omega))
           have X3 := Lib.hid X3
           simp only [List.getElem?_cons_zero] at z0
           clear hb3))
    all_goals
      go_wp2
    all_goals
      try clear y0
      try clear y0'
      try clear z0
      go_ret2
    all_goals first
      | exact ⟨rfl, rdAt_end Hl.out HA.out Hr.out m2 X3.out F3.out _ (by rw [if_pos ‹c = m›, ‹c = m›, Nat.sub_self])⟩
      | exact ⟨rfl, rdAt_end Hl.out HA.out Hr.out m2 X3.out F3.out _ (by rw [if_neg ‹¬ c = m›])⟩
  · go_enter Tryd.func76, Tryd.ntmps76
    go_wp2
    go_region_with
        (first
        | (go_at_call 75; (with_reducible refine (dKind_c Hd.out k Hk.out).mono ?_); rintro e w2 ⟨rfl, rfl⟩)
        | (go_at_call 70; (with_reducible refine (ePrefix_c k p Hkp.out _ rfl _).mono ?_); rintro e w2 ⟨rfl, rfl⟩)
        | (go_at_call 93; (with_reducible refine (GetInt_p Hrd.out hnc hcm p h1 h8 _ rfl _ HR.out _ Hv.out).mono ?_); rintro e w3 ⟨rfl, hb3⟩
           have X3 := Hb.out.drew.below hb3 hrl
           have z0 := X3.cell 0
           have zf := X3.frozen 0
           have F3 := Lib.hid ((Fr.refl (· = r) w).drew.trans (Fr.of_below (S := fun i => w.drew.heap.size ≤ i) hb3 (fun _ _ h => h)) (fun i hi h => by have e : w.drew.heap.size = w.heap.size := rfl; omega))
           have X3 := Lib.hid X3
           simp only [List.getElem?_cons_zero] at z0
           clear hb3))
    all_goals
      go_wp2
    all_goals
      try clear y0
      try clear y0'
      try clear z0
      go_ret2
    all_goals first
      | exact ⟨rfl, rdAt_end Hl.out HA.out Hr.out m2 X3.out F3.out _ (by rw [if_pos ‹c = m›, ‹c = m›, Nat.sub_self])⟩
      | exact ⟨rfl, rdAt_end Hl.out HA.out Hr.out m2 X3.out F3.out _ (by rw [if_neg ‹¬ c = m›])⟩
  · go_enter Tryd.func76, Tryd.ntmps76
    go_wp2
    go_region_with
        (first
        | (go_at_call 75; (with_reducible refine (dKind_c Hd.out k Hk.out).mono ?_); rintro e w2 ⟨rfl, rfl⟩)
        | (go_at_call 70; (with_reducible refine (ePrefix_c k p Hkp.out _ rfl _).mono ?_); rintro e w2 ⟨rfl, rfl⟩)
        | (go_at_call 93; (with_reducible refine (GetInt_p Hrd.out hnc hcm p h1 h8 _ rfl _ HR.out _ Hv.out).mono ?_); rintro e w3 ⟨rfl, hb3⟩
           have X3 := Hb.out.drew.below hb3 hrl
           have z0 := X3.cell 0
           have zf := X3.frozen 0
           have F3 := Lib.hid ((Fr.refl (· = r) w).drew.trans (Fr.of_below (S := fun i => w.drew.heap.size ≤ i) hb3 (fun _ _ h => h)) (fun i hi h => by have e : w.drew.heap.size = w.heap.size := rfl; omega))
           have X3 := Lib.hid X3
           simp only [List.getElem?_cons_zero] at z0
           clear hb3))
    all_goals
      go_wp2
    all_goals
      try clear y0
      try clear y0'
      try clear z0
      go_ret2
    all_goals first
      | exact ⟨rfl, rdAt_end Hl.out HA.out Hr.out m2 X3.out F3.out _ (by rw [if_pos ‹c = m›, ‹c = m›, Nat.sub_self])⟩
      | exact ⟨rfl, rdAt_end Hl.out HA.out Hr.out m2 X3.out F3.out _ (by rw [if_neg ‹¬ c = m›])⟩
theorem dNumber_c {x : UInt8} {q : List UInt8} (h : RdAt w0 w A0 r (x :: q)) (hA : ∀ a, A0 = some a → a.block ≠ r) (R0 : G) (hR : getN (pOf x.toNat) (x :: q) = R0) (v : Value) (hv : numV R0 = v) (ys : List UInt8) (hy : (x :: q).drop (numN R0) = ys) : Calls Tryd.prog 76 #[.pointer (some ⟨r, 0, none⟩)] w (ReadP w0 w A0 r ys v) := by
  subst hv hy
  cases R0 with
  | ok v m =>
    have m2 : m ≤ (x :: q).length := by obtain ⟨_, _, _, m1, m2, _⟩ := getN_least hR; exact m2
    exact dNumber_v h hA _ hR v m 0 true rfl (.inl ⟨rfl, rfl⟩) m2
  | arg => exact dNumber_v h hA _ hR 0 0 1 false rfl (.inr (.inl ⟨rfl, rfl⟩)) (Nat.zero_le _)
  | more => exact dNumber_v h hA _ hR 0 0 2 false rfl (.inr (.inr (.inl ⟨rfl, rfl⟩))) (Nat.zero_le _)
  | form => exact dNumber_v h hA _ hR 0 0 3 false rfl (.inr (.inr (.inr ⟨rfl, rfl⟩))) (Nat.zero_le _)
/-- what text answers, and how many octets it takes -/
def txtV : T → Value
  | .ok t n => .tuple #[.string (ofB t), .bool true]
  | .err c => .tuple #[.string ⟨#[]⟩, .bool false]
def txtN : T → Nat
  | .ok t n => n
  | .err c => 0
theorem GetText_p {w : World} {A : Option Addr} {len cap : Nat} {xs : List UInt8} (hr : Rd w 1 A len (xs.map BV)) (hlc : len ≤ cap) (hcap : cap ≤ 9223372036854775807) (hC : Cnt w) (hlen : len ≤ 536870912) (R0 : T) (hR : getT big xs = R0) (v : Value) (hv : textV R0 = v) :
    Calls Tryd.prog 105 #[.slice A len cap] w fun e w' => e = .returned v ∧ Below w.heap.size w w' := by
  subst hv
  exact GetText_any hr hlc hcap hC (fun size n _ h => by omega) R0 hR
set_option maxHeartbeats 4000000 in
theorem dText_v (h : RdAt w0 w A0 r ys) (hA : ∀ a, A0 = some a → a.block ≠ r) (hC : Cnt w) (hlen : ys.length ≤ 536870912) (R0 : T) (hR : getT big ys = R0) (s : ByteArray) (m : Nat) (ec : Int) (b : Bool) (hv : textV R0 = .tuple #[.string s, .int .i64 (m : Int), .int .i64 ec])
    (hec : ec = 0 ∧ b = true ∨ (ec == 0) = false ∧ b = false) (hm : m ≤ ys.length) : Calls Tryd.prog 96 #[.pointer (some ⟨r, 0, none⟩)] w (ReadP w0 w A0 r (ys.drop m) (.tuple #[.string s, .bool b])) := by
  obtain ⟨A, n, c, hl, hb, hr⟩ := h
  have m2 : m ≤ n := hl.len ▸ hm
  have hnl : n ≤ 536870912 := hl.len ▸ hlen
  have hnc := hl.nc
  have hcm := hl.cm
  have hrl : r < w.heap.size := Blk.lt hb
  have y0 : w.cell? ⟨r, 0, none⟩ = some (.slice A n c) := hb.cell 0
  have Hb := Lib.hid hb
  have Hr := Lib.hid hr
  have Hl := Lib.hid hl
  have HA := Lib.hid hA
  have Hv := Lib.hid hv
  have HR := Lib.hid hR
  have HC := Lib.hid hC
  clear hl hb hr hA hR hv hm hlen hC
  rcases hec with ⟨rfl, rfl⟩ | ⟨he, rfl⟩
  · go_enter Tryd.func96, Tryd.ntmps96
    go_wp2_with (first
        | (go_at_call 105; (with_reducible refine (GetText_p Hr.out hnc hcm HC.out hnl _ HR.out _ Hv.out).mono ?_); rintro e w3 ⟨rfl, hb3⟩
           have X3 := Hb.out.below hb3 hrl
           have z0 := X3.cell 0
           have zf := X3.frozen 0
           have F3 := Lib.hid (Fr.of_below (S := (· = r)) hb3 (fun i h1 h2 => by omega))
           have X3 := Lib.hid X3
           simp only [List.getElem?_cons_zero] at z0
           clear hb3))
    all_goals
      try clear y0
      try clear y0'
      try clear z0
      go_ret2
    all_goals first
      | exact ⟨rfl, rdAt_end Hl.out HA.out Hr.out m2 X3.out F3.out _ (by rw [if_pos ‹c = m›, ‹c = m›, Nat.sub_self])⟩
      | exact ⟨rfl, rdAt_end Hl.out HA.out Hr.out m2 X3.out F3.out _ (by rw [if_neg ‹¬ c = m›])⟩
  · go_enter Tryd.func96, Tryd.ntmps96
    go_wp2_with (first
        | (go_at_call 105; (with_reducible refine (GetText_p Hr.out hnc hcm HC.out hnl _ HR.out _ Hv.out).mono ?_); rintro e w3 ⟨rfl, hb3⟩
           have X3 := Hb.out.below hb3 hrl
           have z0 := X3.cell 0
           have zf := X3.frozen 0
           have F3 := Lib.hid (Fr.of_below (S := (· = r)) hb3 (fun i h1 h2 => by omega))
           have X3 := Lib.hid X3
           simp only [List.getElem?_cons_zero] at z0
           clear hb3))
    all_goals
      try clear y0
      try clear y0'
      try clear z0
      go_ret2
    all_goals first
      | exact ⟨rfl, rdAt_end Hl.out HA.out Hr.out m2 X3.out F3.out _ (by rw [if_pos ‹c = m›, ‹c = m›, Nat.sub_self])⟩
      | exact ⟨rfl, rdAt_end Hl.out HA.out Hr.out m2 X3.out F3.out _ (by rw [if_neg ‹¬ c = m›])⟩
theorem decT_err {n c : Nat} {R0 : R} (h : decT n R0 = .err c) : 0 < c := by
  cases R0 <;> simp [decT] at h <;> omega
theorem getT_err {most : Int} {xs : List UInt8} {c : Nat} (h : getT most xs = .err c) : 0 < c := by
  rw [getT] at h
  split at h
  · split at h
    · injection h with h; omega
    · split at h
      · cases h
      · exact decT_err h
  · injection h with h; omega
  · injection h with h; omega
  · injection h with h; omega
theorem dText_c (h : RdAt w0 w A0 r ys) (hA : ∀ a, A0 = some a → a.block ≠ r) (hC : Cnt w) (hlen : ys.length ≤ 536870912) (R0 : T) (hR : getT big ys = R0) (v : Value) (hv : txtV R0 = v) (zs : List UInt8) (hz : ys.drop (txtN R0) = zs) : Calls Tryd.prog 96 #[.pointer (some ⟨r, 0, none⟩)] w (ReadP w0 w A0 r zs v) := by
  subst hv hz
  cases R0 with
  | ok t m => exact dText_v h hA hC hlen _ hR (ofB t) m 0 true rfl (.inl ⟨rfl, rfl⟩) (getT_len hR).2.1
  | err c =>
    refine dText_v h hA hC hlen _ hR ⟨#[]⟩ 0 (c : Int) false rfl (.inr ⟨?_, rfl⟩) (Nat.zero_le _)
    have := getT_err hR
    simp
    omega
end
end Go.Proofs.YtinieljgcenemaaDoor
namespace Go.Proofs.YtinieljgcenemaaDoor
open Go.RowKit Go.Own Go.Tbl Go.Huf Go.Hin
set_option linter.unusedVariables false
set_option maxRecDepth 100000
attribute [local go_sem ↓] Go.wp_at_zero Go.wp_at_succ

theorem atL_nth (all : List Fld) (i : Nat) : atL all (i : Int) = nth all i := by
  unfold atL nth
  by_cases h0 : i = 0
  · subst h0
    simp
  · by_cases h1 : all.length < i
    · rw [if_neg h0, if_pos (by omega), List.getElem?_eq_none (by omega)]
    · rw [if_neg h0, if_neg (by omega), show ((i : Int) - 1).toNat = i - 1 by omega]
/-- a field whose value is told, behind its number -/
def namedD (all : List Fld) (i : Nat) (ys : List UInt8) : Option (Fld × Nat) :=
  if 0 < i then
    match nth all i with
    | some g =>
      match getT big ys with
      | .ok t m => some (⟨g.n, ofB t, false⟩, m)
      | .err _ => none
    | none => none
  else
    match getT big ys with
    | .ok s k =>
      match getT big (ys.drop k) with
      | .ok t m => some (⟨ofB s, ofB t, false⟩, k + m)
      | .err _ => none
    | .err _ => none
theorem litD_eq (all : List Fld) (p : Nat) (xs : List UInt8) : litD all p xs = match getN p xs with
    | .ok i n => (namedD all i (xs.drop n)).map fun z => (z.1, n + z.2)
    | _ => none := by
  unfold litD namedD
  cases getN p xs with
  | ok i n =>
    dsimp only
    by_cases h : 0 < i
    · rw [if_pos h, if_pos h]
      cases nth all i with
      | none => rfl
      | some g =>
        dsimp only
        cases getT big (xs.drop n) <;> rfl
    · rw [if_neg h, if_neg h]
      cases getT big (xs.drop n) with
      | err c => rfl
      | ok s k =>
        dsimp only
        rw [List.drop_drop]
        cases getT big (xs.drop (n + k)) with
        | err c => rfl
        | ok t m => simp [Nat.add_assoc]
  | arg => rfl
  | more => rfl
  | form => rfl
theorem pAt_n {w : World} {p h : Nat} {F : Nat → Prop} {l : List Fld} (t : PT w p F h l) (i : Nat) (hi : i ≤ 2147483647) (R : Option Fld) (hR : nth (statL ++ l) i = R) : Calls Tryd.prog 77 #[.pointer (some ⟨p, 0, none⟩), .int .i64 (i : Int)] w fun e w' => e = .returned (atV R) ∧ Below w.heap.size w w' := by
  subst hR
  rw [← atL_nth]
  exact pAt_c t (i : Int) (by unfold i64; omega)
abbrev decCells (q : Nat) (limit list : Int) (broken : Bool) : List Value := [.pointer (some ⟨q, 0, none⟩), .int .i64 limit, .int .i64 list, .bool broken]
section
variable {w0 w : World} {A0 : Option Addr} {p q r h : Nat} {l : List Fld} {G : Nat → Prop} {ys : List UInt8} {limit list : Int} {bk : Bool}
theorem RdAt.below {w' : World} (rd : RdAt w0 w A0 r ys) (hb : Below w.heap.size w w') : RdAt w0 w' A0 r ys := by
  obtain ⟨A, n, c, h1, h2, h3⟩ := rd
  exact ⟨A, n, c, h1, h2.below hb (Blk.lt h2), h3.below hb⟩
set_option maxHeartbeats 2000000 in
theorem dName_zero (rd : RdAt w0 w A0 r ys) (hA : ∀ a, A0 = some a → a.block ≠ r) (hC : Cnt w) (hlen : ys.length ≤ 536870912) (z : Int) (hz : z = 0) (s : ByteArray) (b : Bool) (hv : txtV (getT big ys) = .tuple #[.string s, .bool b]) (zs : List UInt8) (hzs : ys.drop (txtN (getT big ys)) = zs) :
    Calls Tryd.prog 95 #[.pointer (some ⟨p, 0, none⟩), .pointer (some ⟨r, 0, none⟩), .int .i64 z] w (ReadP w0 w A0 r zs (.tuple #[.string s, .bool b])) := by
  subst hz
  have Rd0 := Lib.hid rd
  have HA := Lib.hid hA
  have HC := Lib.hid hC
  have Hv := Lib.hid hv
  have Hz := Lib.hid hzs
  clear rd hA hC hv hzs
  go_enter Tryd.func95, Tryd.ntmps95
  go_wp2_with (first
    | (go_at_call 96; (with_reducible refine (dText_c Rd0.out HA.out HC.out hlen _ rfl _ Hv.out zs Hz.out).mono ?_); rintro e w2 ⟨rfl, rd2, f2⟩; have R2 := Lib.hid rd2; have F2 := Lib.hid f2; clear rd2 f2))
  go_ret2
  exact ⟨rfl, R2.out, F2.out⟩
set_option maxHeartbeats 2000000 in
theorem dName_some (t : PT w q G h l) (b : Blk w p 58 (decCells q limit list bk)) (rd : RdAt w0 w A0 r ys) (i : Nat) (h0 : 0 < i) (hi : i ≤ 2147483647) (g : Fld) (hR : nth (statL ++ l) i = some g) :
    Calls Tryd.prog 95 #[.pointer (some ⟨p, 0, none⟩), .pointer (some ⟨r, 0, none⟩), .int .i64 (i : Int)] w (ReadP w0 w A0 r ys (.tuple #[.string g.n, .bool true])) := by
  have Rd0 := Lib.hid rd
  have y0 : w.cell? ⟨p, 0, none⟩ = some (.pointer (some ⟨q, 0, none⟩)) := b.cell 0
  have T := Lib.hid t
  have HR := Lib.hid hR
  have kb : ((i : Int) == 0) = false := by simp; omega
  clear rd b t hR
  go_enter Tryd.func95, Tryd.ntmps95
  go_wp2_with (first
    | (go_at_call 77; (with_reducible refine (pAt_n T.out i hi _ HR.out).mono ?_); rintro e w2 ⟨rfl, hb⟩; unfold atV; have B2 := Lib.hid hb; clear hb))
  go_ret2
  have hb := B2.out.alloc (o := .cells #[.string g.n, .string g.v, .bool g.nv] 38) B2.out.size
  exact ⟨rfl, Rd0.out.below hb, Fr.of_below hb (fun i h1 h2 => by omega)⟩
set_option maxHeartbeats 2000000 in
theorem dName_none (t : PT w q G h l) (b : Blk w p 58 (decCells q limit list bk)) (rd : RdAt w0 w A0 r ys) (i : Nat) (h0 : 0 < i) (hi : i ≤ 2147483647) (hR : nth (statL ++ l) i = none) :
    Calls Tryd.prog 95 #[.pointer (some ⟨p, 0, none⟩), .pointer (some ⟨r, 0, none⟩), .int .i64 (i : Int)] w (ReadP w0 w A0 r ys (.tuple #[.string ⟨#[]⟩, .bool false])) := by
  have Rd0 := Lib.hid rd
  have y0 : w.cell? ⟨p, 0, none⟩ = some (.pointer (some ⟨q, 0, none⟩)) := b.cell 0
  have T := Lib.hid t
  have HR := Lib.hid hR
  have kb : ((i : Int) == 0) = false := by simp; omega
  clear rd b t hR
  go_enter Tryd.func95, Tryd.ntmps95
  go_wp2_with (first
    | (go_at_call 77; (with_reducible refine (pAt_n T.out i hi _ HR.out).mono ?_); rintro e w2 ⟨rfl, hb⟩; unfold atV; have B2 := Lib.hid hb; clear hb))
  go_ret2
  have hb := B2.out.alloc (o := .cells #[.string ⟨#[]⟩, .string ⟨#[]⟩, .bool false] 38) B2.out.size
  exact ⟨rfl, Rd0.out.below hb, Fr.of_below hb (fun i h1 h2 => by omega)⟩
/-- a name, read: what is answered, what is left -/
def nameV (all : List Fld) (i : Nat) (ys : List UInt8) : ByteArray × Bool × List UInt8 :=
  if i = 0 then
    match getT big ys with
    | .ok t n => (ofB t, true, ys.drop n)
    | .err _ => (⟨#[]⟩, false, ys)
  else
    match nth all i with
    | some g => (g.n, true, ys)
    | none => (⟨#[]⟩, false, ys)
theorem dName_c (t : PT w q G h l) (b : Blk w p 58 (decCells q limit list bk)) (rd : RdAt w0 w A0 r ys) (hA : ∀ a, A0 = some a → a.block ≠ r) (hC : Cnt w) (hlen : ys.length ≤ 536870912) (i : Nat) (hi : i ≤ 2147483647) (s : ByteArray) (ok : Bool) (zs : List UInt8) (hR : nameV (statL ++ l) i ys = (s, ok, zs)) :
    Calls Tryd.prog 95 #[.pointer (some ⟨p, 0, none⟩), .pointer (some ⟨r, 0, none⟩), .int .i64 (i : Int)] w (ReadP w0 w A0 r zs (.tuple #[.string s, .bool ok])) := by
  unfold nameV at hR
  by_cases h0 : i = 0
  · rw [if_pos h0] at hR
    cases hT : getT big ys with
    | ok t n =>
      rw [hT] at hR
      injection hR with e1 e2
      injection e2 with e2 e3
      subst e1 e2 e3
      exact dName_zero rd hA hC hlen _ (by omega) _ _ (by rw [hT]; rfl) _ (by rw [hT]; rfl)
    | err c =>
      rw [hT] at hR
      injection hR with e1 e2
      injection e2 with e2 e3
      subst e1 e2 e3
      exact dName_zero rd hA hC hlen _ (by omega) _ _ (by rw [hT]; rfl) _ (by rw [hT]; rfl)
  · rw [if_neg h0] at hR
    cases hN : nth (statL ++ l) i with
    | some g =>
      rw [hN] at hR
      injection hR with e1 e2
      injection e2 with e2 e3
      subst e1 e2 e3
      exact dName_some t b rd i (by omega) hi g hN
    | none =>
      rw [hN] at hR
      injection hR with e1 e2
      injection e2 with e2 e3
      subst e1 e2 e3
      exact dName_none t b rd i (by omega) hi hN
end
end Go.Proofs.YtinieljgcenemaaDoor
