/- The statement 'for .. := range x.m' over a method value (the function bears its receiver): a law of our own over the library's step. Nothing of the program. -/
import Derived.Test.YtefjjmhbbcganaaBase
import Derived.RangeFuncNested
import Derived.RangeFuncBound
import Derived.RangeFuncCalls
import Derived.RangeFuncLeaves
import Derived.RangeFuncFrom
import Derived.RangeFuncWrites
import Derived.RangeFuncBox
namespace Go.Own
open Go.RowKit

/-- a block that is no cells, from B on, is turned -/
def Turns (B : Nat) (W W' : World) : Prop := ∃ (l : Nat) (o o' : Obj), B ≤ l ∧ W.heap[l]? = some o ∧ o.isCells = false ∧ W' = W.putObj l o'
/-- how a round may be left -/
def roundP (Kp : World → World → Prop) (I Ix : Nat → World → Prop) (k : Nat) (W : World) : Exit → Act → World → Prop
  | .normal, _, W' => KeepsOthers W W' ∧ Kp W W' ∧ I (k + 1) W'
  | .ret, _, W' => KeepsOthers W W' ∧ Ix k W'
  | _, _, _ => False
theorem below_putObj0 {B : Nat} {W : World} {l : Nat} {o o' : Obj} (hB : B ≤ l) (hl : W.heap[l]? = some o) : Below B W (W.putObj l o') :=
  (Below.refl B W).grown (grownBy_putObj' W l o') (by have := (Array.getElem?_eq_some_iff.1 hl).1; omega) (fun k e => by cases e; omega)
theorem below_putObj {B : Nat} {w W : World} {l : Nat} {o o' : Obj} (h : Below B w W) (hB : B ≤ l) (hl : W.heap[l]? = some o) : Below B w (W.putObj l o') :=
  h.trans (below_putObj0 hB hl)
theorem Turns.below {B C : Nat} {w W W' : World} (ht : Turns C W W') (h : Below B w W) (hC : B ≤ C) : Below B w W' := by
  obtain ⟨l, o, o', hl, ho, _, rfl⟩ := ht
  exact below_putObj h (by omega) ho
theorem Turns.blk {B : Nat} {W W' : World} {g : Nat} {t : TypeId} {cs : List Value} (ht : Turns B W W') (h : Blk W g t cs) : Blk W' g t cs := by
  obtain ⟨l, o, o', hl, ho, hc, rfl⟩ := ht
  have hne : g ≠ l := by
    rintro rfl
    unfold Blk at h
    rw [ho] at h
    cases h
    cases hc
  exact (World.putObj_heap_other hne).trans h
/-- each block of cells that S does not name is as it was -/
def KeepB (S : Nat → Prop) (W W' : World) : Prop := ∀ b t cs, Blk W b t cs → ¬ S b → Blk W' b t cs
theorem KeepB.refl (S : Nat → Prop) (W : World) : KeepB S W W := fun _ _ _ h _ => h
theorem KeepB.trans {S : Nat → Prop} {A B C : World} (h : KeepB S A B) (k : KeepB S B C) : KeepB S A C := fun b t cs hb hs => k b t cs (h b t cs hb hs) hs
theorem KeepB.turns {S : Nat → Prop} {B : Nat} {W W' : World} (h : Turns B W W') : KeepB S W W' := fun _ _ _ hb _ => h.blk hb
theorem KeepB.below {S : Nat → Prop} {W W' : World} (h : Below W.heap.size W W') : KeepB S W W' := fun _ _ _ hb _ => hb.below h hb.lt
theorem KeepB.setCell {S : Nat → Prop} {W W' : World} (h : KeepB S W W') {p : Addr} (hp : S p.block) (v : Value) : KeepB S W (W'.setCell p v) := fun b t cs hb hs => (h b t cs hb hs).far (fun e => hs (by rw [e]; exact hp)) v
variable {F : Fence} {n : Nat} {P : Program}
theorem wpIn_range_bound {α : Type} {g : Operand} {ps : Array Tmp} {assign body : Code} {Q : Exit → Act → World → Prop} {a : Act} {w : World}
    (hro : F.round = none) (h1 : 1 ≤ n) {gf : Nat} {first : Array Value} (hg : a.eval g = .func (.func gf) first #[]) (hFg : F.fn gf) (eg : ∀ args w, (callFunc gf args).run P w = .ok (.enter gf args) w)
    (xs : List α) (encs : α → Array Value) (hps : ∀ x, (encs x).size = ps.size)
    (Kp : World → World → Prop) (hKt : ∀ {A B C : World}, Kp A B → Kp B C → Kp A C) (hKb : ∀ W W', Turns w.heap.size W W' → Kp W W') (hKa : ∀ W W', Below W.heap.size W W' → Kp W W')
    (I Ix : Nat → World → Prop) (hIb : ∀ k W W', I k W → Turns w.heap.size W W' → I k W') (hXb : ∀ k W W', Ix k W → Turns w.heap.size W W' → Ix k W')
    (hIa : ∀ k W W', I k W → Below W.heap.size W W' → I k W') (h0 : I 0 w)
    (hseq : ∀ (l : Nat) (J : Nat → World → Prop) (Jx : World → Prop) (W : World), Below w.heap.size w W → (∀ k W W', J k W → Below W.heap.size W W' → J k W') → J 0 W →
      (∀ k x W1, xs[k]? = some x → J k W1 → YieldAt F (n - 1 - 1) P l (encs x) W1 fun e W' => (e = .returned (.bool true) ∧ J (k + 1) W' ∧ Kp W1 W') ∨ (e = .returned (.bool false) ∧ Jx W')) →
      CallsIn F (n - 1) P gf (first ++ #[.func (.yield l) #[] #[]]) W fun e W' => (∃ v, e = .returned v) ∧ (J xs.length W' ∨ Jx W'))
    (Ax : Nat → α → Act → World → Prop) (hAb : ∀ k x a' W W', Ax k x a' W → Turns w.heap.size W W' → Ax k x a' W')
    (hassign : ∀ (l k : Nat) (x : α) (W : World) (K : Act → World → Prop), xs[k]? = some x → I k W → (∀ a' W', Below W.heap.size W W' → I k W' → Ax k x a' W' → K a' W') →
      assign.wpIn (F.inRound l) (n - 1 - 1) P (Exit.then K (fun _ _ _ => False)) { tmps := (ps.zip (encs x)).foldl (fun t (p, v) => t.setIfInBounds p v) a.tmps, defers := [] } W)
    (hbody : ∀ (l k : Nat) (x : α) (a' : Act) (W : World), xs[k]? = some x → I k W → Ax k x a' W → body.wpIn (F.inRound l) (n - 1 - 1) P (roundP Kp I Ix k W) a' W)
    (hdone : ∀ (D : Nat) (W : World), w.heap.size ≤ D → I xs.length W → W.heap[D]? = some (.deferred (some [])) → Q .normal { a with defers := { target := .collected D, args := #[] } :: a.defers } W)
    (hstop : ∀ (D k : Nat) (W : World), w.heap.size ≤ D → Ix k W → W.heap[D]? = some (.deferred (some [])) → Code.ret.wpIn F n P Q { a with defers := { target := .collected D, args := #[] } :: a.defers } W) :
    (Code.rangeFunc g ps assign body).wpIn F n P Q a w := by
  refine wpIn_rangeFunc ?_
  intro fn hfn
  rw [hro]
  -- the loop's record, and the world in which the function is called
  let rec_ : LoopState → Option Code → Loop := fun st pe => { state := st, pending := pe, fn, tmps := a.tmps, params := ps, assign, body, defers := w.heap.size }
  obtain ⟨mk, hmk⟩ : ∃ mk, mk = rec_ := ⟨_, rfl⟩
  obtain ⟨W0, hW0⟩ : ∃ W0, (w.alloc (.deferred (some []))).alloc (.loop (mk .ready none)) = W0 := ⟨_, rfl⟩
  obtain ⟨B, hB⟩ : ∃ B, w.heap.size = B := ⟨_, rfl⟩
  have hL0 : W0.heap[B + 1]? = some (.loop (mk .ready none)) := by
    rw [← hW0, ← hB]; have := World.alloc_heap_new (w.alloc (.deferred (some []))) (.loop (mk .ready none)); rwa [World.size_alloc] at this
  have hD0 : W0.heap[B]? = some (.deferred (some [])) := by
    rw [← hW0, ← hB]; exact (Below.heap_alloc _ _ _ (by simp)).trans (World.alloc_heap_new w _)
  have hb0 : Below B w W0 := by
    rw [← hW0, ← hB]; exact ((Below.refl _ w).alloc (Nat.le_refl _) _).alloc (by simp) _
  have hI0 : I 0 W0 := hIa 0 w W0 h0 (by rw [hB]; exact hb0)
  refine ⟨B + 1, [{ target := .collected B, args := #[] }], W0, { target := .fn (.func gf) #[], args := first ++ #[.func (.yield (B + 1)) #[] #[]] }, W0, gf,
    first ++ #[.func (.yield (B + 1)) #[] #[]], W0, ?_, ?_, ?_, ?_, fun _ => h1, ?_⟩
  · rw [← hW0, hmk, ← hB]; exact run_enterLoop_outer _ _ _ _ _
  · simp only [resolve, hg]
    simp [go_sem]
  · intro f' hf'; simp [Target.leads] at hf'; subst hf'; exact hFg
  · simp [invoke, go_sem, eg]
  · have hcall := hseq (B + 1) (fun k W => I k W ∧ W.heap[B + 1]? = some (.loop (mk .ready none)) ∧ W.heap[B]? = some (.deferred (some [])))
      (fun W => ∃ k, Ix k W ∧ W.heap[B + 1]? = some (.loop (mk .done (some .ret))) ∧ W.heap[B]? = some (.deferred (some []))) W0 (by rw [hB]; exact hb0)
      (fun k W W' ⟨hi, hl, hd⟩ hb => ⟨hIa k W W' hi hb, (hb.block _ (Array.getElem?_eq_some_iff.1 hl).1).trans hl, (hb.block _ (Array.getElem?_eq_some_iff.1 hd).1).trans hd⟩)
      ⟨hI0, hL0, hD0⟩ ?_
    · refine hcall.mono ?_
      rintro e W2 ⟨⟨v, rfl⟩, ⟨hi, hl, hd⟩ | ⟨k, hi, hl, hd⟩⟩
      · refine ⟨none, W2.putObj (B + 1) (.loop { mk .ready none with state := .exhausted }), ?_, ?_⟩
        · have := run_endLoop (P := P) hl (by rw [hmk]; simp [rec_])
          rw [this, hmk]
        · exact hdone B _ (by omega) (hIb _ _ _ hi ⟨B + 1, _, _, by omega, hl, rfl, rfl⟩) ((World.putObj_heap_other (by omega)).trans hd)
      · refine ⟨some .ret, W2.putObj (B + 1) (.loop { mk .done (some .ret) with state := .exhausted }), ?_, ?_⟩
        · have := run_endLoop (P := P) hl (by rw [hmk]; simp [rec_])
          rw [this, hmk]
        · exact hstop B k _ (by omega) (hXb _ _ _ hi ⟨B + 1, _, _, by omega, hl, rfl, rfl⟩) ((World.putObj_heap_other (by omega)).trans hd)
    · -- one round
      rintro k x W hx ⟨hi, hl, hd⟩
      have hy := run_yield (P := P) (args := encs x) hl (by rw [hmk]; exact hps x)
      rw [hmk] at hy
      refine ⟨fn, _, assign, body, hy, roundIn_of_wpIn hfn (hassign _ k x W _ hx hi ?_)⟩
      intro a1 W1 hb1 hi1 hax
      have hl1 : W1.heap[B + 1]? = some (.loop (mk .ready none)) := (hb1.block _ (Array.getElem?_eq_some_iff.1 hl).1).trans hl
      have hd1 : W1.heap[B]? = some (.deferred (some [])) := (hb1.block _ (Array.getElem?_eq_some_iff.1 hd).1).trans hd
      obtain ⟨busy, hbusy⟩ : ∃ b : Loop, b = { mk .ready none with state := .busy } := ⟨_, rfl⟩
      refine ⟨W1.putObj (B + 1) (.loop busy), by rw [hbusy]; exact run_beginRound hl1 (by rw [hmk]), ?_⟩
      have ht1 : Turns w.heap.size W1 (W1.putObj (B + 1) (.loop busy)) := ⟨B + 1, _, _, by omega, hl1, rfl, rfl⟩
      have hl2 : (W1.putObj (B + 1) (.loop busy)).heap[B + 1]? = some (.loop busy) := World.putObj_heap_same (Array.getElem?_eq_some_iff.1 hl1).1
      have hd2 : (W1.putObj (B + 1) (.loop busy)).heap[B]? = some (.deferred (some [])) := (World.putObj_heap_other (by omega)).trans hd1
      have hk01 : Kp W (W1.putObj (B + 1) (.loop busy)) := hKt (hKa _ _ hb1) (hKb _ _ ht1)
      refine wpIn_mono (hbody _ k x a1 _ hx (hIb _ _ _ hi1 ht1) (hAb _ _ _ _ _ hax ht1)) ?_
      rintro e a3 W3 hp
      cases e with
      | normal =>
        obtain ⟨hko, hkp, hi3⟩ := hp
        have hl3 := hko.same _ _ hl2 rfl
        have hd3 := hko.same _ _ hd2 rfl
        have hr := run_endRound (P := P) none hl3
        have ht3 : Turns w.heap.size W3 (W3.putObj (B + 1) (.loop (mk .ready none))) := ⟨B + 1, _, _, by omega, hl3, rfl, rfl⟩
        refine ⟨_, W3.putObj (B + 1) (.loop (mk .ready none)), by rw [hr, hbusy, hmk]; rfl, .inl ⟨rfl, ⟨hIb _ _ _ hi3 ht3, World.putObj_heap_same (Array.getElem?_eq_some_iff.1 hl3).1, (World.putObj_heap_other (by omega)).trans hd3⟩, hKt hk01 (hKt hkp (hKb _ _ ht3))⟩⟩
      | ret =>
        obtain ⟨hko, hi3⟩ := hp
        have hl3 := hko.same _ _ hl2 rfl
        have hd3 := hko.same _ _ hd2 rfl
        have hr := run_endRound (P := P) (some .ret) hl3
        have ht3 : Turns w.heap.size W3 (W3.putObj (B + 1) (.loop (mk .done (some .ret)))) := ⟨B + 1, _, _, by omega, hl3, rfl, rfl⟩
        refine ⟨_, W3.putObj (B + 1) (.loop (mk .done (some .ret))), by rw [hr, hbusy, hmk]; rfl, .inr ⟨rfl, k, hXb _ _ _ hi3 ht3, World.putObj_heap_same (Array.getElem?_eq_some_iff.1 hl3).1, (World.putObj_heap_other (by omega)).trans hd3⟩⟩
      | exit id => exact hp.elim
      | goto t => exact hp.elim
      | panic ch => exact hp.elim
      | outgrown => exact hp.elim
end Go.Own
