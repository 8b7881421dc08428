/- Stage 10: what the laws' walks share. -/
import Derived.Test.YtilabahcngjflaaDoorJiP
import Derived.Test.YtilabahcngjflaaDoorJiV
import Derived.Deep.LoopGhost
namespace Go.Proofs.YtilabahcngjflaaDoor
open Go.RowKit Go.Own Go.Tbl Go.Fie
set_option linter.unusedVariables false
set_option linter.unusedSimpArgs false
set_option maxRecDepth 100000
theorem msgOf (o : Option Msg) : ∃ M S A P st len, o.getD msg0 = ⟨M, S, A, P, st, len⟩ := ⟨_, _, _, _, _, _, rfl⟩
/-- a row that is still empty -/
theorem own_empty (w : World) : (w.alloc (.cells #[] 34)).ownsRow w.heap.size 34 3 (.slice (some ⟨w.heap.size, 0, none⟩) 0 0) 0 [] := by
  have := own_of_blk (n := 0) (size := 3) (cap := 0) (Blk.new w 34 []) rfl (by omega) (by simp [maxLen])
  have h2 := own_up (B := w.heap.size) this (by intro g hg; simp [Value.ownBlock] at hg; omega)
  simpa using h2
theorem wpList_append_new {P : Program} {w : World} {ops : Array Oper} {rest : List Oper} {o : Oper} {a : Act} {Q : Exit → Act → World → Prop} (hgd : o.guard = none) (s x : Operand) (t : TypeId)
    (ho : o.op = .call { callee := .builtin .append, args := #[s, x], argTypes := #[t, t] }) {e : TypeId} {z : Value} {size bytes : Nat} (E : Elt P t e z size bytes) {base : Nat}
    (v : Value) (hs : a.eval s = v) (hown : w.ownsRow base e size v 0 []) (A : Option Addr) (m c : Nat) (news : List Value) (hx : a.eval x = .slice A m c)
    (hr : Rd w size A m news) (h1 : ∀ u ∈ news, u.oneCell' = true)
    (hb : m * bytes ≤ 140737488355328) (h63 : m ≤ maxLen) (hbase : base ≤ w.heap.size)
    (h : ∀ A' c' w', w'.ownsRow base e size (.slice A' m c') m news → Fr (fun i => some i = v.ownBlock) w w' → ((Value.slice A' m c').ownBlock = v.ownBlock ∨ (Value.slice A' m c').ownBlock = some w.heap.size) → wpList P ops Q rest (a.put o.dst (.slice A' m c')) w') : wpList P ops Q (o :: rest) a w :=
  wpList_append_rd hgd s x t ho E v 0 [] hs hown A m c news hx hr h1 (by rwa [Nat.zero_add]) (by rwa [Nat.zero_add]) hbase fun A' c' w' h2 h3 h4 => by
    rw [Nat.zero_add, List.nil_append] at *
    exact h A' c' w' h2 h3 h4
theorem app_below {w0 w w' : World} {v : Value} {e : TypeId} {size n : Nat} {xs : List Value} (hb : Below w0.heap.size w0 w) (ho : w.ownsRow w0.heap.size e size v n xs) (hf : Fr (fun i => some i = v.ownBlock) w w') : Below w0.heap.size w0 w' :=
  hb.trans (hf.below hb.size (fun i hi h => (ho.lt i h.symm).1))
theorem below_from {w0 w w' : World} (h : Below w0.heap.size w0 w) (k : Below w.heap.size w w') : Below w0.heap.size w0 w' := h.trans (k.mono h.size)
/-- fields of two rows -/
theorem fok_app {a b : List Fld} (ha : ∀ f ∈ a, fok f) (hb : ∀ f ∈ b, fok f) : ∀ f ∈ a ++ b, fok f := by
  intro f hf
  rcases List.mem_append.1 hf with h | h
  · exact ha f h
  · exact hb f h
end Go.Proofs.YtilabahcngjflaaDoor
