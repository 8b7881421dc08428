/- Several texts in one: Wm. -/
import Derived.Test.YtokbdkbljgdcpaaDoorY18
import Derived.Test.YtokbdkbljgdcpaaDoorY19
import Derived.Test.YtokbdkbljgdcpaaDoorY20
import Derived.Test.YtokbdkbljgdcpaaDoorY21
import Derived.Test.YtokbdkbljgdcpaaDoorY22
/- The contract of mayBe. -/
namespace Go.Proofs.YtokbdkbljgdcpaaDoor
open Go.RowKit Go.Own Go.Frm
set_option linter.unusedVariables false
theorem mayBe_any (f : Fm) (A B : Option Addr) (n c m d : Nat) {w : World} (hG : Gl w) (hn : f.pay.length = n) (hl : f.list.length = m) (hrd : Rd w 2 B m (scells f.list)) (hm : m ≤ 9223372036854775807) (r : Bool) (hr : mayB f = r) :
    Calls Tryd.prog 31 #[frV f (.slice A n c) (.slice B m d)] w fun e w' => e = .returned (.bool r) ∧ Below w.heap.size w w' := by
  subst hr
  cases e1 : (decide (0 ≤ f.kind) && decide (f.kind ≤ 255)) with
  | false =>
    have e : mayB f = false := by unfold mayB headOk; rw [e1]; simp
    rw [e]; exact mayBe_1 f A B n c m d hG e1
  | true =>
    have h0 : 0 ≤ f.kind := by simp at e1; exact e1.1
    have hk : f.kind = ((f.kind.toNat : Nat) : Int) := by omega
    cases e2 : (decide (0 ≤ f.stream) && decide (f.stream ≤ 2147483647)) with
    | false =>
      have e : mayB f = false := by
        unfold mayB headOk
        rw [e1, Bool.true_and]
        cases h : decide (0 ≤ f.stream) <;> rw [h] at e2 <;> simp at e2 ⊢
        intro h'; omega
      rw [e]; exact mayBe_2 f _ hk A B n c m d hG e1 e2
    | true =>
      have eh : headOk f = !stray f.kind.toNat f.stream := by
        unfold headOk
        simp only [Bool.and_eq_true] at e1 e2
        rw [e1.1, e1.2, e2.1, e2.2]; rfl
      cases e3 : stray f.kind.toNat f.stream with
      | true =>
        have e : mayB f = false := by unfold mayB; rw [eh, e3]; rfl
        rw [e]; exact mayBe_3 f _ hk A B n c m d hG e1 e2 (by rw [e3]; rfl)
      | false =>
        cases e4 : only f with
        | false =>
          have e : mayB f = false := by unfold mayB; rw [eh, e3, e4]; rfl
          rw [e]; exact mayBe_4 f _ hk A B n c m d hG e1 e2 (by rw [e3]; rfl) (by rw [e4]; rfl) hn hl
        | true =>
          have e : mayB f = inbB f := by unfold mayB; rw [eh, e3, e4, inb_eq f h0 e4]; rfl
          rw [e]; exact mayBe_5 f _ hk A B n c m d hG e1 e2 (by rw [e3]; rfl) (by rw [e4]; rfl) hn hl hrd hm
end Go.Proofs.YtokbdkbljgdcpaaDoor
