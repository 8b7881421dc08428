/- Several texts in one: Wq. -/
import Derived.Test.YtokbdkbljgdcpaaDoorY28
import Derived.Test.YtokbdkbljgdcpaaDoorY29
import Derived.Test.YtokbdkbljgdcpaaDoorY30
/- THE contract of Write. -/
namespace Go.Proofs.YtokbdkbljgdcpaaDoor
open Go.RowKit Go.Own Go.Frm
set_option linter.unusedVariables false
/-- what Write answers: octets of their own, and the error -/
def WriP (w : World) (r : List UInt8 × Int) (e : Ending) (w' : World) : Prop := ∃ A c, e = .returned (.tuple #[.slice A r.1.length c, .int .i64 r.2]) ∧ w'.ownsRow w.heap.size 5 1 (.slice A r.1.length c) r.1.length (r.1.map BV) ∧ Below w.heap.size w w'
theorem write_c (f : Fm) (hc : okF f) (A B : Option Addr) (n c m d : Nat) {w : World} (hG : Gl w) (hp : Rd w 1 A n (f.pay.map BV)) (hn : n ≤ 100000000) (hnc : n ≤ c) (hrd : Rd w 2 B m (scells f.list)) (hm : m ≤ 100000000) :
    Calls Tryd.prog 14 #[frV f (.slice A n c) (.slice B m d)] w (WriP w (writeP f)) := by
  cases hmay : mayB f with
  | false =>
    have e : writeP f = ([], 1) := by unfold writeP; rw [hmay]; rfl
    rw [e]
    refine (write_1 f hc A B n c m d hG hp hn hnc hrd hm hmay).mono ?_
    rintro e w' ⟨rfl, hb⟩
    exact ⟨none, 0, rfl, World.ownsRow_nil _ _ _ _, hb⟩
  | true =>
    by_cases hbig : (body f).length ≤ 16777215
    · have e : writeP f = (wr f, 0) := by unfold writeP; rw [hmay, decide_eq_true hbig]; rfl
      rw [e]
      have P := (may_iff f).1 hmay
      by_cases hp0 : f.pad = 0
      · exact write_3 f hc A B n c m d hG hp hn hnc hrd hm hmay hbig hp0
      · obtain ⟨q, hq⟩ : ∃ q : Nat, f.pad = (q : Int) + 1 := ⟨(f.pad - 1).toNat, by have := P.p0; omega⟩
        exact write_4 f hc A B n c m d hG hp hn hnc hrd hm hmay hbig q hq
    · have e : writeP f = ([], 4) := by unfold writeP; rw [hmay, decide_eq_false hbig]; rfl
      rw [e]
      refine (write_2 f hc A B n c m d hG hp hn hnc hrd hm hmay (by omega)).mono ?_
      rintro e w' ⟨rfl, hb⟩
      exact ⟨none, 0, rfl, World.ownsRow_nil _ _ _ _, hb⟩
end Go.Proofs.YtokbdkbljgdcpaaDoor
