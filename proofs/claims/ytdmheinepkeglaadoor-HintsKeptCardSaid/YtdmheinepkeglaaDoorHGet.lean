/- The contract of hints' GetInt. -/
import Derived.Test.YtdmheinepkeglaaDoorHPut
import Derived.StillTailTactics
namespace Go.Proofs.YtdmheinepkeglaaDoor
open Go.RowKit Go.Own Go.Huf Go.Hin
set_option linter.unusedVariables false

/-- what GetInt answers -/
def getV : G → Value
  | .ok v n => .tuple #[.int .i64 (v : Int), .int .i64 (n : Int), .int .i64 0]
  | .arg => .tuple #[.int .i64 0, .int .i64 0, .int .i64 1]
  | .more => .tuple #[.int .i64 0, .int .i64 0, .int .i64 2]
  | .form => .tuple #[.int .i64 0, .int .i64 0, .int .i64 3]
/-- the world behind the error's variable -/
theorem end_err {w w'' : World} {w5 : World} (hb : Below (w.alloc (.cells #[.int .i64 0] 24)).heap.size (w.alloc (.cells #[.int .i64 0] 24)) w5) (hf : Fr (fun i => i = (⟨w.heap.size, 0, none⟩ : Addr).block) w5 w'') : Below w.heap.size w w'' :=
  (((Below.refl _ _).alloc (Nat.le_refl _) _).trans (hb.mono (by simp))).trans (hf.below (by have := hb.size; simp at this; omega) (fun i _ e => by simp at e; omega))
theorem rw_new (w : World) (o : Obj) (A : Option Addr) (len cap : Nat) : RW (w.alloc o) (w.heap.size + 1) A len cap 0 ((w.alloc o).alloc (.cells #[.slice A len cap, .int .i64 0] 51)) := by
  refine ⟨?_, (Below.refl _ _).alloc (Nat.le_refl _) _, by simp, by omega⟩
  have := Blk.new (w.alloc o) 51 [.slice A len cap, .int .i64 ((0 : Nat) : Int)]
  simpa [RAt] using this
set_option maxRecDepth 100000 in
set_option maxHeartbeats 2000000 in
theorem GetInt_any {w : World} {A : Option Addr} {len cap : Nat} {xs : List UInt8} (hr : Rd w 1 A len (xs.map BV)) (hlc : len ≤ cap) (hcap : cap ≤ 9223372036854775807) (m : Int) (R0 : G) (hR : getI xs m = R0) :
    Calls Tryd.prog 12 #[.slice A len cap, .int .i64 m] w fun e w' => e = .returned (getV R0) ∧ Below w.heap.size w w' := by
  have hmf : ∀ (fn : Fn) (first cap : Array Value) (w : World), (Instr.makeFunc fn first cap).run Tryd.prog w = .ok (.func fn first cap) w := fun _ _ _ _ => rfl
  have Hr := Lib.hid hr
  clear hr
  by_cases hm : 1 ≤ m ∧ m ≤ 8
  · obtain ⟨m', rfl⟩ := Int.eq_ofNat_of_zero_le (show 0 ≤ m by omega)
    have hm1 : 1 ≤ m' := by omega
    have hm8 : m' ≤ 8 := by omega
    rw [getI, if_pos hm] at hR
    have HR : Hid (getN m' xs = R0) := hR
    clear hR hm
    have Hs : Hid (RS (w.alloc (.cells #[.int .i64 0] 24)) A len cap xs) := ⟨rd_alloc Hr.out _, hlc, hcap⟩
    rcases R0 with ⟨v, n⟩ | _ | _ | _
    · go_enter_defers Tryd.func12, Tryd.ntmps12
      go_wp2_with (first
        | (go_at_call 21; (with_reducible refine (mustBe_ok m' hm1 hm8 _).mono ?_); rintro e w4 ⟨rfl, rfl⟩)
        | (go_at_call 25; (with_reducible refine (number_any Hs.out (rw_new w _ A len cap) m' hm1 hm8 _ rfl _ HR.out).mono ?_); rintro e w5 ⟨rfl, h5⟩; obtain ⟨hc5, hz5⟩ := err_cell h5.below; have d1 := h5.at_.cell 1; simp only [List.getElem?_cons_zero, List.getElem?_cons_succ] at d1; have H5 := Lib.hid h5; clear h5))
      go_still_tail 5, (by kernel_rfl)
      change wpList _ _ _ _ _ w5.drew
      go_wp2
      refine leaves_cons (f := 24) (args := #[.pointer (some ⟨w.heap.size, 0, none⟩)]) (by simp) (by simp [go_sem]) ?_
      refine (catchG_idle ⟨w.heap.size, 0, none⟩ 0 (w5.setCell ⟨w.heap.size, 0, none⟩ (.int .i64 0)).drew (World.cell?_setCell_same w5 ⟨w.heap.size, 0, none⟩ (.int .i64 0) hc5) (by simp [hz5])).mono ?_
      rintro e u' w'' ⟨rfl, rfl, hc6, hf⟩
      have hf2 : Fr (fun i => i = (⟨w.heap.size, 0, none⟩ : Addr).block) w5 w'' := (((Fr.refl (fun i => i = (⟨w.heap.size, 0, none⟩ : Addr).block) w5).setCell (p := ⟨w.heap.size, 0, none⟩) (.inl rfl) _).drew).trans hf (fun _ _ h => h)
      simp [Leaves, settle, results, Tryd.results12, go_sem, hc6]
      exact ⟨rfl, end_err H5.out.below hf2⟩
    · go_enter_defers Tryd.func12, Tryd.ntmps12
      go_wp2_with (first
        | (go_at_call 21; (with_reducible refine (mustBe_ok m' hm1 hm8 _).mono ?_); rintro e w4 ⟨rfl, rfl⟩)
        | (go_at_call 25; (with_reducible refine (number_any Hs.out (rw_new w _ A len cap) m' hm1 hm8 _ rfl _ HR.out).mono ?_); intro e w5 h5; exact h5.elim))
    · go_enter_defers Tryd.func12, Tryd.ntmps12
      go_wp2_with (first
        | (go_at_call 21; (with_reducible refine (mustBe_ok m' hm1 hm8 _).mono ?_); rintro e w4 ⟨rfl, rfl⟩)
        | (go_at_call 25; (with_reducible refine (number_any Hs.out (rw_new w _ A len cap) m' hm1 hm8 _ rfl _ HR.out).mono ?_); rintro e w5 ⟨rfl, h5⟩; obtain ⟨hc5, hz5⟩ := err_cell h5; have H5 := Lib.hid h5; clear h5))
      refine leaves_cons (f := 24) (args := #[.pointer (some ⟨w.heap.size, 0, none⟩)]) (by simp) (by simp [go_sem]) ?_
      refine (catchG_up ⟨w.heap.size, 0, none⟩ .short 0 _ hc5 hz5).mono ?_
      rintro e u' w'' ⟨rfl, rfl, hc6, hf⟩
      simp [Leaves, settle, results, Tryd.results12, go_sem, hc6]
      exact ⟨rfl, end_err H5.out hf⟩
    · go_enter_defers Tryd.func12, Tryd.ntmps12
      go_wp2_with (first
        | (go_at_call 21; (with_reducible refine (mustBe_ok m' hm1 hm8 _).mono ?_); rintro e w4 ⟨rfl, rfl⟩)
        | (go_at_call 25; (with_reducible refine (number_any Hs.out (rw_new w _ A len cap) m' hm1 hm8 _ rfl _ HR.out).mono ?_); rintro e w5 ⟨rfl, h5⟩; obtain ⟨hc5, hz5⟩ := err_cell h5; have H5 := Lib.hid h5; clear h5))
      refine leaves_cons (f := 24) (args := #[.pointer (some ⟨w.heap.size, 0, none⟩)]) (by simp) (by simp [go_sem]) ?_
      refine (catchG_up ⟨w.heap.size, 0, none⟩ .sense 0 _ hc5 hz5).mono ?_
      rintro e u' w'' ⟨rfl, rfl, hc6, hf⟩
      simp [Leaves, settle, results, Tryd.results12, go_sem, hc6]
      exact ⟨rfl, end_err H5.out hf⟩
  · rw [getI, if_neg hm] at hR
    subst hR
    obtain ⟨hc5, hz5⟩ := err_cell (w := w) (Below.refl _ _)
    go_enter_defers Tryd.func12, Tryd.ntmps12
    go_wp2_with (first
      | (go_at_call 21; (with_reducible refine (mustBe_no m hm _).mono ?_); rintro e w4 ⟨rfl, rfl⟩))
    refine leaves_cons (f := 24) (args := #[.pointer (some ⟨w.heap.size, 0, none⟩)]) (by simp) (by simp [go_sem]) ?_
    refine (catchG_up ⟨w.heap.size, 0, none⟩ .wrong 0 _ hc5 hz5).mono ?_
    rintro e u' w'' ⟨rfl, rfl, hc6, hf⟩
    simp [Leaves, settle, results, Tryd.results12, go_sem, hc6]
    exact ⟨rfl, end_err (Below.refl _ _) hf⟩
end Go.Proofs.YtdmheinepkeglaaDoor
