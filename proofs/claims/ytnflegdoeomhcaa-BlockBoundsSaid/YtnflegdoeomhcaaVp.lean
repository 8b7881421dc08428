/- Stage 12: Same (the document's): two frames that are the same. -/
import Derived.Test.YtnflegdoeomhcaaVo
import Derived.Deep.LoopGhost
import Derived.Deep.QuietTactic
import Derived.Laws.StructEq
namespace Go.Proofs.Ytnflegdoeomhcaa
open Go.RowKit Go.Own Go.Frm
set_option linter.unusedVariables false
set_option maxRecDepth 100000
theorem rd_set {w : World} {A : Option Addr} {n k : Nat} {l : List (Int × Nat)} {s : Int × Nat} (h : Rd w 2 A n (scells l)) (hk : l[k]? = some s) :
    ∃ b o, A = some ⟨b, o, none⟩ ∧ w.cell? ⟨b, o + k * 2, none⟩ = some (.int .i64 s.1) ∧ w.cell? ⟨b, o + k * 2 + 1, none⟩ = some (.int .u32 (s.2 : Int)) := by
  have hlt := (List.getElem?_eq_some_iff.1 hk).1
  have hn : l.length * 2 = n * 2 := by rw [← scells_length]; exact h.1
  obtain ⟨b, o, rfl, hc⟩ := h.2 (by omega)
  obtain ⟨h1, h2⟩ := scells_at l k s hk
  exact ⟨b, o, rfl, hc _ _ h1, hc _ _ h2⟩
theorem set_neq (a : Int) (v : Int) (W : World) : (binOp .neq 54 (.agg #[.int .i64 a, .int .u32 v]) (.agg #[.int .i64 a, .int .u32 v])).run Try.prog W = .ok (.bool false) W := by
  rw [run_neq_struct, run_equalIn_agg _ _ _ _ _ (by kernel_rfl) (by kernel_rfl)]
  simp [Program.fieldsOf, Try.underlying54, Op.eqFields, go_sem]
set_option maxHeartbeats 4000000 in
theorem same_c (f : Fm) {w : World} {A B A' B' : Option Addr} {np nl c d c' d' : Nat} (hp : Rd w 1 A np (f.pay.map BV)) (hl : Rd w 2 B nl (scells f.list)) (hp' : Rd w 1 A' np (f.pay.map BV)) (hl' : Rd w 2 B' nl (scells f.list)) (hnl : nl ≤ 9223372036854775807) :
    Calls Try.prog 13 #[.agg #[.int .i64 f.kind, .int .i64 f.stream, .bool f.fin, .bool f.eh, .bool f.ack, .bool f.prio, .slice A np c, .int .i64 f.flags, .int .i64 f.pad, .int .i64 f.depend, .bool f.excl, .int .i64 f.weight, .int .u32 (f.code : Int), .slice B nl d, .int .i64 f.last, .int .i64 f.inc], .agg #[.int .i64 f.kind, .int .i64 f.stream, .bool f.fin, .bool f.eh, .bool f.ack, .bool f.prio, .slice A' np c', .int .i64 f.flags, .int .i64 f.pad, .int .i64 f.depend, .bool f.excl, .int .i64 f.weight, .int .u32 (f.code : Int), .slice B' nl d', .int .i64 f.last, .int .i64 f.inc]] w fun e w' => e = .returned (.bool true) ∧ Below w.heap.size w w' := by
  have hll := rd_set_len hl
  have b2 : Below w.heap.size w ((w.alloc (.cells #[.int .i64 f.kind, .int .i64 f.stream, .bool f.fin, .bool f.eh, .bool f.ack, .bool f.prio, .slice A np c, .int .i64 f.flags, .int .i64 f.pad, .int .i64 f.depend, .bool f.excl, .int .i64 f.weight, .int .u32 (f.code : Int), .slice B nl d, .int .i64 f.last, .int .i64 f.inc] 32)).alloc (.cells #[.int .i64 f.kind, .int .i64 f.stream, .bool f.fin, .bool f.eh, .bool f.ack, .bool f.prio, .slice A' np c', .int .i64 f.flags, .int .i64 f.pad, .int .i64 f.depend, .bool f.excl, .int .i64 f.weight, .int .u32 (f.code : Int), .slice B' nl d', .int .i64 f.last, .int .i64 f.inc] 32)) := ((Below.refl _ w).alloc (Nat.le_refl _) _).alloc (by simp) _
  have cv1 := run_conv_bytes (c := c) (src := 22) (dst := 9) Try.underlying22 Try.underlying5 Try.underlying9 (hp.below b2)
  have cv2 := run_conv_bytes (c := c') (src := 22) (dst := 9) Try.underlying22 Try.underlying5 Try.underlying9 (hp'.below b2)
  have B2 := Lib.hid b2
  have HL := Lib.hid hl
  have HL' := Lib.hid hl'
  have HLL := Lib.hid hll
  clear hp hl hp' hl' hll b2
  go_enter Try.func13, Try.ntmps13
  go_wp2
  go_loopg [5] nl (fun gh i w' => ∃ j k : Nat, gh + j = nl ∧ i = .int .i64 (j : Int) ∧ w' = ((w.alloc (.cells #[.int .i64 f.kind, .int .i64 f.stream, .bool f.fin, .bool f.eh, .bool f.ack, .bool f.prio, .slice A np c, .int .i64 f.flags, .int .i64 f.pad, .int .i64 f.depend, .bool f.excl, .int .i64 f.weight, .int .u32 (f.code : Int), .slice B nl d, .int .i64 f.last, .int .i64 f.inc] 32)).alloc (.cells #[.int .i64 f.kind, .int .i64 f.stream, .bool f.fin, .bool f.eh, .bool f.ack, .bool f.prio, .slice A' np c', .int .i64 f.flags, .int .i64 f.pad, .int .i64 f.depend, .bool f.excl, .int .i64 f.weight, .int .u32 (f.code : Int), .slice B' nl d', .int .i64 f.last, .int .i64 f.inc] 32)).drewN k)
  case atStart => exact ⟨0, 0, by omega, rfl, rfl⟩
  case round =>
    obtain ⟨j, k, hj, rfl, rfl⟩ := hrel
    cases gk with
    | succ g1 =>
      have k1 : (j : Int) < (nl : Int) := by omega
      have hjl : j < f.list.length := by rw [HLL.out]; omega
      have hat : f.list[j]? = some f.list[j] := List.getElem?_eq_getElem hjl
      obtain ⟨⟨s1, s2⟩, hs⟩ : ∃ s, f.list[j] = s := ⟨_, rfl⟩
      rw [hs] at hat
      obtain ⟨b, o, rfl, c0, c1⟩ := rd_set HL.out hat
      obtain ⟨b', o', rfl, c0', c1'⟩ := rd_set HL'.out hat
      have e0 := (B2.out.cell (World.block_lt_of_cell? _ _ c0)).trans c0
      have e1 := (B2.out.cell (World.block_lt_of_cell? _ _ c1)).trans c1
      have e0' := (B2.out.cell (World.block_lt_of_cell? _ _ c0')).trans c0'
      have e1' := (B2.out.cell (World.block_lt_of_cell? _ _ c1')).trans c1'
      have neq := fun W => set_neq s1 (s2 : Int) W
      have HJ := Lib.hid hj
      clear hat hs c0 c1 c0' c1' hj
      go_wp2
      go_quiet (fail)
      go_wp2
      go_roundg g1
      case measure => omega
      case rel => exact ⟨j + 1, _, by have := HJ.out; omega, by go_num, rfl⟩
    | zero =>
      obtain rfl : j = nl := by omega
      go_wp2
      go_ret
      exact ⟨rfl, below_drewN B2.out k⟩
end Go.Proofs.Ytnflegdoeomhcaa
