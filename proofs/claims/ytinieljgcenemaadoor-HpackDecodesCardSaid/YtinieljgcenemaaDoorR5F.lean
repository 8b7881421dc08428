/- The document's encoder: SetMax, Size, Max. -/
import Derived.Test.YtinieljgcenemaaDoorR5E
import Derived.Deep.RegionLaw
namespace Go.Proofs.YtinieljgcenemaaDoor
open Go.RowKit Go.Own Go.Tbl Go.Huf Go.Hin
set_option linter.unusedVariables false
set_option maxRecDepth 100000
attribute [local go_sem ↓] Go.wp_at_zero Go.wp_at_succ

theorem EI : Elt Tryd.prog 70 3 (.int .i64 0) 1 8 := ⟨Tryd.underlying70, by
  refine ⟨_, rfl, ?_, ?_, ?_⟩ <;> kernel_rfl, rfl, by omega⟩
theorem IV_one (cs : List Nat) : ∀ u ∈ cs.map IV, u.oneCell' = true := fun u hu => by
  obtain ⟨n, _, rfl⟩ := List.mem_map.1 hu
  rfl
section
variable {w : World} {p h : Nat} {l : List Fld} {cs : List Nat} {F : Nat → Prop}
theorem xrTSize {r : Nat} {G : Nat → Prop} (t : RX w r G h l) (s : Nat) (hs : szs l = s) : Calls Tryd.prog 44 #[.pointer (some ⟨r, 0, none⟩)] w fun e w' => e = .returned (.int .i64 (s : Int)) ∧ Below w.heap.size w w' := by
  obtain ⟨h1, h2, A, n, c, t, _⟩ := t
  exact rTSize_any t s hs (by omega)
set_option maxHeartbeats 1000000 in
theorem r5SizeT {q : Nat} {t0 : TypeId} {vs : List Value} {G : Nat → Prop} (b : Blk w p t0 (.pointer (some ⟨q, 0, none⟩) :: vs)) (t : RX w q G h l) (s : Nat) (hs : szs l = s) : Calls Tryd.prog 22 #[.pointer (some ⟨p, 0, none⟩)] w fun e w' => e = .returned (.int .i64 (s : Int)) ∧ Below w.heap.size w w' := by
  have y0 : w.cell? ⟨p, 0, none⟩ = some (.pointer (some ⟨q, 0, none⟩)) := b.cell 0
  have T := Lib.hid t
  have HS := Lib.hid hs
  clear b t hs
  go_enter Tryd.func22, Tryd.ntmps22
  go_wp2_with (first
    | (go_at_call 44; (with_reducible refine (xrTSize T.out s HS.out).mono ?_); rintro e w3 ⟨rfl, hb⟩
       have B3 := Lib.hid hb
       clear hb))
  go_ret
  exact ⟨rfl, B3.out⟩
set_option maxHeartbeats 1000000 in
theorem r5MaxT {q : Nat} {t0 : TypeId} {vs : List Value} {G : Nat → Prop} (b : Blk w p t0 (.pointer (some ⟨q, 0, none⟩) :: vs)) (t : RX w q G h l) : Calls Tryd.prog 24 #[.pointer (some ⟨p, 0, none⟩)] w fun e w' => e = .returned (.int .i64 (h : Int)) ∧ Below w.heap.size w w' := by
  have y0 : w.cell? ⟨p, 0, none⟩ = some (.pointer (some ⟨q, 0, none⟩)) := b.cell 0
  have y1 := RX.hcell t
  clear b t
  go_enter Tryd.func24, Tryd.ntmps24
  go_wp2
  go_ret
  exact ⟨rfl, Below.refl _ _⟩
theorem r5SizeE_c (t : REo p h l cs w F) (s : Nat) (hs : szs l = s) : Calls Tryd.prog 22 #[.pointer (some ⟨p, 0, none⟩)] w fun e w' => e = .returned (.int .i64 (s : Int)) ∧ Below w.heap.size w w' := by
  obtain ⟨_, _, r, A, c, k, _, s0⟩ := re_open (re_start t)
  obtain ⟨G, t2, _⟩ := s0.focus1
  exact r5SizeT s0.blk0 t2 s hs
theorem r5MaxE_c (t : REo p h l cs w F) : Calls Tryd.prog 24 #[.pointer (some ⟨p, 0, none⟩)] w fun e w' => e = .returned (.int .i64 (h : Int)) ∧ Below w.heap.size w w' := by
  obtain ⟨_, _, r, A, c, k, _, s0⟩ := re_open (re_start t)
  obtain ⟨G, t2, _⟩ := s0.focus1
  exact r5MaxT s0.blk0 t2
theorem rd_new1 (w : World) (t : TypeId) (v : Value) : Rd (w.alloc (.cells #[v] t)) 1 (some ⟨w.heap.size, 0, none⟩) 1 [v] := rd_lit1 w t v
set_option maxHeartbeats 4000000 in
theorem r5SetMaxE_c (t : REo p h l cs w F) (x : Int) (n : Nat) (hn : clampI x = n) (hcs : cs.length ≤ 1000) : Calls Tryd.prog 16 #[.pointer (some ⟨p, 0, none⟩), .int .i64 x] w fun e w' => e = .returned (.tuple #[]) ∧ St F w w' [REo p h l (cs ++ [n])] := by
  have hn2 : n ≤ 65536 := hn ▸ clampI_le x
  obtain ⟨hk, hl, r, A, c, k, hlen, s0⟩ := re_open (re_start t)
  have hk1 : k ≤ 1000 := by omega
  have y1 := s0.blk0.cell 1
  have y1' := s0.drew.blk0.cell 1
  simp only [List.getElem?_cons_zero, List.getElem?_cons_succ] at y1 y1'
  have S0 := Lib.hid s0.drew
  have Hn := Lib.hid hn
  have Hk := Lib.hid hk
  have Hl := Lib.hid hl
  have Hlen := Lib.hid hlen
  have hpl : p < w.heap.size := Blk.lt s0.blk0
  clear s0 hn t hk hl hlen hcs
  go_enter Tryd.func16, Tryd.ntmps16
  go_wp2
  go_region_law (first
    | (refine step_append_rd rfl (.tmp 8) (.tmp 11) 70 rfl EI (.slice A k c) k (cs.map IV) rfl S3.out.own2 (some ⟨w2.heap.size, 0, none⟩) 1 1 [.int .i64 (n : Int)] rfl (rd_new1 w2 3 _) (IV_one [n]) (by omega) (by unfold maxLen; omega) (Nat.zero_le _) ?_
       intro A4 c4 w4 ho4 hf4 h24
       have S4 := Lib.hid (S3.out.appended2 ho4 hf4 h24)
       have X4 := S4.out.blk0
       have v1 := X4.cell 1
       have vf := X4.frozen
       simp only [List.getElem?_cons_zero, List.getElem?_cons_succ] at v1
       clear ho4 hf4 h24 X4)
    | (go_simp; go_at_call 38; (with_reducible refine (r5fit_any x n Hn.out _).mono ?_); rintro e w2 ⟨rfl, hb⟩
       have S2 := Lib.hid (S0.out.next hb)
       have z1 := S2.out.blk0.cell 1
       simp only [List.getElem?_cons_zero, List.getElem?_cons_succ] at z1
       have hz2 := S2.out.size
       have S3 : Hid (St F w (w2.alloc (.cells #[.int .i64 (n : Int)] 3)) [BLo p 72 (rencCells r A k c), RXo r h l, ISo A c k cs]) := S2.out.alloc _
       have z2 := S3.out.blk0.cell 1
       simp only [List.getElem?_cons_zero, List.getElem?_cons_succ] at z2
       clear hb))
  all_goals
    go_wp2
    go_end0
    have s5 := S4.out.set0 1 (.slice A4 (k + 1) c4)
    have e1 : (cs ++ [n]).map IV = cs.map IV ++ [.int .i64 (n : Int)] := by simp
    refine ⟨rfl, re_close (cs := cs ++ [n]) (r := r) (A := A4) (c := c4) (k := k + 1) ?_ Hk.out (fun m hm => ?_) (by simp [Hlen.out])⟩
    · rw [ISo, e1]
      exact s5
    · rcases List.mem_append.1 hm with hm | hm
      · exact Hl.out m hm
      · rw [List.mem_singleton.1 hm]; exact hn2
end
end Go.Proofs.YtinieljgcenemaaDoor
