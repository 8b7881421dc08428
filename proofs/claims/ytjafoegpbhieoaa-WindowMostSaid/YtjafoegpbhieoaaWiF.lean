/- Stage 7: the document's credit in memory. -/
import Derived.Test.YtjafoegpbhieoaaWiE
namespace Go.Proofs.Ytjafoegpbhieoaa
open Go.RowKit Go.Own Go.Win
set_option linter.unusedVariables false
set_option maxRecDepth 100000
section
variable {S : Nat → Prop} {w0 w : World} {L : List Ob} {A0 : Ob} {p q : Nat} {c : Cr}
theorem rnew_s (z : Int) : Calls Try.prog 19 #[.int .i64 z] w fun e w' => ∃ p, e = .returned (.pointer (some ⟨p, 0, none⟩)) ∧ w' = w.alloc (.cells #[.int .i64 (newC z).left, .int .i64 (newC z).left, .int .i64 0, .int .i64 0] 39) ∧ p = w.heap.size := by
  have key : (z < 1 ∧ (newC z).left = 1) ∨ (¬ z < 1 ∧ 2147483647 < z ∧ (newC z).left = 2147483647) ∨ (¬ z < 1 ∧ ¬ 2147483647 < z ∧ (newC z).left = z) := by
    unfold newC
    simp only
    omega
  rcases key with ⟨h1, h2⟩ | ⟨h1, h2, h3⟩ | ⟨h1, h2, h3⟩
  all_goals
    go_enter Try.func19, Try.ntmps19
    go_wp2
    all_goals
      go_ret
      first | exact ⟨rfl, rfl⟩ | (have hz1 : z = 1 := (by omega); subst hz1; exact ⟨rfl, rfl⟩) | (refine ⟨_, rfl, ?_, rfl⟩; simp [*]; done)
theorem rgot_s (s : St S w0 w (A0 :: RCr p c :: L)) (ok : c.ok) (n : Int) (hn : i64i n) (E : Int) (c' : Cr) (hE : gotE c n = E) (hc : gotS c n = c') :
    Calls Try.prog 21 #[.pointer (some ⟨p, 0, none⟩), .int .i64 n] w fun e w' => e = .returned (.int .i64 E) ∧ St S w0 w' (A0 :: RCr p c' :: L) := by
  have hb : Blk w p _ _ := St.blk1 s
  have z0 := hb.cell 1
  have z1 := hb.cell 2
  have zf := hb.frozen 1
  have zg := hb.frozen 2
  have hl := hb.lt
  have key := got_ways c n E c' hE hc
  simp only [List.getElem?_cons_zero, List.getElem?_cons_succ] at z0 z1
  have s2 := St.set1 (St.set1 s 1 (.int .i64 (c.left - n))) 2 (.int .i64 (c.held + n))
  have HS := Lib.hid s
  have HS2 := Lib.hid s2
  obtain ⟨l, h, f⟩ := c
  obtain ⟨o1, o2, o3, o4, o5⟩ := ok
  simp only at o1 o2 o3 o4 o5 z0 z1
  clear hb s s2 hE hc
  rcases key with ⟨h1, rfl, rfl⟩ | ⟨h1, h2, rfl, rfl⟩ | ⟨h1, h2, rfl, rfl⟩
  rotate_right 1
  · have e1 : IntKind.i64.wrap (l - n) = l - n := wrap_in (by simp only at h2; omega)
    have e2 : IntKind.i64.wrap (h + n) = h + n := wrap_in (by simp only at h2; omega)
    simp only at h2
    have hsum : l - n + (h + n) + f = l + h + f := by omega
    go_enter Try.func21, Try.ntmps21
    go_wp2
    go_ret
    exact ⟨rfl, St.as1 HS2.out (framed_BLo _ _ _) (fun F hF => by rw [← hsum] at hF; exact hF)⟩
  all_goals
    try simp only at h2
    go_enter Try.func21, Try.ntmps21
    go_wp2
    go_ret
    exact ⟨rfl, HS.out⟩
theorem rfree_s (s : St S w0 w (A0 :: RCr p c :: L)) (ok : c.ok) (n : Int) (hn : i64i n) (E : Int) (c' : Cr) (hE : freeE c n = E) (hc : freeS c n = c') :
    Calls Try.prog 23 #[.pointer (some ⟨p, 0, none⟩), .int .i64 n] w fun e w' => e = .returned (.int .i64 E) ∧ St S w0 w' (A0 :: RCr p c' :: L) := by
  have hb : Blk w p _ _ := St.blk1 s
  have z0 := hb.cell 2
  have z1 := hb.cell 3
  have zf := hb.frozen 2
  have zg := hb.frozen 3
  have hl := hb.lt
  have key := free_ways c n E c' hE hc
  simp only [List.getElem?_cons_zero, List.getElem?_cons_succ] at z0 z1
  have s2 := St.set1 (St.set1 s 2 (.int .i64 (c.held - n))) 3 (.int .i64 (c.freed + n))
  have HS := Lib.hid s
  have HS2 := Lib.hid s2
  obtain ⟨l, h, f⟩ := c
  obtain ⟨o1, o2, o3, o4, o5⟩ := ok
  simp only at o1 o2 o3 o4 o5 z0 z1
  clear hb s s2 hE hc
  rcases key with ⟨h1, rfl, rfl⟩ | ⟨h1, h2, rfl, rfl⟩ | ⟨h1, h2, rfl, rfl⟩
  rotate_right 1
  · have e1 : IntKind.i64.wrap (h - n) = h - n := wrap_in (by simp only at h2; omega)
    have e2 : IntKind.i64.wrap (f + n) = f + n := wrap_in (by simp only at h2; omega)
    simp only at h2
    have hsum : l + (h - n) + (f + n) = l + h + f := by omega
    go_enter Try.func23, Try.ntmps23
    go_wp2
    go_ret
    exact ⟨rfl, St.as1 HS2.out (framed_BLo _ _ _) (fun F hF => by rw [← hsum] at hF; exact hF)⟩
  all_goals
    try simp only at h2
    go_enter Try.func23, Try.ntmps23
    go_wp2
    go_ret
    exact ⟨rfl, HS.out⟩
theorem rdue_s (s : St S w0 w (A0 :: RCr p c :: L)) (ok : c.ok) (D : Int) (hD : dueV c = D) : Calls Try.prog 25 #[.pointer (some ⟨p, 0, none⟩)] w fun e w' => e = .returned (.int .i64 D) ∧ ∃ k, w' = w.drewN k := by
  have hb : Blk w p _ _ := St.blk1 s
  have z0 := hb.cell 0
  have z1 := hb.cell 0
  have z2 := hb.cell 3
  have hl := hb.lt
  have key := due_ways c D hD
  simp only [List.getElem?_cons_zero, List.getElem?_cons_succ] at z0 z1 z2
  obtain ⟨l, h, f⟩ := c
  obtain ⟨o1, o2, o3, o4, o5⟩ := ok
  simp only at o1 o2 o3 o4 o5 z0 z1 z2 key
  clear hb s hD
  have e1 : IntKind.i64.wrap (l + h) = l + h := wrap_in (by omega)
  have e2 : IntKind.i64.wrap (l + h + f) = l + h + f := wrap_in (by omega)
  have e3 : IntKind.i64.wrap (2 * f) = 2 * f := wrap_in (by omega)
  have key : (¬ l + h + f ≤ 2 * f ∧ D = 0) ∨ (l + h + f ≤ 2 * f ∧ D = f) := by omega
  rcases key with ⟨h1, rfl⟩ | ⟨h1, rfl⟩
  all_goals
    go_enter Try.func25, Try.ntmps25
    go_wp2
    go_quiet (fail)
    go_wp2
    go_ret
    exact ⟨rfl, _, rfl⟩
theorem rgive_s (s : St S w0 w (A0 :: RCr p c :: L)) (ok : c.ok) (D : Int) (c' : Cr) (hD : dueV c = D) (hc : giveS c = c') : Calls Try.prog 27 #[.pointer (some ⟨p, 0, none⟩)] w fun e w' => e = .returned (.int .i64 D) ∧ St S w0 w' (A0 :: RCr p c' :: L) := by
  have hbd := due_bd ok
  have e : giveS c = ⟨c.left + dueV c, c.held, c.freed - dueV c⟩ := rfl
  rw [hc, hD] at e
  rw [hD] at hbd
  subst e
  have HS := Lib.hid s
  have HD := Lib.hid hD
  have HO := Lib.hid ok
  obtain ⟨o1, o2, o3, o4, o5⟩ := ok
  have e1 : IntKind.i64.wrap (c.left + D) = c.left + D := wrap_in (by omega)
  have e2 : IntKind.i64.wrap (c.freed - D) = c.freed - D := wrap_in (by omega)
  have hsum : c.left + D + c.held + (c.freed - D) = c.left + c.held + c.freed := by omega
  clear s hD hc o1 o2 o3 o4 o5 hbd
  go_enter Try.func27, Try.ntmps27
  go_wp2_with (first
    | (go_at_call 25; (with_reducible refine (rdue_s HS.out HO.out _ HD.out).mono ?_); rintro e w1 ⟨rfl, k, hk⟩
       have S1 := St.drewN HS.out k
       rw [← hk] at S1
       clear hk
       have hb : Blk w1 p _ _ := St.blk1 S1
       have z0 := hb.cell 1
       have z1 := hb.cell 3
       have zf := hb.frozen 1
       have zg := hb.frozen 3
       have hl := hb.lt
       simp only [List.getElem?_cons_zero, List.getElem?_cons_succ] at z0 z1
       have HS2 := Lib.hid (St.set1 (St.set1 S1 1 (.int .i64 (c.left + D))) 3 (.int .i64 (c.freed - D)))
       clear hb S1))
  go_ret
  exact ⟨rfl, St.as1 HS2.out (framed_BLo _ _ _) (fun F hF => by rw [← hsum] at hF; exact hF)⟩
end
end Go.Proofs.Ytjafoegpbhieoaa
