/- Stage 7: credits in memory: the program's and the document's. -/
import Derived.Test.YtjafoegpbhieoaaWiB
import Derived.Test.YtjafoegpbhieoaaSt
import Derived.BigQuiet
import Derived.Deep.RegionHeld
namespace Go.Proofs.Ytjafoegpbhieoaa
open Go.RowKit Go.Own Go.Win
set_option linter.unusedVariables false
set_option maxRecDepth 100000
/-- at block p lies the program's credit c -/
def CrO (p : Nat) (c : Cr) : Ob := BLo p 46 [.int .i64 c.left, .int .i64 c.held, .int .i64 c.freed]
/-- at block q lies the document's credit c -/
def RCr (q : Nat) (c : Cr) : Ob := BLo q 39 [.int .i64 (c.left + c.held + c.freed), .int .i64 c.left, .int .i64 c.held, .int .i64 c.freed]
section
variable {S : Nat → Prop} {w0 w : World} {L : List Ob} {A0 : Ob} {p q : Nat} {c : Cr}
theorem new_s (z : Int) : Calls Try.prog 18 #[.int .i64 z] w fun e w' => ∃ p, e = .returned (.pointer (some ⟨p, 0, none⟩)) ∧ w' = w.alloc (.cells #[.int .i64 (newC z).left, .int .i64 0, .int .i64 0] 46) ∧ p = w.heap.size := by
  have X0 := Blk.new w 46 [.int .i64 0, .int .i64 0, .int .i64 0]
  have key : (z < 1 ∧ (newC z).left = 1) ∨ (¬ z < 1 ∧ 2147483647 < z ∧ (newC z).left = 2147483647) ∨ (¬ z < 1 ∧ ¬ 2147483647 < z ∧ (newC z).left = z) := by
    unfold newC
    simp only
    omega
  have HX := Lib.hid X0
  clear X0
  rcases key with ⟨h1, h2⟩ | ⟨h1, h2, h3⟩ | ⟨h1, h2, h3⟩
  all_goals
    go_enter Try.func18, Try.ntmps18
    go_wp2
    go_ret
    first | exact ⟨rfl, rfl⟩ | (refine ⟨_, rfl, ?_, rfl⟩; rw [h2])
theorem left_s (s : St S w0 w (CrO p c :: L)) : Calls Try.prog 28 #[.pointer (some ⟨p, 0, none⟩)] w fun e w' => e = .returned (.int .i64 c.left) ∧ w' = w := by
  have hb : Blk w p _ _ := St.blk0 s
  have z0 := hb.cell 0
  have hl := hb.lt
  simp only [List.getElem?_cons_zero] at z0
  obtain ⟨l, h, f⟩ := c
  clear hb s
  go_enter Try.func28, Try.ntmps28
  go_wp2
  go_ret
  exact ⟨rfl, rfl⟩
theorem held_s (s : St S w0 w (CrO p c :: L)) : Calls Try.prog 29 #[.pointer (some ⟨p, 0, none⟩)] w fun e w' => e = .returned (.int .i64 c.held) ∧ w' = w := by
  have hb : Blk w p _ _ := St.blk0 s
  have z0 := hb.cell 1
  have hl := hb.lt
  simp only [List.getElem?_cons_zero, List.getElem?_cons_succ] at z0
  obtain ⟨l, h, f⟩ := c
  clear hb s
  go_enter Try.func29, Try.ntmps29
  go_wp2
  go_ret
  exact ⟨rfl, rfl⟩
theorem wrap_in {z : Int} (h : -9223372036854775808 ≤ z ∧ z ≤ 9223372036854775807) : IntKind.i64.wrap z = z := by rw [IntKind.wrap_i64]; omega
theorem got_ways (c : Cr) (n E : Int) (c' : Cr) (hE : gotE c n = E) (hc : gotS c n = c') : (n < 0 ∧ E = 1 ∧ c' = c) ∨ (¬ n < 0 ∧ c.left < n ∧ E = 8 ∧ c' = c) ∨ (¬ n < 0 ∧ ¬ c.left < n ∧ E = 0 ∧ c' = ⟨c.left - n, c.held + n, c.freed⟩) := by
  subst hE hc
  unfold gotE gotS
  by_cases h1 : n < 0
  · rw [if_pos h1, if_pos h1]; exact .inl ⟨h1, rfl, rfl⟩
  · rw [if_neg h1, if_neg h1]
    by_cases h2 : c.left < n
    · rw [if_pos h2, if_pos h2]; exact .inr (.inl ⟨h1, h2, rfl, rfl⟩)
    · rw [if_neg h2, if_neg h2]; exact .inr (.inr ⟨h1, h2, rfl, rfl⟩)
theorem free_ways (c : Cr) (n E : Int) (c' : Cr) (hE : freeE c n = E) (hc : freeS c n = c') : (n < 0 ∧ E = 1 ∧ c' = c) ∨ (¬ n < 0 ∧ c.held < n ∧ E = 1 ∧ c' = c) ∨ (¬ n < 0 ∧ ¬ c.held < n ∧ E = 0 ∧ c' = ⟨c.left, c.held - n, c.freed + n⟩) := by
  subst hE hc
  unfold freeE freeS
  by_cases h1 : n < 0
  · rw [if_pos h1, if_pos h1]; exact .inl ⟨h1, rfl, rfl⟩
  · rw [if_neg h1, if_neg h1]
    by_cases h2 : c.held < n
    · rw [if_pos h2, if_pos h2]; exact .inr (.inl ⟨h1, h2, rfl, rfl⟩)
    · rw [if_neg h2, if_neg h2]; exact .inr (.inr ⟨h1, h2, rfl, rfl⟩)
theorem got_s (s : St S w0 w (CrO p c :: L)) (ok : c.ok) (n : Int) (hn : i64i n) (E : Int) (c' : Cr) (hE : gotE c n = E) (hc : gotS c n = c') :
    Calls Try.prog 20 #[.pointer (some ⟨p, 0, none⟩), .int .i64 n] w fun e w' => e = .returned (.int .i64 E) ∧ St S w0 w' (CrO p c' :: L) := by
  have hb : Blk w p _ _ := St.blk0 s
  have z0 := hb.cell 0
  have z1 := hb.cell 1
  have zf := hb.frozen 0
  have zg := hb.frozen 1
  have hl := hb.lt
  have key := got_ways c n E c' hE hc
  simp only [List.getElem?_cons_zero, List.getElem?_cons_succ] at z0 z1
  have s2 := St.set0 (St.set0 s 0 (.int .i64 (c.left - n))) 1 (.int .i64 (c.held + n))
  have HS := Lib.hid s
  have HS2 := Lib.hid s2
  obtain ⟨l, h, f⟩ := c
  obtain ⟨o1, o2, o3, o4, o5⟩ := ok
  simp only at o1 o2 o3 o4 o5 z0 z1
  clear hb s s2 hE hc
  rcases key with ⟨h1, rfl, rfl⟩ | ⟨h1, h2, rfl, rfl⟩ | ⟨h1, h2, rfl, rfl⟩
  rotate_right 1
  · have e1 : IntKind.i64.wrap (l - n) = l - n := wrap_in (by simp only at h2; omega)
    have e2 : IntKind.i64.wrap (h + n) = h + n := wrap_in (by simp only at h2; omega)
    simp only at h2
    go_enter Try.func20, Try.ntmps20
    go_wp2
    go_ret
    exact ⟨rfl, HS2.out⟩
  all_goals
    try simp only at h2
    go_enter Try.func20, Try.ntmps20
    go_wp2
    go_ret
    exact ⟨rfl, HS.out⟩
theorem free_s (s : St S w0 w (CrO p c :: L)) (ok : c.ok) (n : Int) (hn : i64i n) (E : Int) (c' : Cr) (hE : freeE c n = E) (hc : freeS c n = c') :
    Calls Try.prog 22 #[.pointer (some ⟨p, 0, none⟩), .int .i64 n] w fun e w' => e = .returned (.int .i64 E) ∧ St S w0 w' (CrO p c' :: L) := by
  have hb : Blk w p _ _ := St.blk0 s
  have z0 := hb.cell 1
  have z1 := hb.cell 2
  have zf := hb.frozen 1
  have zg := hb.frozen 2
  have hl := hb.lt
  have key := free_ways c n E c' hE hc
  simp only [List.getElem?_cons_zero, List.getElem?_cons_succ] at z0 z1
  have s2 := St.set0 (St.set0 s 1 (.int .i64 (c.held - n))) 2 (.int .i64 (c.freed + n))
  have HS := Lib.hid s
  have HS2 := Lib.hid s2
  obtain ⟨l, h, f⟩ := c
  obtain ⟨o1, o2, o3, o4, o5⟩ := ok
  simp only at o1 o2 o3 o4 o5 z0 z1
  clear hb s s2 hE hc
  rcases key with ⟨h1, rfl, rfl⟩ | ⟨h1, h2, rfl, rfl⟩ | ⟨h1, h2, rfl, rfl⟩
  rotate_right 1
  · have e1 : IntKind.i64.wrap (h - n) = h - n := wrap_in (by simp only at h2; omega)
    have e2 : IntKind.i64.wrap (f + n) = f + n := wrap_in (by simp only at h2; omega)
    simp only at h2
    go_enter Try.func22, Try.ntmps22
    go_wp2
    go_ret
    exact ⟨rfl, HS2.out⟩
  all_goals
    try simp only at h2
    go_enter Try.func22, Try.ntmps22
    go_wp2
    go_ret
    exact ⟨rfl, HS.out⟩
theorem due_ways (c : Cr) (D : Int) (hD : dueV c = D) : (2 * c.freed < c.left + c.held + c.freed ∧ D = 0) ∨ (¬ 2 * c.freed < c.left + c.held + c.freed ∧ D = c.freed) := by
  subst hD
  unfold dueV
  by_cases h : 2 * c.freed < c.left + c.held + c.freed
  · rw [if_pos h]; exact .inl ⟨h, rfl⟩
  · rw [if_neg h]; exact .inr ⟨h, rfl⟩
theorem due_s (s : St S w0 w (CrO p c :: L)) (ok : c.ok) (D : Int) (hD : dueV c = D) : Calls Try.prog 24 #[.pointer (some ⟨p, 0, none⟩)] w fun e w' => e = .returned (.int .i64 D) ∧ ∃ k, w' = w.drewN k := by
  have hb : Blk w p _ _ := St.blk0 s
  have z0 := hb.cell 0
  have z1 := hb.cell 1
  have z2 := hb.cell 2
  have hl := hb.lt
  have key := due_ways c D hD
  simp only [List.getElem?_cons_zero, List.getElem?_cons_succ] at z0 z1 z2
  obtain ⟨l, h, f⟩ := c
  obtain ⟨o1, o2, o3, o4, o5⟩ := ok
  simp only at o1 o2 o3 o4 o5 z0 z1 z2 key
  clear hb s hD
  have e1 : IntKind.i64.wrap (l + h) = l + h := wrap_in (by omega)
  have e2 : IntKind.i64.wrap (l + h + f) = l + h + f := wrap_in (by omega)
  have e3 : IntKind.i64.wrap (2 * f) = 2 * f := wrap_in (by omega)
  rcases key with ⟨h1, rfl⟩ | ⟨h1, rfl⟩
  all_goals
    go_enter Try.func24, Try.ntmps24
    go_wp2
    go_quiet (fail)
    go_wp2
    go_ret
    exact ⟨rfl, _, rfl⟩
theorem give_s (s : St S w0 w (CrO p c :: L)) (ok : c.ok) (D : Int) (c' : Cr) (hD : dueV c = D) (hc : giveS c = c') : Calls Try.prog 26 #[.pointer (some ⟨p, 0, none⟩)] w fun e w' => e = .returned (.int .i64 D) ∧ St S w0 w' (CrO p c' :: L) := by
  have hbd := due_bd ok
  have e : giveS c = ⟨c.left + dueV c, c.held, c.freed - dueV c⟩ := rfl
  rw [hc, hD] at e
  rw [hD] at hbd
  subst e
  have HS := Lib.hid s
  have HD := Lib.hid hD
  have HO := Lib.hid ok
  obtain ⟨o1, o2, o3, o4, o5⟩ := ok
  have e1 : IntKind.i64.wrap (c.left + D) = c.left + D := wrap_in (by omega)
  have e2 : IntKind.i64.wrap (c.freed - D) = c.freed - D := wrap_in (by omega)
  clear s hD hc o1 o2 o3 o4 o5 hbd
  go_enter Try.func26, Try.ntmps26
  go_wp2_with (first
    | (go_at_call 24; (with_reducible refine (due_s HS.out HO.out _ HD.out).mono ?_); rintro e w1 ⟨rfl, k, hk⟩
       have S1 := St.drewN HS.out k
       rw [← hk] at S1
       clear hk
       have hb : Blk w1 p _ _ := St.blk0 S1
       have z0 := hb.cell 0
       have z1 := hb.cell 2
       have zf := hb.frozen 0
       have zg := hb.frozen 2
       have hl := hb.lt
       simp only [List.getElem?_cons_zero, List.getElem?_cons_succ] at z0 z1
       have HS2 := Lib.hid (St.set0 (St.set0 S1 0 (.int .i64 (c.left + D))) 2 (.int .i64 (c.freed - D)))
       clear hb S1))
  go_ret
  exact ⟨rfl, HS2.out⟩
end
end Go.Proofs.Ytjafoegpbhieoaa
