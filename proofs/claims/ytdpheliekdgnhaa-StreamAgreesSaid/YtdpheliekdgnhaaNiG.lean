/- Stage 9: the program's streams of a connection: its calls. -/
import Derived.Test.YtdpheliekdgnhaaNiF
namespace Go.Proofs.Ytdpheliekdgnhaa
open Go.RowKit Go.Own Go.Sm
set_option linter.unusedVariables false
set_option linter.unusedSimpArgs false
set_option maxRecDepth 100000
abbrev flt9 (f : Bool × Int × Int) : Value := .agg #[.bool f.1, .int .u32 f.2.1, .int .i64 f.2.2]
def openF (x : Idv) (id : Int) : Bool × Int × Int := if classV x id = 1 then (if x.most ≤ (x.th.length : Int) then (true, 7, id) else (false, 0, 0)) else (true, 1, 0)
def openS (x : Idv) (id : Int) : Idv := if classV x id = 1 then (if x.most ≤ (x.th.length : Int) then { x with last := id } else { x with last := id, th := x.th ++ [id] }) else x
def nextV (x : Idv) : Int × Int := if x.lim ≤ (x.ou.length : Int) then (0, 5) else if 2147483647 < x.next then (0, 8) else (x.next, 0)
def nextS (x : Idv) : Idv := if x.lim ≤ (x.ou.length : Int) then x else if 2147483647 < x.next then x else { x with next := x.next + 2, ou := x.ou ++ [x.next] }
def closeE (x : Idv) (id : Int) : Int := bif thB x.srv id then (if id ∈ x.th then 0 else 6) else (if id ∈ x.ou then 0 else 6)
def closeS (x : Idv) (id : Int) : Idv := bif thB x.srv id then { x with th := out9 id x.th } else { x with ou := out9 id x.ou }
def newI (srv : Bool) (most : Int) : Idv := ⟨srv, 0, bif srv then 2 else 1, posV most, 2147483647, [], []⟩
section
variable {S : Nat → Prop} {w0 w : World} {L : List Ob} {p b1 b2 : Nat} {x : Idv}
theorem class_ways (x : Idv) (id : Int) (f : Bool × Int × Int) (y : Idv) (hf : openF x id = f) (hy : openS x id = y) :
    (∃ c, classV x id = c ∧ ¬ c = 1 ∧ f = (true, 1, 0) ∧ y = x) ∨ (classV x id = 1 ∧ x.most ≤ (x.th.length : Int) ∧ f = (true, 7, id) ∧ y = { x with last := id }) ∨
      (classV x id = 1 ∧ ¬ x.most ≤ (x.th.length : Int) ∧ f = (false, 0, 0) ∧ y = { x with last := id, th := x.th ++ [id] }) := by
  subst hf hy
  unfold openF openS
  by_cases h : classV x id = 1
  · rw [if_pos h, if_pos h]
    by_cases h2 : x.most ≤ (x.th.length : Int)
    · rw [if_pos h2, if_pos h2]; exact .inr (.inl ⟨h, h2, rfl, rfl⟩)
    · rw [if_neg h2, if_neg h2]; exact .inr (.inr ⟨h, h2, rfl, rfl⟩)
  · rw [if_neg h, if_neg h]; exact .inl ⟨_, rfl, h, rfl, rfl⟩
/-- behind the things of Ids lies a box -/
theorem see_r {r : Nat} {t : TypeId} {cs : List Value} (s : St S w0 w (IdL p b1 b2 x (L ++ [BLo r t cs]))) : Blk w r t cs := St.blk (IdL p b1 b2 x L) [] s
theorem drop_r {r : Nat} {t : TypeId} {cs : List Value} (s : St S w0 w (IdL p b1 b2 x (L ++ [BLo r t cs]))) : St S w0 w (IdL p b1 b2 x L) := by
  have h := St.drop (IdL p b1 b2 x L) (BLo r t cs) [] s
  simpa using h
theorem set_r {r : Nat} {t : TypeId} {cs : List Value} (s : St S w0 w (IdL p b1 b2 x (L ++ [BLo r t cs]))) (i : Nat) (u : Value) : St S w0 (w.setCell ⟨r, i, none⟩ u) (IdL p b1 b2 x (L ++ [BLo r t (cs.set i u)])) := St.set_ (IdL p b1 b2 x L) [] s i u
theorem set3_r {r : Nat} {t : TypeId} {a b c a' b' c' : Value} (s : St S w0 w (IdL p b1 b2 x (L ++ [BLo r t [a, b, c]]))) : St S w0 (((w.setCell ⟨r, 0, none⟩ a').setCell ⟨r, 1, none⟩ b').setCell ⟨r, 2, none⟩ c') (IdL p b1 b2 x L) := drop_r (set_r (set_r (set_r s 0 a') 1 b') 2 c')
set_option maxHeartbeats 4000000 in
theorem open_c (s : St S w0 w (IdL p b1 b2 x L)) (id : Int) (hi : i64i id) (f : Bool × Int × Int) (y : Idv) (hf : openF x id = f) (hy : openS x id = y) (hb : x.th.length < 1000000) (hn : classV x id = 1 → ¬ id ∈ x.th) :
    Calls Try.prog 15 #[.pointer (some ⟨p, 0, none⟩), .int .i64 id] w fun e w' => e = .returned (flt9 f) ∧ St S w0 w' (IdL p b1 b2 y L) := by
  obtain ⟨hl, z0, z1, z2, z3, z4, z5, z6, zf0⟩ := see_i s
  have zf := zf0 1
  have s0 : St S w0 (w.alloc (.cells #[.bool false, .int .u32 0, .int .i64 0] 50)) (IdL p b1 b2 x (L ++ [BLo w.heap.size 50 [.bool false, .int .u32 0, .int .i64 0]])) := St.block s 50 [.bool false, .int .u32 0, .int .i64 0]
  have s1 : St S w0 ((w.setCell ⟨p, 1, none⟩ (.int .i64 id)).alloc (.cells #[.bool false, .int .u32 0, .int .i64 0] 50)) (IdL p b1 b2 { x with last := id } (L ++ [BLo w.heap.size 50 [.bool false, .int .u32 0, .int .i64 0]])) := by
    have h := St.block (St.set0 s 1 (.int .i64 id)) 50 [.bool false, .int .u32 0, .int .i64 0]
    simp only [World.size_setCell] at h
    exact h
  have hl2 : w.heap.size < (w.setCell ⟨p, 1, none⟩ (.int .i64 id)).heap.size + 1 := by simp
  have sA := s.alloc (.cells #[.bool true, .int .u32 1, .int .i64 0] 50)
  have HS := Lib.hid s0
  have HA := Lib.hid sA
  have HS1 := Lib.hid s1
  have HI := Lib.hid hi
  have HB := Lib.hid hb
  have ways := class_ways x id f y hf hy
  clear s hf hy hb hi zf0 s0 s1 sA
  rcases ways with ⟨c, hc, h1, rfl, rfl⟩ | ⟨hc, h1, rfl, rfl⟩ | ⟨hc, h1, rfl, rfl⟩
  · have HC := Lib.hid hc
    clear hc hn HS1
    go_enter Try.func15, Try.ntmps15
    go_wp2_with (first
      | (go_at_call 25; (with_reducible refine (class_c HS.out id _ HC.out).mono ?_); rintro e w1 ⟨rfl, rfl⟩))
    refine bodyPost_ret (v := .agg #[.bool true, .int .u32 1, .int .i64 0]) (by simp [results, Try.results15, go_sem]) rfl ⟨rfl, HA.out⟩
  · have HC := Lib.hid hc
    have HV : Hid (decide (Idv.most { x with last := id } ≤ ((Idv.th { x with last := id }).length : Int)) = true) := by unfold Hid; simpa using h1
    clear hc hn HA h1
    go_enter Try.func15, Try.ntmps15
    go_wp2_with (first
      | (go_at_call 25; (with_reducible refine (class_c HS.out id _ HC.out).mono ?_); rintro e w1 ⟨rfl, rfl⟩)
      | (go_at_call 39; (with_reducible refine (fullT_c HS1.out _ HV.out).mono ?_); rintro e w2 ⟨rfl, n, hw⟩
         have T := Lib.hid (St.drewN HS1.out n)
         rw [← hw] at T
         clear hw
         have hr := see_r T.out
         have r0 := hr.cell 0
         have r1 := hr.cell 1
         have r2 := hr.cell 2
         have rf := hr.frozen
         have rl := hr.lt
         simp only [List.getElem?_cons_zero, List.getElem?_cons_succ] at r0 r1 r2
         have T2 := Lib.hid (set3_r T.out (a' := .bool true) (b' := .int .u32 7) (c' := .int .i64 id))
         clear hr))
    refine bodyPost_ret (v := .agg #[.bool true, .int .u32 7, .int .i64 id]) (by simp [results, Try.results15, go_sem, r0, r1, r2]) rfl ⟨rfl, T2.out⟩
  · have HC := Lib.hid hc
    have HV : Hid (decide (Idv.most { x with last := id } ≤ ((Idv.th { x with last := id }).length : Int)) = false) := by unfold Hid; simpa using h1
    have HN := Lib.hid (hn hc)
    clear hc hn HA h1
    go_enter Try.func15, Try.ntmps15
    go_wp2_with (first
      | (go_at_call 25; (with_reducible refine (class_c HS.out id _ HC.out).mono ?_); rintro e w1 ⟨rfl, rfl⟩)
      | (go_at_call 39; (with_reducible refine (fullT_c HS1.out _ HV.out).mono ?_); rintro e w2 ⟨rfl, n, hw⟩
         have T := Lib.hid (St.drewN HS1.out n)
         rw [← hw] at T
         clear hw)
      | (go_at_call 40; (with_reducible refine (addT_c T.out id HI.out HN.out HB.out).mono ?_); rintro e w3 ⟨rfl, s3⟩
         have hr := see_r s3
         have r0 := hr.cell 0
         have r1 := hr.cell 1
         have r2 := hr.cell 2
         have rf := hr.frozen
         have rl := hr.lt
         simp only [List.getElem?_cons_zero, List.getElem?_cons_succ] at r0 r1 r2
         have T2 := Lib.hid (set3_r s3 (a' := .bool false) (b' := .int .u32 0) (c' := .int .i64 0))
         clear hr s3))
    refine bodyPost_ret (v := .agg #[.bool false, .int .u32 0, .int .i64 0]) (by simp [results, Try.results15, go_sem, r0, r1, r2]) rfl ⟨rfl, T2.out⟩
theorem open_l (s : St S w0 w (IdL p b1 b2 x L)) (id : Int) (hi : i64i id) (i : Bool) (c t : Int) (y : Idv) (hf : openF x id = (i, c, t)) (hy : openS x id = y) (hb : x.th.length < 1000000) (hn : classV x id = 1 → ¬ id ∈ x.th) :
    Calls Try.prog 15 #[.pointer (some ⟨p, 0, none⟩), .int .i64 id] w fun e w' => e = .returned (.agg #[.bool i, .int .u32 c, .int .i64 t]) ∧ St S w0 w' (IdL p b1 b2 y L) := open_c s id hi _ y hf hy hb hn
theorem setMost_c (s : St S w0 w (IdL p b1 b2 x L)) (n : Int) (z : Int) (hz : posV n = z) : Calls Try.prog 21 #[.pointer (some ⟨p, 0, none⟩), .int .i64 n] w fun e w' => e = .returned (.tuple #[]) ∧ St S w0 w' (IdL p b1 b2 { x with most := z } L) := by
  obtain ⟨hl, z0, z1, z2, z3, z4, z5, z6, zf0⟩ := see_i s
  have HF := Lib.hid (zf0 4)
  have H4 := Lib.hid z4
  have HZ := Lib.hid hz
  have HS := Lib.hid (St.set0 s 4 (.int .i64 z))
  clear s hz zf0
  go_enter Try.func21, Try.ntmps21
  go_wp2_with (first
    | (go_at_call 43; (with_reducible refine (gset_c p 3 _ H4.out HF.out n z HZ.out).mono ?_); rintro e w1 ⟨rfl, rfl⟩))
  go_end0
  exact ⟨rfl, HS.out⟩
theorem limit_c (s : St S w0 w (IdL p b1 b2 x L)) (n : Int) (z : Int) (hz : posV n = z) : Calls Try.prog 23 #[.pointer (some ⟨p, 0, none⟩), .int .i64 n] w fun e w' => e = .returned (.tuple #[]) ∧ St S w0 w' (IdL p b1 b2 { x with lim := z } L) := by
  obtain ⟨hl, z0, z1, z2, z3, z4, z5, z6, zf0⟩ := see_i s
  have HF := Lib.hid (zf0 6)
  have H4 := Lib.hid z6
  have HZ := Lib.hid hz
  have HS := Lib.hid (St.set0 s 6 (.int .i64 z))
  clear s hz zf0
  go_enter Try.func23, Try.ntmps23
  go_wp2_with (first
    | (go_at_call 43; (with_reducible refine (gset_c p 5 _ H4.out HF.out n z HZ.out).mono ?_); rintro e w1 ⟨rfl, rfl⟩))
  go_end0
  exact ⟨rfl, HS.out⟩
theorem next_ways (x : Idv) (a e : Int) (y : Idv) (hf : nextV x = (a, e)) (hy : nextS x = y) :
    (x.lim ≤ (x.ou.length : Int) ∧ a = 0 ∧ e = 5 ∧ y = x) ∨ (¬ x.lim ≤ (x.ou.length : Int) ∧ 2147483647 < x.next ∧ a = 0 ∧ e = 8 ∧ y = x) ∨
      (¬ x.lim ≤ (x.ou.length : Int) ∧ ¬ 2147483647 < x.next ∧ a = x.next ∧ e = 0 ∧ y = { x with next := x.next + 2, ou := x.ou ++ [x.next] }) := by
  subst hy
  unfold nextV at hf
  unfold nextS
  by_cases h : x.lim ≤ (x.ou.length : Int)
  · rw [if_pos h] at hf ⊢; cases hf; exact .inl ⟨h, rfl, rfl, rfl⟩
  · rw [if_neg h] at hf ⊢
    by_cases h2 : 2147483647 < x.next
    · rw [if_pos h2] at hf ⊢; cases hf; exact .inr (.inl ⟨h, h2, rfl, rfl, rfl⟩)
    · rw [if_neg h2] at hf ⊢; cases hf; exact .inr (.inr ⟨h, h2, rfl, rfl, rfl⟩)
set_option maxHeartbeats 4000000 in
theorem next_c (s : St S w0 w (IdL p b1 b2 x L)) (a e : Int) (y : Idv) (hf : nextV x = (a, e)) (hy : nextS x = y) (hb : x.ou.length < 1000000) (hn : ¬ x.next ∈ x.ou) (h0 : 0 ≤ x.next) :
    Calls Try.prog 17 #[.pointer (some ⟨p, 0, none⟩)] w fun r w' => r = .returned (.tuple #[.int .i64 a, .int .i64 e]) ∧ St S w0 w' (IdL p b1 b2 y L) := by
  have ways := next_ways x a e y hf hy
  have HS := Lib.hid s
  have HN := Lib.hid hn
  have HB := Lib.hid hb
  clear s hf hy hb hn
  rcases ways with ⟨h1, rfl, rfl, rfl⟩ | ⟨h1, h2, rfl, rfl, rfl⟩ | ⟨h1, h2, rfl, rfl, rfl⟩
  · have HV : Hid (decide (y.lim ≤ (y.ou.length : Int)) = true) := by unfold Hid; simpa using h1
    have hl := (see_i HS.out).1
    clear h1 h0
    go_enter Try.func17, Try.ntmps17
    go_wp2_with (first
      | (go_at_call 39; (with_reducible refine (fullO_c HS.out _ HV.out).mono ?_); rintro e w2 ⟨rfl, n, hw⟩
         have T := Lib.hid (St.drewN HS.out n)
         rw [← hw] at T
         clear hw))
    refine bodyPost_ret ?_ rfl ⟨rfl, T.out⟩
    simp [results, Try.results17, go_sem]
  · have HV : Hid (decide (y.lim ≤ (y.ou.length : Int)) = false) := by unfold Hid; simpa using h1
    have hl := (see_i HS.out).1
    clear h1 h0
    go_enter Try.func17, Try.ntmps17
    go_wp2_with (first
      | (go_at_call 39; (with_reducible refine (fullO_c HS.out _ HV.out).mono ?_); rintro e w2 ⟨rfl, n, hw⟩
         have T := Lib.hid (St.drewN HS.out n)
         rw [← hw] at T
         have z2 := (see_i T.out).2.2.2.1
         have hl := (see_i T.out).1
         clear hw))
    refine bodyPost_ret ?_ rfl ⟨rfl, T.out⟩
    simp [results, Try.results17, go_sem]
  · have HV : Hid (decide (x.lim ≤ (x.ou.length : Int)) = false) := by unfold Hid; simpa using h1
    have hl := (see_i HS.out).1
    have e1 : IntKind.i64.wrap (x.next + 2) = x.next + 2 := by rw [IntKind.wrap_i64]; omega
    have HI : Hid (i64i x.next) := by unfold Hid i64i; omega
    clear h1 h0
    go_enter Try.func17, Try.ntmps17
    go_wp2_with (first
      | (go_at_call 39; (with_reducible refine (fullO_c HS.out _ HV.out).mono ?_); rintro e w2 ⟨rfl, n, hw⟩
         have T := Lib.hid (St.drewN HS.out n)
         rw [← hw] at T
         have z2 := (see_i T.out).2.2.2.1
         have hl := (see_i T.out).1
         have zf := (see_i T.out).2.2.2.2.2.2.2.2 2
         have T2 := Lib.hid (St.set0 T.out 2 (.int .i64 (x.next + 2)))
         clear hw)
      | (go_at_call 40; (with_reducible refine (addO_c (x := { x with next := x.next + 2 }) T2.out x.next HI.out HN.out HB.out).mono ?_); rintro e w3 ⟨rfl, s3⟩
         have T3 := Lib.hid s3
         clear s3))
    refine bodyPost_ret ?_ rfl ⟨rfl, T3.out⟩
    simp [results, Try.results17, go_sem]
set_option maxHeartbeats 4000000 in
theorem close_c (s : St S w0 w (IdL p b1 b2 x L)) (id : Int) (hi : i64i id) (e : Int) (y : Idv) (he : closeE x id = e) (hy : closeS x id = y) :
    Calls Try.prog 19 #[.pointer (some ⟨p, 0, none⟩), .int .i64 id] w fun r w' => r = .returned (.int .i64 e) ∧ St S w0 w' (IdL p b1 b2 y L) := by
  subst hy
  obtain ⟨t, ht⟩ : ∃ t, thB x.srv id = t := ⟨_, rfl⟩
  unfold closeE at he
  unfold closeS
  rw [ht] at he ⊢
  have HS := Lib.hid s
  have HT := Lib.hid ht
  have HI := Lib.hid hi
  clear s ht hi
  cases t
  · simp only [cond_false] at he ⊢
    by_cases hm : id ∈ x.ou
    · rw [if_pos hm] at he
      subst he
      have HV : Hid (decide (id ∈ x.ou) = true) := decide_eq_true hm
      clear hm
      go_enter Try.func19, Try.ntmps19
      go_wp2_with (first
        | (go_at_call 41; (with_reducible refine (groupO_c HS.out id HT.out).mono ?_); rintro e w2 ⟨rfl, rfl⟩)
        | (go_at_call 42; (with_reducible refine (removeO_c HS.out id HI.out _ HV.out).mono ?_); rintro e w3 ⟨rfl, s3⟩
           have T3 := Lib.hid s3
           clear s3))
      go_ret
      exact ⟨rfl, T3.out⟩
    · rw [if_neg hm] at he
      subst he
      have HV : Hid (decide (id ∈ x.ou) = false) := decide_eq_false hm
      clear hm
      go_enter Try.func19, Try.ntmps19
      go_wp2_with (first
        | (go_at_call 41; (with_reducible refine (groupO_c HS.out id HT.out).mono ?_); rintro e w2 ⟨rfl, rfl⟩)
        | (go_at_call 42; (with_reducible refine (removeO_c HS.out id HI.out _ HV.out).mono ?_); rintro e w3 ⟨rfl, s3⟩
           have T3 := Lib.hid s3
           clear s3))
      go_ret
      exact ⟨rfl, T3.out⟩
  · simp only [cond_true] at he ⊢
    by_cases hm : id ∈ x.th
    · rw [if_pos hm] at he
      subst he
      have HV : Hid (decide (id ∈ x.th) = true) := decide_eq_true hm
      clear hm
      go_enter Try.func19, Try.ntmps19
      go_wp2_with (first
        | (go_at_call 41; (with_reducible refine (groupT_c HS.out id HT.out).mono ?_); rintro e w2 ⟨rfl, rfl⟩)
        | (go_at_call 42; (with_reducible refine (removeT_c HS.out id HI.out _ HV.out).mono ?_); rintro e w3 ⟨rfl, s3⟩
           have T3 := Lib.hid s3
           clear s3))
      go_ret
      exact ⟨rfl, T3.out⟩
    · rw [if_neg hm] at he
      subst he
      have HV : Hid (decide (id ∈ x.th) = false) := decide_eq_false hm
      clear hm
      go_enter Try.func19, Try.ntmps19
      go_wp2_with (first
        | (go_at_call 41; (with_reducible refine (groupT_c HS.out id HT.out).mono ?_); rintro e w2 ⟨rfl, rfl⟩)
        | (go_at_call 42; (with_reducible refine (removeT_c HS.out id HI.out _ HV.out).mono ?_); rintro e w3 ⟨rfl, s3⟩
           have T3 := Lib.hid s3
           clear s3))
      go_ret
      exact ⟨rfl, T3.out⟩
end
end Go.Proofs.Ytdpheliekdgnhaa
