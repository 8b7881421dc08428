/- Stage 9: the program's streams of a connection in memory: what is read of them. -/
import Derived.Test.YtdpheliekdgnhaaNiD
namespace Go.Proofs.Ytdpheliekdgnhaa
open Go.RowKit Go.Own Go.Sm
set_option linter.unusedVariables false
set_option linter.unusedSimpArgs false
set_option maxRecDepth 100000
structure Idv where
  srv : Bool
  last : Int
  next : Int
  most : Int
  lim : Int
  th : List Int
  ou : List Int
def idC (b1 b2 : Nat) (x : Idv) : List Value := [.bool x.srv, .int .i64 x.last, .int .i64 x.next, .map (some b1), .int .i64 x.most, .map (some b2), .int .i64 x.lim]
/-- the program's Ids x: block p, its two sets -/
abbrev IdL (p b1 b2 : Nat) (x : Idv) (L : List Ob) : List Ob := BLo p 73 (idC b1 b2 x) :: MSo b1 x.th :: MSo b2 x.ou :: L
def thB (srv : Bool) (id : Int) : Bool := (id.tmod 2 != 0) == srv
def classV (x : Idv) (id : Int) : Int :=
  if id < 1 ∨ 2147483647 < id then 0 else bif thB x.srv id then (if x.last < id then 1 else 2) else (if x.next ≤ id then 3 else 4)
section
variable {S : Nat → Prop} {w0 w : World} {L : List Ob} {p b1 b2 : Nat} {x : Idv}
theorem see_i (s : St S w0 w (IdL p b1 b2 x L)) : p < w.heap.size ∧ w.cell? ⟨p, 0, none⟩ = some (.bool x.srv) ∧ w.cell? ⟨p, 1, none⟩ = some (.int .i64 x.last) ∧ w.cell? ⟨p, 2, none⟩ = some (.int .i64 x.next) ∧ w.cell? ⟨p, 3, none⟩ = some (.map (some b1)) ∧
    w.cell? ⟨p, 4, none⟩ = some (.int .i64 x.most) ∧ w.cell? ⟨p, 5, none⟩ = some (.map (some b2)) ∧ w.cell? ⟨p, 6, none⟩ = some (.int .i64 x.lim) ∧ ∀ i, w.frozen? ⟨p, i, none⟩ = false := by
  have hb : Blk w p _ _ := St.blk0 s
  exact ⟨hb.lt, hb.cell 0, hb.cell 1, hb.cell 2, hb.cell 3, hb.cell 4, hb.cell 5, hb.cell 6, hb.frozen⟩
theorem see_t (s : St S w0 w (IdL p b1 b2 x L)) : MSet w b1 x.th := St.mset [_] _ s
theorem see_o (s : St S w0 w (IdL p b1 b2 x L)) : MSet w b2 x.ou := St.mset [_, _] _ s
theorem theirs_c (s : St S w0 w (IdL p b1 b2 x L)) (id : Int) (v : Bool) (hv : thB x.srv id = v) : Calls Try.prog 44 #[.pointer (some ⟨p, 0, none⟩), .int .i64 id] w fun e w' => e = .returned (.bool v) ∧ w' = w := by
  obtain ⟨hl, z0, _⟩ := see_i s
  unfold thB at hv
  clear s
  go_enter Try.func44, Try.ntmps44
  go_wp2
  go_ret
  exact ⟨rfl, rfl⟩
theorem class_c (s : St S w0 w (IdL p b1 b2 x L)) (id : Int) (v : Int) (hv : classV x id = v) : Calls Try.prog 25 #[.pointer (some ⟨p, 0, none⟩), .int .i64 id] w fun e w' => e = .returned (.int .i64 v) ∧ w' = w := by
  obtain ⟨hl, z0, z1, z2, _⟩ := see_i s
  obtain ⟨t, ht⟩ : ∃ t, thB x.srv id = t := ⟨_, rfl⟩
  unfold classV at hv
  rw [ht] at hv
  have HS := Lib.hid s
  have HT := Lib.hid ht
  clear s ht
  have key : (id < 1 ∧ v = 0) ∨ (¬ id < 1 ∧ 2147483647 < id ∧ v = 0) ∨ (¬ id < 1 ∧ ¬ 2147483647 < id ∧ t = true ∧ x.last < id ∧ v = 1) ∨ (¬ id < 1 ∧ ¬ 2147483647 < id ∧ t = true ∧ ¬ x.last < id ∧ v = 2) ∨
      (¬ id < 1 ∧ ¬ 2147483647 < id ∧ t = false ∧ x.next ≤ id ∧ v = 3) ∨ (¬ id < 1 ∧ ¬ 2147483647 < id ∧ t = false ∧ ¬ x.next ≤ id ∧ v = 4) := by
    by_cases h1 : id < 1
    · left; rw [if_pos (.inl h1)] at hv; exact ⟨h1, hv.symm⟩
    · by_cases h2 : 2147483647 < id
      · right; left; rw [if_pos (.inr h2)] at hv; exact ⟨h1, h2, hv.symm⟩
      · right; right
        rw [if_neg (by omega)] at hv
        cases t
        · right; right
          simp only [cond_false] at hv
          by_cases h3 : x.next ≤ id
          · left; rw [if_pos h3] at hv; exact ⟨h1, h2, rfl, h3, hv.symm⟩
          · right; rw [if_neg h3] at hv; exact ⟨h1, h2, rfl, h3, hv.symm⟩
        · simp only [cond_true] at hv
          by_cases h3 : x.last < id
          · left; rw [if_pos h3] at hv; exact ⟨h1, h2, rfl, h3, hv.symm⟩
          · right; left; rw [if_neg h3] at hv; exact ⟨h1, h2, rfl, h3, hv.symm⟩
  clear hv
  rcases key with ⟨h1, rfl⟩ | ⟨h1, h2, rfl⟩ | ⟨h1, h2, rfl, h3, rfl⟩ | ⟨h1, h2, rfl, h3, rfl⟩ | ⟨h1, h2, rfl, h3, rfl⟩ | ⟨h1, h2, rfl, h3, rfl⟩
  all_goals
    first | (have h4 : decide (x.last < id) = false := decide_eq_false h3) | (have h4 : decide (x.next ≤ id) = false := decide_eq_false h3) | skip
    go_enter Try.func25, Try.ntmps25
    go_wp2_with (first
      | (go_at_call 44; (with_reducible refine (theirs_c HS.out _ _ HT.out).mono ?_); rintro e w1 ⟨rfl, rfl⟩)
      | (go_at_call 37; (with_reducible refine (choose_t _ _).mono ?_); rintro e w1 ⟨rfl, rfl⟩)
      | (go_at_call 37; (with_reducible refine (choose_f _ _).mono ?_); rintro e w1 ⟨rfl, rfl⟩))
    go_ret
    exact ⟨rfl, rfl⟩
theorem last_c (s : St S w0 w (IdL p b1 b2 x L)) : Calls Try.prog 29 #[.pointer (some ⟨p, 0, none⟩)] w fun e w' => e = .returned (.int .i64 x.last) ∧ w' = w := by
  obtain ⟨hl, z0, z1, _⟩ := see_i s
  clear s
  go_enter Try.func29, Try.ntmps29
  go_wp2
  go_ret
  exact ⟨rfl, rfl⟩
theorem active_c (s : St S w0 w (IdL p b1 b2 x L)) : Calls Try.prog 27 #[.pointer (some ⟨p, 0, none⟩)] w fun e w' => e = .returned (.tuple #[.int .i64 (x.th.length : Int), .int .i64 (x.ou.length : Int)]) ∧ ∃ n, w' = w.drewN n := by
  obtain ⟨hl, z0, z1, z2, z3, z4, z5, z6, _⟩ := see_i s
  have l1 := (see_t s).len
  have l2 := (see_o s).len
  clear s
  go_enter Try.func27, Try.ntmps27
  go_wp2
  go_quiet (fail)
  go_wp2
  refine bodyPost_ret ?_ rfl ⟨rfl, _, rfl⟩
  simp [results, Try.results27, go_sem]
theorem fullT_c (s : St S w0 w (IdL p b1 b2 x L)) (v : Bool) (hv : decide (x.most ≤ (x.th.length : Int)) = v) : Calls Try.prog 39 #[.pointer (some ⟨p, 3, none⟩)] w fun e w' => e = .returned (.bool v) ∧ ∃ n, w' = w.drewN n := by
  obtain ⟨hl, z0, z1, z2, z3, z4, z5, z6, _⟩ := see_i s
  have l1 := (see_t s).len
  subst hv
  clear s
  go_enter Try.func39, Try.ntmps39
  go_wp2
  go_quiet (fail)
  go_wp2
  go_ret
  exact ⟨rfl, _, rfl⟩
theorem fullO_c (s : St S w0 w (IdL p b1 b2 x L)) (v : Bool) (hv : decide (x.lim ≤ (x.ou.length : Int)) = v) : Calls Try.prog 39 #[.pointer (some ⟨p, 5, none⟩)] w fun e w' => e = .returned (.bool v) ∧ ∃ n, w' = w.drewN n := by
  obtain ⟨hl, z0, z1, z2, z3, z4, z5, z6, _⟩ := see_i s
  have l1 := (see_o s).len
  subst hv
  clear s
  go_enter Try.func39, Try.ntmps39
  go_wp2
  go_quiet (fail)
  go_wp2
  go_ret
  exact ⟨rfl, _, rfl⟩
end
end Go.Proofs.Ytdpheliekdgnhaa
