/- Stage 9: the document's streams of a connection in memory: what is read of them. -/
import Derived.Test.YtdpheliekdgnhaaNiN
import Derived.Test.YtdpheliekdgnhaaNiI
namespace Go.Proofs.Ytdpheliekdgnhaa
open Go.RowKit Go.Own Go.Sm
set_option linter.unusedVariables false
set_option linter.unusedSimpArgs false
set_option maxRecDepth 100000
def intC (l : List Int) : List Value := l.map (.int .i64 ·)
theorem intC_len (l : List Int) : (intC l).length = l.length := by simp [intC]
theorem intC_append (l m : List Int) : intC (l ++ m) = intC l ++ intC m := by simp [intC]
theorem intC_one (l : List Int) : ∀ u, u ∈ intC l → u.oneCell' = true := by
  intro u hu
  obtain ⟨y, _, rfl⟩ := List.mem_map.1 hu
  rfl
theorem intC_at {l : List Int} {k : Nat} (h : k < l.length) : (intC l)[k]? = some (.int .i64 l[k]) := by simp [intC, List.getElem?_eq_getElem h]
theorem EI : Elt Try.prog 40 3 (.int .i64 0) 1 8 := by
  have hinfo : (Try.prog.info? 3).map (fun i => (i.zero, i.size, i.bytes)) = some (some (.int .i64 0), 1, 8) := by kernel_rfl
  obtain ⟨i, hi, h1⟩ := Option.map_eq_some_iff.1 hinfo
  simp only [Prod.mk.injEq] at h1
  exact ⟨Try.underlying40, ⟨i, hi, h1.1, h1.2.1, h1.2.2⟩, rfl, by decide⟩
def ridC (x : Idv) (A : Option Addr) (n c : Nat) : List Value := [.bool x.srv, .int .i64 x.most, .int .i64 x.lim, .int .i64 x.last, .int .i64 x.next, .slice A n c]
/-- the document's Ids x at block q, its active streams l -/
abbrev RL (q B : Nat) (x : Idv) (A : Option Addr) (c : Nat) (l : List Int) (L : List Ob) : List Ob := BLo q 75 (ridC x A l.length c) :: SLo B 3 1 (.slice A l.length c) l.length (intC l) :: L
/-- l are the streams that x has, of both ends -/
structure Mix (x : Idv) (l : List Int) : Prop where
  th : x.th = l.filter fun y => thB x.srv y
  ou : x.ou = l.filter fun y => !thB x.srv y
  pos : ∀ y, y ∈ l → 1 ≤ y
theorem filter_two (p : Int → Bool) : ∀ l : List Int, (l.filter p).length + (l.filter fun y => !p y).length = l.length
  | [] => rfl
  | y :: l => by
    have := filter_two p l
    cases h : p y <;> simp [List.filter_cons, h] <;> omega
section
variable {S : Nat → Prop} {w0 w : World} {L : List Ob} {q B : Nat} {x : Idv} {A : Option Addr} {c : Nat} {l : List Int} {A0 A1 A2 : Ob}
theorem see_q (s : St S w0 w (A0 :: A1 :: A2 :: RL q B x A c l L)) : q < w.heap.size ∧ w.cell? ⟨q, 0, none⟩ = some (.bool x.srv) ∧ w.cell? ⟨q, 1, none⟩ = some (.int .i64 x.most) ∧ w.cell? ⟨q, 2, none⟩ = some (.int .i64 x.lim) ∧ w.cell? ⟨q, 3, none⟩ = some (.int .i64 x.last) ∧
    w.cell? ⟨q, 4, none⟩ = some (.int .i64 x.next) ∧ w.cell? ⟨q, 5, none⟩ = some (.slice A l.length c) ∧ ∀ i, w.frozen? ⟨q, i, none⟩ = false := by
  have hb : Blk w q _ _ := St.blk3 s
  exact ⟨hb.lt, hb.cell 0, hb.cell 1, hb.cell 2, hb.cell 3, hb.cell 4, hb.cell 5, hb.frozen⟩
theorem own_q (s : St S w0 w (A0 :: A1 :: A2 :: RL q B x A c l L)) {k : Nat} (hk : k < l.length) : ∃ b o, A = some ⟨b, o, none⟩ ∧ w.cell? ⟨b, o + k, none⟩ = some (.int .i64 l[k]) := by
  have h := Rd.of_own (St.own4 s)
  obtain ⟨b, o, u, hA, hu, hc⟩ := h.at_ hk
  rw [intC_at hk] at hu
  cases hu
  exact ⟨b, o, hA, hc⟩
theorem rtheirs_c (s : St S w0 w (A0 :: A1 :: A2 :: RL q B x A c l L)) (id : Int) (h0 : 1 ≤ id) (v : Bool) (hv : thB x.srv id = v) : Calls Try.prog 45 #[.pointer (some ⟨q, 0, none⟩), .int .i64 id] w fun e w' => e = .returned (.bool v) ∧ w' = w := by
  obtain ⟨hl, z0, _⟩ := see_q s
  clear s
  have e1 : id.tmod 2 = id % 2 := Int.tmod_eq_emod_of_nonneg (by omega)
  have ways : (id % 2 = 0 ∨ id % 2 = 1) := by omega
  have key : (x.srv = true ∧ id % 2 = 1 ∧ v = true) ∨ (x.srv = true ∧ id % 2 = 0 ∧ v = false) ∨ (x.srv = false ∧ id % 2 = 1 ∧ v = false) ∨ (x.srv = false ∧ id % 2 = 0 ∧ v = true) := by
    unfold thB at hv
    rw [e1] at hv
    rcases ways with e | e <;> rw [e] at hv <;> cases hs : x.srv <;> rw [hs] at hv <;> subst hv <;> simp [e]
  clear hv ways
  rcases key with ⟨h1, h2, rfl⟩ | ⟨h1, h2, rfl⟩ | ⟨h1, h2, rfl⟩ | ⟨h1, h2, rfl⟩
  all_goals
    rw [h1] at z0
    rw [h2] at e1
    clear h1
    go_enter Try.func45, Try.ntmps45
    go_wp2
    go_ret
    exact ⟨rfl, rfl⟩
theorem rclass_c (s : St S w0 w (A0 :: A1 :: A2 :: RL q B x A c l L)) (id : Int) (v : Int) (hv : classV x id = v) : Calls Try.prog 26 #[.pointer (some ⟨q, 0, none⟩), .int .i64 id] w fun e w' => e = .returned (.int .i64 v) ∧ w' = w := by
  obtain ⟨hl, z0, z1, z2, z3, z4, _⟩ := see_q s
  obtain ⟨t, ht⟩ : ∃ t, thB x.srv id = t := ⟨_, rfl⟩
  unfold classV at hv
  rw [ht] at hv
  have HS := Lib.hid s
  have HT := Lib.hid ht
  clear s ht
  have key : (id < 1 ∧ v = 0) ∨ (¬ id < 1 ∧ 2147483647 < id ∧ v = 0) ∨ (¬ id < 1 ∧ ¬ 2147483647 < id ∧ t = true ∧ x.last < id ∧ v = 1) ∨ (¬ id < 1 ∧ ¬ 2147483647 < id ∧ t = true ∧ ¬ x.last < id ∧ v = 2) ∨
      (¬ id < 1 ∧ ¬ 2147483647 < id ∧ t = false ∧ x.next ≤ id ∧ v = 3) ∨ (¬ id < 1 ∧ ¬ 2147483647 < id ∧ t = false ∧ ¬ x.next ≤ id ∧ v = 4) := by
    by_cases h1 : id < 1
    · left; rw [if_pos (.inl h1)] at hv; exact ⟨h1, hv.symm⟩
    · by_cases h2 : 2147483647 < id
      · right; left; rw [if_pos (.inr h2)] at hv; exact ⟨h1, h2, hv.symm⟩
      · right; right
        rw [if_neg (by omega)] at hv
        cases t
        · right; right
          simp only [cond_false] at hv
          by_cases h3 : x.next ≤ id
          · left; rw [if_pos h3] at hv; exact ⟨h1, h2, rfl, h3, hv.symm⟩
          · right; rw [if_neg h3] at hv; exact ⟨h1, h2, rfl, h3, hv.symm⟩
        · simp only [cond_true] at hv
          by_cases h3 : x.last < id
          · left; rw [if_pos h3] at hv; exact ⟨h1, h2, rfl, h3, hv.symm⟩
          · right; left; rw [if_neg h3] at hv; exact ⟨h1, h2, rfl, h3, hv.symm⟩
  clear hv
  rcases key with ⟨h1, rfl⟩ | ⟨h1, h2, rfl⟩ | ⟨h1, h2, rfl, h3, rfl⟩ | ⟨h1, h2, rfl, h3, rfl⟩ | ⟨h1, h2, rfl, h3, rfl⟩ | ⟨h1, h2, rfl, h3, rfl⟩
  all_goals
    have hp : Hid (¬ id < 1 → 1 ≤ id) := by unfold Hid; omega
    go_enter Try.func26, Try.ntmps26
    go_wp2_with (first
      | (go_at_call 45; (with_reducible refine (rtheirs_c HS.out _ (hp.out (by omega)) _ HT.out).mono ?_); rintro e w1 ⟨rfl, rfl⟩))
    go_ret
    exact ⟨rfl, rfl⟩
theorem rlast_c (s : St S w0 w (A0 :: A1 :: A2 :: RL q B x A c l L)) : Calls Try.prog 30 #[.pointer (some ⟨q, 0, none⟩)] w fun e w' => e = .returned (.int .i64 x.last) ∧ w' = w := by
  obtain ⟨hl, z0, z1, z2, z3, _⟩ := see_q s
  clear s
  go_enter Try.func30, Try.ntmps30
  go_wp2
  go_ret
  exact ⟨rfl, rfl⟩
theorem take_filter (p : Int → Bool) {l : List Int} {k : Nat} (h : k < l.length) : ((l.take (k + 1)).filter p).length = ((l.take k).filter p).length + (bif p l[k] then 1 else 0) := by
  rw [List.take_succ_eq_append_getElem h, List.filter_append, List.length_append]
  cases hp : p l[k] <;> simp [hp]
set_option maxHeartbeats 2000000 in
theorem ractive_c (s : St S w0 w (A0 :: A1 :: A2 :: RL q B x A c l L)) (hm : Mix x l) (hb : l.length < 1000000) : Calls Try.prog 28 #[.pointer (some ⟨q, 0, none⟩)] w fun e w' => e = .returned (.tuple #[.int .i64 (x.th.length : Int), .int .i64 (x.ou.length : Int)]) ∧ ∃ n, w' = w.drewN n := by
  obtain ⟨hl, z0, z1, z2, z3, z4, z5, _⟩ := see_q s
  have HS := Lib.hid s
  have HM := Lib.hid hm
  have e1 : x.th.length = (l.filter fun y => thB x.srv y).length := by rw [hm.th]
  have e2 : x.ou.length = (l.filter fun y => !thB x.srv y).length := by rw [hm.ou]
  have e3 := filter_two (fun y => thB x.srv y) l
  rw [← e1, ← e2] at e3
  have HE := Lib.hid e1
  clear e1 e2 s hm
  go_enter Try.func28, Try.ntmps28
  go_wp2
  go_loopg [5, 4] l.length (fun gh i m w' => ∃ k : Nat, gh + k = l.length ∧ i = .int .i64 (k : Int) ∧ m = .int .i64 ((((l.take k).filter fun y => thB x.srv y).length : Nat) : Int) ∧ w' = w)
  case atStart => exact ⟨0, by omega, rfl, rfl, rfl⟩
  case round =>
    obtain ⟨k, hk, rfl, rfl, rfl⟩ := hrel
    cases gk with
    | zero =>
      obtain rfl : k = l.length := by omega
      clear hk
      rw [List.take_length, ← HE.out]
      have e4 : IntKind.i64.wrap ((l.length : Int) - (x.th.length : Int)) = (x.ou.length : Int) := by rw [IntKind.wrap_i64]; omega
      go_wp2
      go_quiet (fail)
      go_wp2
      refine bodyPost_ret ?_ rfl ⟨rfl, _, rfl⟩
      simp [results, Try.results28, go_sem]
    | succ g1 =>
      have k1 : k < l.length := by omega
      obtain ⟨b, o, rfl, d0⟩ := own_q HS.out k1
      obtain ⟨y, hy⟩ : ∃ y, l[k] = y := ⟨_, rfl⟩
      have hy1 : 1 ≤ y := by rw [← hy]; exact HM.out.pos _ (List.getElem_mem k1)
      have ht := take_filter (fun y => thB x.srv y) k1
      rw [hy] at d0 ht
      have HY := Lib.hid hy1
      obtain ⟨m, hm⟩ : ∃ m, ((l.take k).filter fun y => thB x.srv y).length = m := ⟨_, rfl⟩
      obtain ⟨v, hv⟩ : ∃ v, thB x.srv y = v := ⟨_, rfl⟩
      have hml : m ≤ k := by rw [← hm]; exact Nat.le_trans (List.length_filter_le _ _) (by rw [List.length_take]; omega)
      rw [hm] at ht ⊢
      have HV := Lib.hid hv
      simp only [hv] at ht
      have HT := Lib.hid ht
      clear ht hv hm hy hy1
      cases v
      · go_wp2_with (first
          | (go_at_call 45; (with_reducible refine (rtheirs_c HS.out _ HY.out _ HV.out).mono ?_); rintro e w1 ⟨rfl, hw⟩; rw [hw]; clear hw))
        go_roundg g1
        case measure => omega
        case rel => exact ⟨k + 1, by omega, by go_num, by rw [HT.out]; rfl, rfl⟩
      · go_wp2_with (first
          | (go_at_call 45; (with_reducible refine (rtheirs_c HS.out _ HY.out _ HV.out).mono ?_); rintro e w1 ⟨rfl, hw⟩; rw [hw]; clear hw))
        go_roundg g1
        case measure => omega
        case rel => exact ⟨k + 1, by omega, by go_num, by rw [HT.out]; go_num, rfl⟩
end
end Go.Proofs.Ytdpheliekdgnhaa
