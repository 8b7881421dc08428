/- Stage 9: the document's streams of a connection: its calls. -/
import Derived.Test.YtdpheliekdgnhaaNiP
namespace Go.Proofs.Ytdpheliekdgnhaa
open Go.RowKit Go.Own Go.Sm
set_option linter.unusedVariables false
set_option linter.unusedSimpArgs false
set_option maxRecDepth 100000
/-! what the two lists are -/
theorem Mix.mem {x : Idv} {l : List Int} (h : Mix x l) (id : Int) : (bif thB x.srv id then decide (id ∈ x.th) else decide (id ∈ x.ou)) = decide (id ∈ l) := by
  rw [h.th, h.ou]
  cases ht : thB x.srv id <;> simp [ht]
theorem out9_filter (p : Int → Bool) (z : Int) (l : List Int) : (out9 z l).filter p = out9 z (l.filter p) := by
  unfold out9
  rw [List.filter_filter, List.filter_filter]
  congr 1
  funext y
  exact Bool.and_comm _ _
theorem out9_not {z : Int} {l : List Int} (h : ¬ z ∈ l) : out9 z l = l := by
  unfold out9
  rw [List.filter_eq_self]
  intro y hy
  simp
  rintro rfl
  exact h hy
theorem Mix.close {x : Idv} {l : List Int} (h : Mix x l) (z : Int) : Mix (closeS x z) (out9 z l) := by
  have hp : ∀ y, y ∈ out9 z l → 1 ≤ y := fun y hy => h.pos y (mem_out9.1 hy).1
  unfold closeS
  cases ht : thB x.srv z
  · refine ⟨?_, ?_, hp⟩
    · show x.th = (out9 z l).filter fun y => thB x.srv y
      rw [out9_filter, ← h.th, out9_not]
      rw [h.th]
      simp [ht]
    · show out9 z x.ou = (out9 z l).filter fun y => !thB x.srv y
      rw [out9_filter, ← h.ou]
  · refine ⟨?_, ?_, hp⟩
    · show out9 z x.th = (out9 z l).filter fun y => thB x.srv y
      rw [out9_filter, ← h.th]
    · show x.ou = (out9 z l).filter fun y => !thB x.srv y
      rw [out9_filter, ← h.ou, out9_not]
      rw [h.ou]
      simp [ht]
theorem Mix.closeE {x : Idv} {l : List Int} (h : Mix x l) (z : Int) : Proofs.Ytdpheliekdgnhaa.closeE x z = if z ∈ l then 0 else 6 := by
  have hm := h.mem z
  unfold Proofs.Ytdpheliekdgnhaa.closeE
  cases ht : thB x.srv z
  · rw [ht] at hm
    simp only [cond_false, decide_eq_decide] at hm ⊢
    simp only [hm]
  · rw [ht] at hm
    simp only [cond_true, decide_eq_decide] at hm ⊢
    simp only [hm]
theorem Mix.close_not {x : Idv} {l : List Int} (h : Mix x l) {z : Int} (hz : ¬ z ∈ l) : closeS x z = x := by
  have h1 : ¬ z ∈ x.th := by rw [h.th]; simp [hz]
  have h2 : ¬ z ∈ x.ou := by rw [h.ou]; simp [hz]
  unfold closeS
  cases thB x.srv z
  · simp only [cond_false, out9_not h2]
  · simp only [cond_true, out9_not h1]
theorem rd_one9 {w : World} {g : Nat} {y : Int} (h : Blk w g 3 [.int .i64 y]) : Rd w 1 (some ⟨g, 0, none⟩) 1 (intC [y]) := by
  have := Rd.of_blk (n := 1) (size := 1) h (by simp)
  simpa [intC] using this
def openL (x : Idv) (id : Int) (l : List Int) : List Int := if classV x id = 1 then (if x.most ≤ (x.th.length : Int) then l else l ++ [id]) else l
def nextL (x : Idv) (l : List Int) : List Int := if x.lim ≤ (x.ou.length : Int) then l else if 2147483647 < x.next then l else l ++ [x.next]
theorem Mix.open_ {x : Idv} {l : List Int} (h : Mix x l) (z : Int) : Mix (openS x z) (openL x z l) := by
  unfold openS openL
  split
  · rename_i hc
    obtain ⟨h1, h2, h3, h4⟩ := class_one hc
    split
    · exact ⟨h.th, h.ou, h.pos⟩
    · refine ⟨?_, ?_, fun y hy => ?_⟩
      · show x.th ++ [z] = (l ++ [z]).filter fun y => thB x.srv y
        rw [List.filter_append, ← h.th]
        simp [h3]
      · show x.ou = (l ++ [z]).filter fun y => !thB x.srv y
        rw [List.filter_append, ← h.ou]
        simp [h3]
      · rcases List.mem_append.1 hy with hy | hy
        · exact h.pos y hy
        · obtain rfl : y = z := by simpa using hy
          exact h1
  · exact h
theorem Mix.next_ {x : Idv} {l : List Int} (h : Mix x l) {k : Nat} (ok : IdOk x k) : Mix (nextS x) (nextL x l) := by
  unfold nextS nextL
  obtain ⟨n1, n2, n3⟩ := ok.nx
  split
  · exact h
  · split
    · exact h
    · refine ⟨?_, ?_, fun y hy => ?_⟩
      · show x.th = (l ++ [x.next]).filter fun y => thB x.srv y
        rw [List.filter_append, ← h.th]
        simp [n3]
      · show x.ou ++ [x.next] = (l ++ [x.next]).filter fun y => !thB x.srv y
        rw [List.filter_append, ← h.ou]
        simp [n3]
      · rcases List.mem_append.1 hy with hy | hy
        · exact h.pos y hy
        · obtain rfl : y = x.next := by simpa using hy
          exact n1
section
variable {S : Nat → Prop} {w0 w : World} {L : List Ob} {q B : Nat} {x : Idv} {A : Option Addr} {c : Nat} {l : List Int} {A0 A1 A2 : Ob}
theorem rsetMost_c (s : St S w0 w (A0 :: A1 :: A2 :: RL q B x A c l L)) (n : Int) (z : Int) (hz : posV n = z) : Calls Try.prog 22 #[.pointer (some ⟨q, 0, none⟩), .int .i64 n] w fun e w' => e = .returned (.tuple #[]) ∧ St S w0 w' (A0 :: A1 :: A2 :: RL q B { x with most := z } A c l L) := by
  obtain ⟨hl, z0, z1, z2, z3, z4, z5, zf0⟩ := see_q s
  have zf := zf0 1
  have HS := Lib.hid (St.set3 s 1 (.int .i64 n))
  have HS0 := Lib.hid (St.set3 (St.set3 s 1 (.int .i64 n)) 1 (.int .i64 0))
  clear s zf0
  rcases pos_ways hz with ⟨h1, rfl⟩ | ⟨rfl, rfl⟩ | ⟨h1, rfl⟩
  · go_enter Try.func22, Try.ntmps22
    go_wp2
    go_end0
    exact ⟨rfl, HS0.out⟩
  · go_enter Try.func22, Try.ntmps22
    go_wp2
    go_end0
    exact ⟨rfl, HS.out⟩
  · have h2 : ¬ z < 0 := by omega
    go_enter Try.func22, Try.ntmps22
    go_wp2
    go_end0
    exact ⟨rfl, HS.out⟩
theorem rlimit_c (s : St S w0 w (A0 :: A1 :: A2 :: RL q B x A c l L)) (n : Int) (z : Int) (hz : posV n = z) : Calls Try.prog 24 #[.pointer (some ⟨q, 0, none⟩), .int .i64 n] w fun e w' => e = .returned (.tuple #[]) ∧ St S w0 w' (A0 :: A1 :: A2 :: RL q B { x with lim := z } A c l L) := by
  obtain ⟨hl, z0, z1, z2, z3, z4, z5, zf0⟩ := see_q s
  have zf := zf0 2
  have HS := Lib.hid (St.set3 s 2 (.int .i64 n))
  have HS0 := Lib.hid (St.set3 (St.set3 s 2 (.int .i64 n)) 2 (.int .i64 0))
  clear s zf0
  rcases pos_ways hz with ⟨h1, rfl⟩ | ⟨rfl, rfl⟩ | ⟨h1, rfl⟩
  · go_enter Try.func24, Try.ntmps24
    go_wp2
    go_end0
    exact ⟨rfl, HS0.out⟩
  · go_enter Try.func24, Try.ntmps24
    go_wp2
    go_end0
    exact ⟨rfl, HS.out⟩
  · have h2 : ¬ z < 0 := by omega
    go_enter Try.func24, Try.ntmps24
    go_wp2
    go_end0
    exact ⟨rfl, HS.out⟩
set_option maxHeartbeats 4000000 in
theorem rnext_c (s : St S w0 w (A0 :: A1 :: A2 :: RL q B x A c l L)) (hm : Mix x l) {k : Nat} (ok : IdOk x k) (hb : l.length < 1000000) (hB : B ≤ w.heap.size) (a e : Int) (y : Idv) (hf : nextV x = (a, e)) (hy : nextS x = y) (l' : List Int) (hl' : nextL x l = l') :
    Calls Try.prog 18 #[.pointer (some ⟨q, 0, none⟩)] w fun r w' => r = .returned (.tuple #[.int .i64 a, .int .i64 e]) ∧ ∃ A' c', St S w0 w' (A0 :: A1 :: A2 :: RL q B y A' c' l' L) := by
  have ways := next_ways x a e y hf hy
  have n1 := ok.nx.1
  have HS := Lib.hid s
  have HM := Lib.hid hm
  have HB := Lib.hid hb
  unfold nextL at hl'
  clear s hf hy hm ok
  rcases ways with ⟨h1, rfl, rfl, rfl⟩ | ⟨h1, h2, rfl, rfl, rfl⟩ | ⟨h1, h2, rfl, rfl, rfl⟩
  · rw [if_pos h1] at hl'
    subst hl'
    have hl := (see_q HS.out).1
    clear n1
    go_enter Try.func18, Try.ntmps18
    go_wp2_with (first
      | (go_at_call 28; (with_reducible refine (ractive_c HS.out HM.out HB.out).mono ?_); rintro e w2 ⟨rfl, n, hw⟩
         have T := Lib.hid (St.drewN HS.out n)
         rw [← hw] at T
         obtain ⟨hl, z0, z1, z2, _⟩ := see_q T.out
         clear hw))
    refine bodyPost_ret ?_ rfl ⟨rfl, _, _, T.out⟩
    simp [results, Try.results18, go_sem]
  · rw [if_neg h1, if_pos h2] at hl'
    subst hl'
    have hl := (see_q HS.out).1
    clear n1
    go_enter Try.func18, Try.ntmps18
    go_wp2_with (first
      | (go_at_call 28; (with_reducible refine (ractive_c HS.out HM.out HB.out).mono ?_); rintro e w2 ⟨rfl, n, hw⟩
         have T := Lib.hid (St.drewN HS.out n)
         rw [← hw] at T
         obtain ⟨hl, z0, z1, z2, z3, z4, _⟩ := see_q T.out
         clear hw))
    refine bodyPost_ret ?_ rfl ⟨rfl, _, _, T.out⟩
    simp [results, Try.results18, go_sem]
  · rw [if_neg h1, if_neg h2] at hl'
    subst hl'
    have hl := (see_q HS.out).1
    have ew : IntKind.i64.wrap (x.next + 2) = x.next + 2 := by rw [IntKind.wrap_i64]; omega
    go_enter Try.func18, Try.ntmps18
    go_wp2_with (first
      | (go_at_call 28; (with_reducible refine (ractive_c HS.out HM.out HB.out).mono ?_); rintro e w2 ⟨rfl, n, hw⟩
         have T := Lib.hid (St.drewN HS.out n)
         rw [← hw] at T
         have hB2 : Hid (B ≤ w2.heap.size) := by unfold Hid; rw [hw]; exact hB
         obtain ⟨hl, z0, z1, z2, z3, z4, z5, zf0⟩ := see_q T.out
         have zf4 := zf0 4
         have zf5 := zf0 5
         clear hw zf0
         have t2 := St.set3 T.out 4 (.int .i64 (x.next + 2))
         have T2 := Lib.hid (St.alloc t2 (.cells #[.int .i64 x.next] 3))
         have X2 := Lib.hid (rd_one9 (Blk.new (w2.setCell ⟨q, 4, none⟩ (.int .i64 (x.next + 2))) 3 [.int .i64 x.next]))
         have hs2 : Hid (B ≤ ((w2.setCell ⟨q, 4, none⟩ (.int .i64 (x.next + 2))).alloc (.cells #[.int .i64 x.next] 3)).heap.size) := by unfold Hid; have := hB2.out; simp; omega
         clear t2)
      | (at_builtin
         refine wpList_append_rd rfl (.tmp 36) (.tmp 38) 40 rfl EI (.slice A l.length c) l.length (intC l) rfl (St.own4 T2.out) (some ⟨w2.heap.size, 0, none⟩) 1 1 (intC [x.next]) rfl (by simpa using X2.out) (intC_one _) (by have := HB.out; omega) (by have := HB.out; unfold maxLen; omega) hs2.out ?_
         intro A6 c6 w6 ho6 hf6 h26
         rw [← intC_append] at ho6
         have t6 := St.appended4 T2.out ho6 hf6 h26
         have hb6 := St.blk3 t6
         have hl6 := hb6.lt
         have zf6 := hb6.frozen 5
         have z56 := hb6.cell 5
         have T6 := Lib.hid (St.set3 t6 5 (.slice A6 (l.length + 1) c6))
         clear ho6 hf6 h26 t6 hb6))
    refine bodyPost_ret ?_ rfl ⟨rfl, A6, c6, ?_⟩
    · simp [results, Try.results18, go_sem]
    · have h := T6.out
      unfold RL
      rw [List.length_append]
      exact h
end
end Go.Proofs.Ytdpheliekdgnhaa
