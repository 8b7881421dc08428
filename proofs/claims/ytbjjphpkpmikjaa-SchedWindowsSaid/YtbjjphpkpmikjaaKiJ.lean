/- Stage 11: the scheduler's calls on a stream: Wait, Open, Put, Grant. -/
import Derived.Test.YtbjjphpkpmikjaaKiI
namespace Go.Proofs.Ytbjjphpkpmikjaa
open Go.RowKit Go.Own Go.Sch
set_option linter.unusedVariables false
set_option linter.unusedSimpArgs false
set_option maxRecDepth 100000
section
variable {S : Nat → Prop} {w0 w : World} {L : List Ob} {p : Nat} {fs : List (List UInt8)} {q : List Fl} {W : Int} {F : Nat} {cv qv : Value} {C : List (Value × List UInt8)}
theorem pl_none {id : Int} (h : ∀ f ∈ q, (f.id : Int) ≠ id) : Pl q id (-1) := .inl ⟨rfl, h⟩
theorem pl_some {id : Int} {a b : List Fl} {f : Fl} (hq : q = a ++ f :: b) (hid : (f.id : Int) = id) (hn : ∀ g ∈ a, (g.id : Int) ≠ id) : Pl q id (a.length : Int) := .inr ⟨a, f, b, hq, rfl, hid, hn⟩
set_option maxHeartbeats 4000000 in
theorem wait_none (s : St S w0 w (SO p fs q W F :: L)) (hb : q.length ≤ 1000) (id : Int) (h : ∀ f ∈ q, (f.id : Int) ≠ id) :
    Calls Try.prog 18 #[.pointer (some ⟨p, 0, none⟩), .int .i64 id] w fun e w' => e = .returned (.tuple #[.int .i64 0, .int .i64 0, .bool false]) ∧ St S w0 w' (SO p fs q W F :: L) := by
  obtain ⟨cv, qv, C, hC, s⟩ := so_open s
  have HB : Hid (q.length ≤ 1000000) := by unfold Hid; omega
  have HP := Lib.hid (pl_none h)
  have HS := Lib.hid s
  have HC := Lib.hid hC
  clear s h hC hb
  go_enter Try.func18, Try.ntmps18
  go_wp2_with (first
    | (go_at_call 20; (with_reducible refine (find_c HS.out HB.out _ _ HP.out).mono ?_); rintro e w3 ⟨rfl, s3⟩
       have H3 := Lib.hid (so_close HC.out s3)
       clear s3))
  refine bodyPost_ret ?_ rfl ⟨rfl, H3.out⟩
  simp [results, Try.results18, go_sem]
set_option maxHeartbeats 4000000 in
theorem wait_some (s : St S w0 w (SO p fs q W F :: L)) (hb : q.length ≤ 1000) (id : Int) {a b : List Fl} {f : Fl} (hq : q = a ++ f :: b) (hid : (f.id : Int) = id) (hn : ∀ g ∈ a, (g.id : Int) ≠ id) (x : Nat) (y : Int) (hx : f.wait = x) (hy : f.win = y) :
    Calls Try.prog 18 #[.pointer (some ⟨p, 0, none⟩), .int .i64 id] w fun e w' => e = .returned (.tuple #[.int .i64 (x : Int), .int .i64 y, .bool true]) ∧ St S w0 w' (SO p fs q W F :: L) := by
  subst hx hy
  obtain ⟨cv, qv, C, hC, s⟩ := so_open s
  obtain ⟨k, hk⟩ : ∃ k, a.length = k := ⟨_, rfl⟩
  have hkq : k < q.length := by rw [hq]; simp; omega
  obtain ⟨n, hn2⟩ : ∃ n, q.length = n := ⟨_, rfl⟩
  have HB : Hid (q.length ≤ 1000000) := by unfold Hid; omega
  have hp := pl_some hq hid hn
  rw [hk] at hp
  have HP := Lib.hid hp
  obtain ⟨g, o, c, rfl, hc1, hc2⟩ := see_v s (by omega)
  have HS := Lib.hid s
  have HC := Lib.hid hC
  have HQ := Lib.hid hq
  have hkn : (k : Int) < (n : Int) := by omega
  rw [hn2] at hkq hc1
  have HN := Lib.hid hn2
  have HK := Lib.hid hk
  clear s hn hC hb hp hq hid hk hn2 hc1 hc2
  go_enter Try.func18, Try.ntmps18
  go_wp2_with (first
    | (go_at_call 20; (with_reducible refine (find_c HS.out HB.out _ _ HP.out).mono ?_); rintro e w3 ⟨rfl, s3⟩
       have H3 := Lib.hid (so_close HC.out s3)
       obtain ⟨hl, z0, z1, z2, z3, _⟩ := see_s s3
       have sf := see_f s3 HQ.out
       rw [HK.out] at sf
       obtain ⟨gl, c0, c1, c2, c3, _⟩ := sf
       rw [HN.out] at z1
       clear s3))
  refine wp_region_still_lit (by kernel_rfl) (by kernel_rfl) ?_
  iterate 19 still_step
  refine wpStill_nil ?_
  go_wp2
  refine bodyPost_ret ?_ rfl ⟨rfl, H3.out.drew⟩
  simp [results, Try.results18, go_sem]
theorem open_app (hC : C.map Prod.snd = fs) (s3 : St S w0 w (SdL p cv qv C q W F L)) (id : Nat) (m : Int) (hb : q.length ≤ 1000000) :
    ∃ A' c' w5, (Builtin.append_ #[58, 58] 58 #[qv, .slice (some ⟨w.heap.size, 0, none⟩) 1 1]).run Try.prog (w.alloc (.cells #[.int .i64 (id : Int), .int .i64 m, .int .i64 0, .bool false] 63)) = .ok (.slice A' (q.length + 1) c') w5 ∧ p < w5.heap.size ∧ w5.frozen? ⟨p, 1, none⟩ = false ∧
      (∃ u, w5.cell? ⟨p, 1, none⟩ = some u) ∧ St S w0 (w5.setCell ⟨p, 1, none⟩ (.slice A' (q.length + 1) c')) (SO p fs (q ++ [⟨id, m, 0, false⟩]) W F :: L) := by
  obtain ⟨A', c', w5, hrun, s5⟩ := append_q (s3.alloc (.cells #[.int .i64 (id : Int), .int .i64 m, .int .i64 ((0 : Nat) : Int), .bool false] 63)) ⟨id, m, 0, false⟩ (c := 1) (rd_new_f (f := ⟨id, m, 0, false⟩)) hb
  have hb : Blk w5 p _ _ := St.blk0 s5
  refine ⟨A', c', w5, hrun, hb.lt, hb.frozen 1, ⟨_, hb.cell 1⟩, so_close (cv := cv) (qv := .slice A' (q.length + 1) c') hC ?_⟩
  have h := St.set0 s5 1 (.slice A' (q.length + 1) c')
  have e : (q ++ [(⟨id, m, 0, false⟩ : Fl)]).length = q.length + 1 := by simp
  rw [← e] at h ⊢
  exact h
set_option maxHeartbeats 4000000 in
theorem openS_ok (s : St S w0 w (SO p fs q W F :: L)) (hb : q.length < 1000) (id : Nat) (m : Int) (h1 : 1 ≤ id) (h2 : id ≤ 2147483647) (h3 : -2147483647 ≤ m) (h4 : m ≤ 2147483647) (hn : ∀ f ∈ q, f.id ≠ id) :
    Calls Try.prog 14 #[.pointer (some ⟨p, 0, none⟩), .int .i64 (id : Int), .int .i64 m] w fun e w' => e = .returned (.int .i64 0) ∧ St S w0 w' (SO p fs (q ++ [⟨id, m, 0, false⟩]) W F :: L) := by
  obtain ⟨cv, qv, C, hC, s⟩ := so_open s
  have HB : Hid (q.length ≤ 1000000) := by unfold Hid; omega
  have HP := Lib.hid (pl_none (q := q) (id := (id : Int)) (fun f hf e => hn f hf (by omega)))
  have HM : Hid ((decide (-2147483647 ≤ m) && decide (m ≤ 2147483647)) = true) := by unfold Hid; rw [decide_eq_true h3, decide_eq_true h4]; rfl
  have HS := Lib.hid s
  have HC := Lib.hid hC
  have hi1 : ¬ (id : Int) < 1 := by omega
  have hi2 : ¬ (2147483647 : Int) < (id : Int) := by omega
  have HI := Lib.hid h1
  clear s hC hb h1 h2 h3 h4 hn
  go_enter Try.func14, Try.ntmps14
  go_wp2_with (first
    | (go_at_call 24; (with_reducible refine (isWin_c m true HM.out).mono ?_); rintro e w3 ⟨rfl, hw⟩; subst hw)
    | (go_at_call 20; (with_reducible refine (find_c HS.out HB.out _ _ HP.out).mono ?_); rintro e w4 ⟨rfl, s3⟩
       obtain ⟨hl, z0, z1, z2, z3, zf0⟩ := see_s s3
       obtain ⟨A', c', w5, hrun, hl5, zf5, ⟨u5, z5⟩, s6⟩ := open_app HC.out s3 id m HB.out
       have HR := Lib.hid hrun
       have H6 := Lib.hid s6
       clear s3 s6 hrun zf0)
    | (at_builtin
       refine wpList_app_run rfl (.tmp 26) (.tmp 30) 58 58 rfl _ _ rfl rfl HR.out ?_))
  go_ret
  exact ⟨rfl, H6.out⟩
theorem put_st {g o c k m : Nat} {a b : List Fl} {f : Fl} (s3 : St S w0 w (SdL p cv (.slice (some ⟨g, o, none⟩) (a ++ f :: b).length c) C (a ++ f :: b) W F L)) (hk : a.length = k) (e : Bool) :
    St S w0 ((w.setCell ⟨g, o + k * 4 + 2, none⟩ (.int .i64 ((f.wait : Int) + (m : Int)))).setCell ⟨g, o + k * 4 + 3, none⟩ (.bool e)) (SdL p cv (.slice (some ⟨g, o, none⟩) (a ++ f :: b).length c) C (a ++ ⟨f.id, f.win, f.wait + m, e⟩ :: b) W F L) := by
  subst hk
  have h1 := set_f (f' := ⟨f.id, f.win, f.wait + m, f.en⟩) s3 2 (by omega) (.int .i64 ((f.wait : Int) + (m : Int))) rfl (by simp [fcell])
  have h2 := set_f (f' := ⟨f.id, f.win, f.wait + m, e⟩) h1 3 (by omega) (.bool e) rfl (by simp [fcell])
  have e1 : (a ++ f :: b).length = (a ++ (⟨f.id, f.win, f.wait + m, e⟩ : Fl) :: b).length := by simp
  rw [e1]
  exact h2
set_option maxHeartbeats 4000000 in
theorem putS_ok (s : St S w0 w (SO p fs q W F :: L)) (hb : q.length ≤ 1000) (id : Int) {a b : List Fl} {f : Fl} (hq : q = a ++ f :: b) (hid : (f.id : Int) = id) (hn : ∀ g ∈ a, (g.id : Int) ≠ id) (m : Nat) (e : Bool) (he : f.en = false) (h1 : f.wait + m ≤ 2147483647) :
    Calls Try.prog 15 #[.pointer (some ⟨p, 0, none⟩), .int .i64 id, .int .i64 (m : Int), .bool e] w fun r w' => r = .returned (.int .i64 0) ∧ St S w0 w' (SO p fs (a ++ ⟨f.id, f.win, f.wait + m, e⟩ :: b) W F :: L) := by
  obtain ⟨cv, qv, C, hC, s⟩ := so_open s
  obtain ⟨k, hk⟩ : ∃ k, a.length = k := ⟨_, rfl⟩
  have hkq : k < q.length := by rw [hq]; simp; omega
  obtain ⟨n, hn2⟩ : ∃ n, q.length = n := ⟨_, rfl⟩
  have HB : Hid (q.length ≤ 1000000) := by unfold Hid; omega
  have hp := pl_some hq hid hn
  rw [hk] at hp
  have HP := Lib.hid hp
  obtain ⟨g, o, c, rfl, hc1, hc2⟩ := see_v s (by omega)
  have HS := Lib.hid s
  have HC := Lib.hid hC
  have HQ := Lib.hid hq
  obtain ⟨wt, hwt⟩ : ∃ wt, f.wait = wt := ⟨_, rfl⟩
  have HWT := Lib.hid hwt
  rw [hwt] at h1
  have e0 := w64 (x := 2147483647 - (wt : Int)) (by omega) (by omega)
  have e1 := w64 (x := (wt : Int) + (m : Int)) (by omega) (by omega)
  have hm1 : ¬ (2147483647 : Int) < (m : Int) := by omega
  have hm2 : ¬ (2147483647 : Int) - (wt : Int) < (m : Int) := by omega
  have hm3 : ¬ (m : Int) < 0 := by omega
  have hkn : (k : Int) < (n : Int) := by omega
  rw [hn2] at hkq hc1
  have HN := Lib.hid hn2
  have HK := Lib.hid hk
  have HE := Lib.hid he
  clear s hn hC hb hp hq hid hk hn2 hc1 hc2 hwt h1 he
  go_enter Try.func15, Try.ntmps15
  go_wp2_with (first
    | (go_at_call 20; (with_reducible refine (find_c HS.out HB.out _ _ HP.out).mono ?_); rintro r w3 ⟨rfl, s3⟩
       have H3 : Hid (St S w0 ((w3.setCell ⟨g, o + k * 4 + 2, none⟩ (.int .i64 ((wt : Int) + (m : Int)))).setCell ⟨g, o + k * 4 + 3, none⟩ (.bool e)) (SO p fs (a ++ ⟨f.id, f.win, f.wait + m, e⟩ :: b) W F :: L)) := by
         unfold Hid
         have s4 := s3
         have hq := HQ.out
         subst hq
         have h := put_st (m := m) s4 HK.out e
         rw [HWT.out] at h ⊢
         exact so_close HC.out (by have e1 : (a ++ f :: b).length = (a ++ (⟨f.id, f.win, wt + m, e⟩ : Fl) :: b).length := by simp
                                   rw [e1] at h; exact h)
       obtain ⟨hl, z0, z1, z2, z3, _⟩ := see_s s3
       have sf := see_f s3 HQ.out
       rw [HK.out, HWT.out, HE.out] at sf
       obtain ⟨gl, c0, c1, c2, c3, cf⟩ := sf
       have cf2 := cf (o + k * 4 + 2)
       have cf3 := cf (o + k * 4 + 3)
       rw [HN.out] at z1
       clear s3 cf))
  go_ret
  exact ⟨rfl, H3.out⟩
/-- the connection's window -/
theorem grant0_ok (s : St S w0 w (SO p fs q W F :: L)) (n : Int) (h1 : -2147483647 ≤ W) (h2 : W ≤ 2147483647) (h3 : -2147483647 - W ≤ n) (h4 : n ≤ 2147483647 - W) :
    Calls Try.prog 10 #[.pointer (some ⟨p, 0, none⟩), .int .i64 0, .int .i64 n] w fun e w' => e = .returned (.int .i64 0) ∧ St S w0 w' (SO p fs q (W + n) F :: L) := by
  obtain ⟨cv, qv, C, hC, s⟩ := so_open s
  obtain ⟨hl, z0, z1, z2, z3, zf0⟩ := see_s s
  have Hz := Lib.hid z2
  have Hf := Lib.hid (zf0 2)
  have HS := Lib.hid (so_close hC (St.set0 s 2 (.int .i64 (W + n))))
  have H1 := Lib.hid h1
  have H2 := Lib.hid h2
  have H3 := Lib.hid h3
  have H4 := Lib.hid h4
  clear s zf0 hC h1 h2 h3 h4
  go_enter Try.func10, Try.ntmps10
  go_wp2_with (first
    | (go_at_call 19; (with_reducible refine (grant_yes Hz.out Hf.out n H1.out H2.out H3.out H4.out).mono ?_); rintro e w3 ⟨rfl, hw⟩; subst hw))
  go_ret
  exact ⟨rfl, HS.out⟩
set_option maxHeartbeats 4000000 in
theorem grantS_none (s : St S w0 w (SO p fs q W F :: L)) (hb : q.length ≤ 1000) (id : Int) (hi : ¬ id = 0) (h : ∀ f ∈ q, (f.id : Int) ≠ id) (n : Int) :
    Calls Try.prog 10 #[.pointer (some ⟨p, 0, none⟩), .int .i64 id, .int .i64 n] w fun e w' => e = .returned (.int .i64 6) ∧ St S w0 w' (SO p fs q W F :: L) := by
  obtain ⟨cv, qv, C, hC, s⟩ := so_open s
  have HB : Hid (q.length ≤ 1000000) := by unfold Hid; omega
  have HP := Lib.hid (pl_none h)
  have HS := Lib.hid s
  have HC := Lib.hid hC
  have hi2 : (id == 0) = false := by simpa using hi
  clear s h hC hb hi
  go_enter Try.func10, Try.ntmps10
  go_wp2_with (first
    | (go_at_call 20; (with_reducible refine (find_c HS.out HB.out _ _ HP.out).mono ?_); rintro e w3 ⟨rfl, s3⟩
       have H3 := Lib.hid (so_close HC.out s3)
       clear s3))
  go_ret
  exact ⟨rfl, H3.out⟩
set_option maxHeartbeats 4000000 in
theorem grantS_ok (s : St S w0 w (SO p fs q W F :: L)) (hb : q.length ≤ 1000) (id : Int) (hi : ¬ id = 0) {a b : List Fl} {f : Fl} (hq : q = a ++ f :: b) (hid : (f.id : Int) = id) (hn : ∀ g ∈ a, (g.id : Int) ≠ id) (n : Int) (h1 : -2147483647 ≤ f.win) (h2 : f.win ≤ 2147483647) (h3 : -2147483647 - f.win ≤ n) (h4 : n ≤ 2147483647 - f.win) :
    Calls Try.prog 10 #[.pointer (some ⟨p, 0, none⟩), .int .i64 id, .int .i64 n] w fun r w' => r = .returned (.int .i64 0) ∧ St S w0 w' (SO p fs (a ++ ⟨f.id, f.win + n, f.wait, f.en⟩ :: b) W F :: L) := by
  obtain ⟨cv, qv, C, hC, s⟩ := so_open s
  obtain ⟨k, hk⟩ : ∃ k, a.length = k := ⟨_, rfl⟩
  have hkq : k < q.length := by rw [hq]; simp; omega
  obtain ⟨m, hn2⟩ : ∃ m, q.length = m := ⟨_, rfl⟩
  have HB : Hid (q.length ≤ 1000000) := by unfold Hid; omega
  have hp := pl_some hq hid hn
  rw [hk] at hp
  have HP := Lib.hid hp
  obtain ⟨g, o, c, rfl, hc1, hc2⟩ := see_v s (by omega)
  have HS := Lib.hid s
  have HC := Lib.hid hC
  have HQ := Lib.hid hq
  obtain ⟨wn, hwn⟩ : ∃ wn, f.win = wn := ⟨_, rfl⟩
  have HWN := Lib.hid hwn
  rw [hwn] at h1 h2 h3 h4
  have H1 := Lib.hid h1
  have H2 := Lib.hid h2
  have H3 := Lib.hid h3
  have H4 := Lib.hid h4
  have hkn : (k : Int) < (m : Int) := by omega
  rw [hn2] at hkq hc1
  have HN := Lib.hid hn2
  have HK := Lib.hid hk
  have hi2 : (id == 0) = false := by simpa using hi
  clear s hn hC hb hp hq hid hk hn2 hc1 hc2 hwn h1 h2 h3 h4 hi
  go_enter Try.func10, Try.ntmps10
  go_wp2_with (first
    | (go_at_call 20; (with_reducible refine (find_c HS.out HB.out _ _ HP.out).mono ?_); rintro r w3 ⟨rfl, s3⟩
       have H9 : Hid (St S w0 (w3.setCell ⟨g, o + k * 4 + 1, none⟩ (.int .i64 (wn + n))) (SO p fs (a ++ ⟨f.id, f.win + n, f.wait, f.en⟩ :: b) W F :: L)) := by
         unfold Hid
         have s4 := s3
         have hq := HQ.out
         subst hq
         have h := set_f (f' := ⟨f.id, wn + n, f.wait, f.en⟩) s4 1 (by omega) (.int .i64 (wn + n)) rfl (by simp [fcell])
         rw [HK.out] at h
         rw [HWN.out]
         exact so_close HC.out h
       obtain ⟨hl, z0, z1, z2, z3, _⟩ := see_s s3
       have sf := see_f s3 HQ.out
       rw [HK.out, HWN.out] at sf
       obtain ⟨gl, c0, c1, c2, c3, cf⟩ := sf
       have C1 := Lib.hid c1
       have C1f := Lib.hid (cf (o + k * 4 + 1))
       rw [HN.out] at z1
       clear s3 cf)
    | (go_at_call 19; (with_reducible refine (grant_yes C1.out C1f.out n H1.out H2.out H3.out H4.out).mono ?_); rintro e w4 ⟨rfl, hw⟩; subst hw))
  go_ret
  exact ⟨rfl, H9.out⟩
end
end Go.Proofs.Ytbjjphpkpmikjaa
