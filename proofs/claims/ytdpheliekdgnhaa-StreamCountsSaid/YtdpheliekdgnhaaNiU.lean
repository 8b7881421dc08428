/- The law StreamCounts: the walk. -/
import Derived.Test.YtdpheliekdgnhaaNiR
namespace Go.Proofs.Ytdpheliekdgnhaa
open Go.RowKit Go.Own Go.Sm
set_option linter.unusedVariables false
set_option linter.unusedSimpArgs false
set_option maxRecDepth 100000
theorem active_l {S : Nat → Prop} {w0 w : World} {L : List Ob} {p b1 b2 : Nat} {x : Idv} (s : St S w0 w (IdL p b1 b2 x L)) (a c : Int) (ha : (x.th.length : Int) = a) (hc : (x.ou.length : Int) = c) : Calls Try.prog 27 #[.pointer (some ⟨p, 0, none⟩)] w fun e w' => e = .returned (.tuple #[.int .i64 a, .int .i64 c]) ∧ ∃ n, w' = w.drewN n := by
  subst ha hc
  exact active_c s
theorem Mix.notIn {x : Idv} {l : List Int} (h : Mix x l) {z : Int} (h1 : ¬ z ∈ x.th) (h2 : thB x.srv z = true) : ¬ z ∈ l := fun hm => h1 (by rw [h.th]; exact List.mem_filter.2 ⟨hm, h2⟩)
theorem Mix.notIn2 {x : Idv} {l : List Int} (h : Mix x l) {z : Int} (h1 : ¬ z ∈ x.ou) (h2 : thB x.srv z = false) : ¬ z ∈ l := fun hm => h1 (by rw [h.ou]; exact List.mem_filter.2 ⟨hm, by simp [h2]⟩)
theorem Mix.len {x : Idv} {l : List Int} (h : Mix x l) : x.th.length + x.ou.length = l.length := by
  rw [h.th, h.ou]
  exact filter_two _ _
theorem out9_at {z : Int} : ∀ {l : List Int} {m : Nat}, l.Nodup → l[m]? = some z → out9 z l = l.take m ++ l.drop (m + 1)
  | [], m, _, h => by simp at h
  | y :: l, 0, hn, h => by
    obtain rfl : y = z := by simpa using h
    have hy := (List.nodup_cons.1 hn).1
    have e := out9_not hy
    unfold out9 at e ⊢
    simp only [List.filter_cons, ne_eq, not_true_eq_false, decide_false, Bool.false_eq_true, if_false, List.take_zero, List.nil_append, List.drop_succ_cons, List.drop_zero]
    simpa using e
  | y :: l, m + 1, hn, h => by
    have hz : z ∈ l := List.mem_of_getElem? (by simpa using h)
    have hne : ¬ y = z := fun e => (List.nodup_cons.1 hn).1 (e ▸ hz)
    have ih := out9_at (m := m) (List.nodup_cons.1 hn).2 (by simpa using h)
    unfold out9 at ih ⊢
    simp only [List.filter_cons, ne_eq, hne, not_false_eq_true, decide_true, if_true, List.take_succ_cons, List.drop_succ_cons, List.cons_append]
    simp only [ne_eq] at ih
    rw [ih]
theorem nodup_snoc {l : List Int} {z : Int} (h : l.Nodup) (hz : ¬ z ∈ l) : (l ++ [z]).Nodup := by
  rw [List.nodup_append]
  refine ⟨h, by simp, ?_⟩
  intro a ha c hc
  obtain rfl : c = z := by simpa using hc
  rintro rfl
  exact hz ha
theorem wrap9 {z : Int} (h : -9223372036854775808 ≤ z ∧ z ≤ 9223372036854775807) : IntKind.i64.wrap z = z := by rw [IntKind.wrap_i64]; omega
theorem rd_take {w : World} {A : Option Addr} {n m : Nat} {l : List Int} (h : Rd w 1 A n (intC l)) (hm : m ≤ n) : Rd w 1 A m (intC (l.take m)) := by
  have hl : l.length = n := by have := h.1; simpa [intC] using this
  refine ⟨by simp [intC, hl]; omega, fun h0 => ?_⟩
  obtain ⟨b, o, hA, hc⟩ := h.2 (by omega)
  refine ⟨b, o, hA, fun j v hv => hc j v ?_⟩
  unfold intC at hv ⊢
  rw [List.map_take, List.getElem?_take] at hv
  split at hv
  · exact hv
  · cases hv
theorem rd_drop {w : World} {b : Nat} {n m m2 : Nat} {l : List Int} (h : Rd w 1 (some ⟨b, 0, none⟩) n (intC l)) (h2 : n - (m + 1) = m2) (hm : m < n) : Rd w 1 (some ⟨b, m + 1, none⟩) m2 (intC (l.drop (m + 1))) := by
  have hl : l.length = n := by have := h.1; simpa [intC] using this
  refine ⟨by simp [intC, hl]; omega, fun h0 => ?_⟩
  obtain ⟨b', o, hA, hc⟩ := h.2 (by omega)
  injection hA with hA
  injection hA with e1 e2 e3
  subst e1 e2
  refine ⟨b, m + 1, rfl, fun j v hv => ?_⟩
  have := hc (m + 1 + j) v (by
    unfold intC at hv ⊢
    rw [List.map_drop, List.getElem?_drop] at hv
    exact hv)
  simpa using this
theorem rd_drop0 {w : World} {b : Nat} {n m m2 : Nat} {l : List Int} (h : Rd w 1 (some ⟨b, 0, none⟩) n (intC l)) (h2 : n - (m + 1) = m2) (hm : n ≤ m + 1) : Rd w 1 (some ⟨b, 0, none⟩) m2 (intC (l.drop (m + 1))) := by
  have hl : l.length = n := by have := h.1; simpa [intC] using this
  refine ⟨by simp [intC, hl]; omega, fun h0 => ?_⟩
  omega
theorem pos_le (n : Int) : n ≤ posV n := by
  unfold posV
  split <;> omega
theorem pos_lt {n : Int} {m : Int} (h0 : 0 ≤ m) (h : m < posV n) : m < n := by
  unfold posV at h
  split at h <;> omega
set_option maxHeartbeats 16000000 in
theorem lawCounts {w : World} (b : Bool) (mo : Int) (hmo : i64i mo) {A : Option Addr} {n c : Nat} (hl : HoldsT Try.prog w 9 42 [.slice A n c]) :
    Calls Try.prog 8 #[.bool b, .int .i64 mo, .slice A n c] w fun e w' => e = .returned (.bool true) ∧ Below w.heap.size w w' := by
  obtain ⟨x0, hx0⟩ : ∃ x, newI b mo = x := ⟨_, rfl⟩
  have h0 := newI_ok b mo
  have hm0 : Mix x0 [] := by subst hx0; exact ⟨rfl, rfl, fun y h => by cases h⟩
  have hr0 : x0.srv = b ∧ x0.most = posV mo ∧ x0.lim = posV 2147483647 ∧ x0.th.length = 0 := by subst hx0; exact ⟨rfl, rfl, by show (2147483647 : Int) = posV 2147483647; decide, rfl⟩
  rw [hx0] at h0
  have HN := Lib.hid hx0
  have H0 := Lib.hid h0
  have M0 := Lib.hid hm0
  have R0 := Lib.hid hr0
  have HL := Lib.hid hl
  obtain ⟨hnc, hcm, _⟩ := HoldsT.slice (d := 8) Try.underlying42 hl
  clear hl h0 hm0 hx0 hmo hr0
  go_enter Try.func8, Try.ntmps8
  go_wp2_with (first
    | (go_at_call 9; (with_reducible refine (shown_c _).mono ?_); rintro e w1 ⟨rfl, b1⟩; have B1 := Lib.hid b1; clear b1)
    | (go_at_call 13; (with_reducible refine (new_c _ b mo _ HN.out).mono ?_); rintro e w2 ⟨p, s1, s2, rfl, t1⟩
       have t2 : St (fun _ => False) w1 w2 (IdL p s1 s2 x0 [SLo 0 3 1 (.slice none 0 0) 0 (intC [])]) := St.add t1 (M := [SLo 0 3 1 (.slice none 0 0) 0 []]) (by
         exact ⟨⟨_, ⟨fun _ => False, _, framed_SLo .., ⟨World.ownsRow_nil _ _ _ _, by funext i; simp [Value.ownBlock]⟩, rfl, fun _ h => h.elim, rfl⟩, fun i hi => by rcases hi with hi | hi <;> exact hi.elim⟩, Fr.refl _ _⟩)
       have T1 := Lib.hid t2
       clear t1 t2))
  go_loopg [12, 10, 11, 9, 1] (min n 100) (fun gh i v tt li mm w' => ∃ (k : Nat) (x : Idv) (A' : Option Addr) (c' : Nat) (l : List Int) (T M1 L1 : Int), gh + k = min n 100 ∧ i = .int .i64 (k : Int) ∧ v = .slice A' l.length c' ∧ tt = .int .i64 T ∧ li = .int .i64 L1 ∧ mm = .int .i64 M1 ∧
      (T = (x.th.length : Int) ∧ x.most = posV M1 ∧ x.lim = posV L1 ∧ x.srv = b ∧ l.Nodup) ∧ IdOk x k ∧ Mix x l ∧ St (fun _ => False) w1 w' (IdL p s1 s2 x [SLo 0 3 1 (.slice A' l.length c') l.length (intC l)]))
  case atStart => exact ⟨0, x0, none, 0, [], 0, mo, 2147483647, by omega, rfl, rfl, rfl, rfl, rfl, ⟨by rw [R0.out.2.2.2]; rfl, R0.out.2.1, R0.out.2.2.1, R0.out.1, List.nodup_nil⟩, H0.out, M0.out, T1.out⟩
  case round =>
    obtain ⟨k, x, A', c', l, T, M1, L1, hk, rfl, rfl, rfl, rfl, rfl, ⟨hT, hM, hLi, hsrv, hnd⟩, hok, hmix, hs⟩ := hrel
    have HS := Lib.hid hs
    have b2 := B1.out.trans (hs.below.mono B1.out.size)
    have B2 := Lib.hid b2
    clear hs
    cases gk with
    | zero =>
      have hk2 : (k = n ∧ ¬ k < n) ∨ (k < n ∧ k = 100) := by omega
      clear hk b2 hok hmix hT hM hLi hsrv hnd
      rcases hk2 with ⟨rfl, h1⟩ | ⟨h1, rfl⟩
      all_goals
        go_wp2
        go_ret
        exact ⟨rfl, B2.out⟩
    | succ g1 =>
      have k1 : k < n := by omega
      have k2 : k < 100 := by omega
      obtain ⟨bl, o, kd, z, rfl, d0, d1, hkd, hz⟩ := op_at HL.out (i := k) k1
      have e0 := cell_to b2 d0
      have e1 := cell_to b2 d1
      have HZ := Lib.hid hz
      have HO := Lib.hid hok
      have HM := Lib.hid hmix
      have hsz := hok.sz
      have hlen := hmix.len
      have HT : Hid (x.th.length < 1000000) := by unfold Hid; omega
      have HU : Hid (x.ou.length < 1000000) := by unfold Hid; omega
      have HB : Hid (l.length < 1000000) := by unfold Hid; omega
      have HR := Lib.hid (And.intro hT (And.intro hM (And.intro hLi (And.intro hsrv hnd))))
      have HLE := Lib.hid hlen
      have hTb : 0 ≤ T ∧ T ≤ 100 := by omega
      obtain ⟨C, hC⟩ : ∃ C : Int, (x.ou.length : Int) = C := ⟨_, rfl⟩
      have ez : IntKind.i64.wrap ((l.length : Int) - T) = C := by rw [wrap9 (by omega)]; omega
      have HCC := Lib.hid hC
      clear hz hkd d0 d1 hok hmix
      have hkd : kd = 1 ∨ (¬ kd = 1 ∧ kd = 2) ∨ (¬ kd = 1 ∧ ¬ kd = 2 ∧ kd = 3) ∨ (¬ kd = 1 ∧ ¬ kd = 2 ∧ ¬ kd = 3 ∧ kd = 4) ∨ (¬ kd = 1 ∧ ¬ kd = 2 ∧ ¬ kd = 3 ∧ ¬ kd = 4 ∧ kd = 5) ∨ (¬ kd = 1 ∧ ¬ kd = 2 ∧ ¬ kd = 3 ∧ ¬ kd = 4 ∧ ¬ kd = 5) := by omega
      rcases hkd with rfl | ⟨h1, rfl⟩ | ⟨h1, h2, rfl⟩ | ⟨h1, h2, h3, rfl⟩ | ⟨h1, h2, h3, h4, rfl⟩ | ⟨h1, h2, h3, h4, h5⟩
      · as_aux_lemma =>
        have ways := class_ways x z _ _ rfl rfl
        obtain ⟨y, hy⟩ : ∃ y, openS x z = y := ⟨_, rfl⟩
        obtain ⟨f, hf⟩ : ∃ f, openF x z = f := ⟨_, rfl⟩
        have hoy := (HO.out.open_ z)
        have hmy := HM.out.open_ z
        rw [hy] at hoy hmy
        rw [hy, hf] at ways
        have HY := Lib.hid hy
        have HOY := Lib.hid hoy
        have HNW : Hid (classV x z = 1 → ¬ z ∈ x.th) := fun h => HO.out.openNew h
        rcases ways with ⟨cl, q1, q2, rfl, q3⟩ | ⟨q1, q2, rfl, q3⟩ | ⟨q1, q2, rfl, q3⟩
        · as_aux_lemma =>
          have HF := Lib.hid hf
          have HA : Hid ((y.th.length : Int) = T) := by unfold Hid; rw [q3, hT]
          have HC : Hid ((y.ou.length : Int) = C) := by unfold Hid; rw [q3]; exact HCC.out
          subst q3
          clear hf hy hoy hmy q1 q2 hsz hlen hT hM hLi hsrv hC hnd
          go_wp2_with (first
            | (go_at_call 15; (with_reducible refine (open_l HS.out z HZ.out _ _ _ _ HF.out HY.out HT.out HNW.out).mono ?_); rintro e w4 ⟨rfl, t4⟩
               have S5 := Lib.hid (St.alloc t4 (.cells #[.bool true, .int .u32 1, .int .i64 0] 50))
               clear t4)
            | (go_at_call 27; (with_reducible refine (active_l S5.out _ _ HA.out HC.out).mono ?_); rintro e w6 ⟨rfl, n6, hw6⟩
               have S6 := Lib.hid (St.drewN S5.out n6)
               rw [← hw6] at S6
               clear hw6))
          go_roundg g1
          case measure => omega
          case rel => exact ⟨k + 1, y, _, _, l, T, M1, L1, by omega, by go_num, rfl, rfl, rfl, rfl, HR.out, HOY.out.1, HM.out, S6.out⟩
        · as_aux_lemma =>
          have HF := Lib.hid hf
          obtain ⟨v1, v2, v3, v4⟩ := class_one q1
          have z0 : (z != 0) = true := by simp; omega
          have z1 : ¬ T < M1 := by have := pos_le M1; rw [hM] at q2; omega
          have HA : Hid ((y.th.length : Int) = T) := by unfold Hid; rw [q3]; exact hT.symm
          have HC : Hid ((y.ou.length : Int) = C) := by unfold Hid; rw [q3]; exact HCC.out
          have HMY : Hid (Mix y l) := by unfold Hid; rw [q3]; exact ⟨HM.out.th, HM.out.ou, HM.out.pos⟩
          have HRY : Hid (T = (y.th.length : Int) ∧ y.most = posV M1 ∧ y.lim = posV L1 ∧ y.srv = b ∧ l.Nodup) := by unfold Hid; rw [q3]; exact HR.out
          clear hf hy hoy hmy q1 q2 q3 v1 v2 v3 v4 hsz hlen hT hM hLi hsrv hC hnd
          go_wp2_with (first
            | (go_at_call 15; (with_reducible refine (open_l HS.out z HZ.out _ _ _ _ HF.out HY.out HT.out HNW.out).mono ?_); rintro e w4 ⟨rfl, t4⟩
               have S5 := Lib.hid (St.alloc t4 (.cells #[.bool true, .int .u32 7, .int .i64 z] 50))
               clear t4)
            | (go_at_call 27; (with_reducible refine (active_l S5.out _ _ HA.out HC.out).mono ?_); rintro e w6 ⟨rfl, n6, hw6⟩
               have S6 := Lib.hid (St.drewN S5.out n6)
               rw [← hw6] at S6
               clear hw6))
          go_roundg g1
          case measure => omega
          case rel => exact ⟨k + 1, y, _, _, l, T, M1, L1, by omega, by go_num, rfl, rfl, rfl, rfl, HRY.out, HOY.out.1, HMY.out, S6.out⟩
        · as_aux_lemma =>
          have HF := Lib.hid hf
          obtain ⟨v1, v2, v3, v4⟩ := class_one q1
          have hzl : ¬ z ∈ l := HM.out.notIn (HO.out.openNew q1) v3
          have hnd2 := nodup_snoc hnd hzl
          have ey : openL x z l = l ++ [z] := by unfold openL; rw [if_pos q1, if_neg q2]
          rw [ey] at hmy
          have z1 : ¬ M1 < T + 1 := by rw [hM] at q2; have := pos_lt (n := M1) (m := T) hTb.1 (by omega); omega
          have e3 : IntKind.i64.wrap (T + 1) = T + 1 := wrap9 (by omega)
          have e4 : IntKind.i64.wrap ((l.length : Int) + 1 - (T + 1)) = C := by rw [wrap9 (by omega)]; omega
          have HA : Hid ((y.th.length : Int) = T + 1) := by unfold Hid; rw [q3]; simp; exact hT.symm
          have HC : Hid ((y.ou.length : Int) = C) := by unfold Hid; rw [q3]; exact HCC.out
          have HMY := Lib.hid hmy
          have HRY : Hid (T + 1 = (y.th.length : Int) ∧ y.most = posV M1 ∧ y.lim = posV L1 ∧ y.srv = b ∧ (l ++ [z]).Nodup) := by unfold Hid; exact ⟨HA.out.symm, by rw [q3]; exact hM, by rw [q3]; exact hLi, by rw [q3]; exact hsrv, hnd2⟩
          clear hf hy hoy hmy q1 q2 q3 v1 v2 v3 v4 hsz hlen hT hM hLi hsrv hC hnd hnd2 hzl ey
          go_wp2_with (first
            | (go_at_call 15; (with_reducible refine (open_l HS.out z HZ.out _ _ _ _ HF.out HY.out HT.out HNW.out).mono ?_); rintro e w4 ⟨rfl, t4⟩
               have T4 := Lib.hid (St.alloc (St.alloc t4 (.cells #[.bool false, .int .u32 0, .int .i64 0] 50)) (.cells #[.int .i64 z] 3))
               have X4 := Lib.hid (rd_one9 (Blk.new (w4.alloc (.cells #[.bool false, .int .u32 0, .int .i64 0] 50)) 3 [.int .i64 z]))
               clear t4)
            | (at_builtin
               refine wpList_append_rd rfl (.tmp 57) (.tmp 59) 40 rfl EI (.slice A' l.length c') l.length (intC l) rfl (St.own3 T4.out) (some ⟨w4.heap.size + 1, 0, none⟩) 1 1 (intC [z]) rfl (by simpa using X4.out) (intC_one _) (by have := HB.out; omega) (by have := HB.out; unfold maxLen; omega) (Nat.zero_le _) ?_
               intro A6 c6 w5 ho6 hf6 h26
               rw [← intC_append] at ho6
               have S5 := Lib.hid (St.appended3 T4.out ho6 hf6 h26)
               clear ho6 hf6 h26)
            | (go_at_call 27; (with_reducible refine (active_l S5.out _ _ HA.out HC.out).mono ?_); rintro e w6 ⟨rfl, n6, hw6⟩
               have S6 := Lib.hid (St.drewN S5.out n6)
               rw [← hw6] at S6
               clear hw6))
          go_roundg g1
          case measure => omega
          case rel => exact ⟨k + 1, y, A6, c6, l ++ [z], T + 1, M1, L1, by omega, by go_num, by rw [List.length_append]; rfl, rfl, rfl, rfl, HRY.out, HOY.out.1, HMY.out, by rw [List.length_append]; exact S6.out⟩
      · as_aux_lemma =>
        obtain ⟨a, f, hf⟩ : ∃ a f, nextV x = (a, f) := ⟨_, _, rfl⟩
        have ways := next_ways x a f _ hf rfl
        obtain ⟨y, hy⟩ : ∃ y, nextS x = y := ⟨_, rfl⟩
        have hoy := HO.out.next_
        have hmy := HM.out.next_ HO.out
        rw [hy] at hoy hmy ways
        have HY := Lib.hid hy
        have HF := Lib.hid hf
        have HOY := Lib.hid hoy
        have HNN := Lib.hid HO.out.nextNew
        have hn := HO.out.nx
        have HN0 : Hid (0 ≤ x.next) := by unfold Hid; omega
        rcases ways with ⟨q1, rfl, rfl, q3⟩ | ⟨q1, q2, rfl, rfl, q3⟩ | ⟨q1, q2, rfl, rfl, q3⟩
        · as_aux_lemma =>
          have HA : Hid ((y.th.length : Int) = T) := by unfold Hid; rw [q3, hT]
          have HC : Hid ((y.ou.length : Int) = C) := by unfold Hid; rw [q3]; exact HCC.out
          have z1 : ¬ C < L1 := by have := pos_le L1; rw [hLi] at q1; omega
          subst q3
          clear hf hy hoy hmy q1 hn hsz hlen hT hM hLi hsrv hC hnd
          go_wp2_with (first
            | (go_at_call 17; (with_reducible refine (next_c HS.out _ _ _ HF.out HY.out HU.out HNN.out HN0.out).mono ?_); rintro e w4 ⟨rfl, t4⟩
               have S5 := Lib.hid t4
               clear t4)
            | (go_at_call 27; (with_reducible refine (active_l S5.out _ _ HA.out HC.out).mono ?_); rintro e w6 ⟨rfl, n6, hw6⟩
               have S6 := Lib.hid (St.drewN S5.out n6)
               rw [← hw6] at S6
               clear hw6))
          go_roundg g1
          case measure => omega
          case rel => exact ⟨k + 1, y, _, _, l, T, M1, L1, by omega, by go_num, rfl, rfl, rfl, rfl, HR.out, HOY.out.1, HM.out, S6.out⟩
        · as_aux_lemma =>
          have HA : Hid ((y.th.length : Int) = T) := by unfold Hid; rw [q3, hT]
          have HC : Hid ((y.ou.length : Int) = C) := by unfold Hid; rw [q3]; exact HCC.out
          have z1 : True := trivial
          subst q3
          clear hf hy hoy hmy q1 hn hsz hlen hT hM hLi hsrv hC hnd
          go_wp2_with (first
            | (go_at_call 17; (with_reducible refine (next_c HS.out _ _ _ HF.out HY.out HU.out HNN.out HN0.out).mono ?_); rintro e w4 ⟨rfl, t4⟩
               have S5 := Lib.hid t4
               clear t4)
            | (go_at_call 27; (with_reducible refine (active_l S5.out _ _ HA.out HC.out).mono ?_); rintro e w6 ⟨rfl, n6, hw6⟩
               have S6 := Lib.hid (St.drewN S5.out n6)
               rw [← hw6] at S6
               clear hw6))
          go_roundg g1
          case measure => omega
          case rel => exact ⟨k + 1, y, _, _, l, T, M1, L1, by omega, by go_num, rfl, rfl, rfl, rfl, HR.out, HOY.out.1, HM.out, S6.out⟩
        · as_aux_lemma =>
          have hzl : ¬ x.next ∈ l := HM.out.notIn2 HO.out.nextNew hn.2.2
          have hnd2 := nodup_snoc hnd hzl
          have ey : nextL x l = l ++ [x.next] := by unfold nextL; rw [if_neg q1, if_neg q2]
          rw [ey] at hmy
          have z1 : ¬ L1 < C + 1 := by rw [hLi] at q1; have := pos_lt (n := L1) (m := (x.ou.length : Int)) (by omega) (by omega); omega
          have e4 : IntKind.i64.wrap ((l.length : Int) + 1 - T) = C + 1 := by rw [wrap9 (by omega)]; omega
          have HA : Hid ((y.th.length : Int) = T) := by unfold Hid; rw [q3]; exact hT.symm
          have HC : Hid ((y.ou.length : Int) = C + 1) := by unfold Hid; rw [q3]; simp; exact HCC.out
          have HMY := Lib.hid hmy
          have HRY : Hid (T = (y.th.length : Int) ∧ y.most = posV M1 ∧ y.lim = posV L1 ∧ y.srv = b ∧ (l ++ [x.next]).Nodup) := by unfold Hid; exact ⟨HA.out.symm, by rw [q3]; exact hM, by rw [q3]; exact hLi, by rw [q3]; exact hsrv, hnd2⟩
          clear hf hy hoy hmy q1 q2 q3 hn hsz hlen hT hM hLi hsrv hC hnd hnd2 hzl ey
          go_wp2_with (first
            | (go_at_call 17; (with_reducible refine (next_c HS.out _ _ _ HF.out HY.out HU.out HNN.out HN0.out).mono ?_); rintro e w4 ⟨rfl, t4⟩
               have T4 := Lib.hid (St.alloc t4 (.cells #[.int .i64 x.next] 3))
               have X4 := Lib.hid (rd_one9 (Blk.new w4 3 [.int .i64 x.next]))
               clear t4)
            | (at_builtin
               refine wpList_append_rd rfl (.tmp 94) (.tmp 96) 40 rfl EI (.slice A' l.length c') l.length (intC l) rfl (St.own3 T4.out) (some ⟨w4.heap.size, 0, none⟩) 1 1 (intC [x.next]) rfl X4.out (intC_one _) (by have := HB.out; omega) (by have := HB.out; unfold maxLen; omega) (Nat.zero_le _) ?_
               intro A6 c6 w5 ho6 hf6 h26
               rw [← intC_append] at ho6
               have S5 := Lib.hid (St.appended3 T4.out ho6 hf6 h26)
               clear ho6 hf6 h26)
            | (go_at_call 27; (with_reducible refine (active_l S5.out _ _ HA.out HC.out).mono ?_); rintro e w6 ⟨rfl, n6, hw6⟩
               have S6 := Lib.hid (St.drewN S5.out n6)
               rw [← hw6] at S6
               clear hw6))
          go_roundg g1
          case measure => omega
          case rel => exact ⟨k + 1, y, A6, c6, l ++ [x.next], T, M1, L1, by omega, by go_num, by rw [List.length_append]; rfl, rfl, rfl, rfl, HRY.out, HOY.out.1, HMY.out, by rw [List.length_append]; exact S6.out⟩
      · as_aux_lemma =>
        go_wp2
        go_loopg [18, 17] l.length (fun gh i at' w' => ∃ (j : Nat) (a : Int), gh + j = l.length ∧ i = .int .i64 (j : Int) ∧ at' = .int .i64 a ∧ ((a = -1 ∧ ¬ z ∈ l.take j) ∨ ∃ m : Nat, a = (m : Int) ∧ m < j ∧ l[m]? = some z) ∧ w' = wr)
        case atStart => exact ⟨0, -1, by omega, rfl, rfl, .inl ⟨rfl, by simp⟩, rfl⟩
        case round =>
          obtain ⟨j, a, hj, rfl, rfl, hat, rfl⟩ := hrel
          have HAT := Lib.hid hat
          clear hat
          cases gk with
          | succ g2 =>
            have j1 : j < l.length := by omega
            obtain ⟨b5, o5, u5, hA5, hu5, d5⟩ := (Rd.of_own (St.own3 HS.out)).at_ j1
            rw [intC_at j1] at hu5
            cases hu5
            subst hA5
            obtain ⟨y0, hy0⟩ : ∃ y0, l[j] = y0 := ⟨_, rfl⟩
            rw [hy0] at d5
            have HY0 := Lib.hid hy0
            have HJ := Lib.hid j1
            clear hy0
            by_cases hyz : y0 = z
            · subst hyz
              go_wp2
              go_roundg g2
              case measure => omega
              case rel => exact ⟨j + 1, (j : Int), by omega, by go_num, rfl, .inr ⟨j, rfl, by omega, by rw [List.getElem?_eq_getElem HJ.out, HY0.out]⟩, rfl⟩
            · have hyb : (y0 == z) = false := by simpa using hyz
              have HYZ := Lib.hid hyz
              clear hyz
              go_wp2
              go_roundg g2
              case measure => omega
              case rel =>
                refine ⟨j + 1, a, by omega, by go_num, rfl, ?_, rfl⟩
                rcases HAT.out with ⟨q1, q2⟩ | ⟨m, q1, q2, q3⟩
                · refine .inl ⟨q1, ?_⟩
                  rw [List.take_succ_eq_append_getElem HJ.out, HY0.out]
                  intro hm
                  rcases List.mem_append.1 hm with hm | hm
                  · exact q2 hm
                  · exact HYZ.out ((by simpa using hm : z = y0).symm)
                · exact .inr ⟨m, q1, by omega, q3⟩
          | zero =>
            obtain rfl : j = l.length := by omega
            have hE := HM.out.closeE z
            have hat := HAT.out
            rw [List.take_length] at hat
            obtain ⟨E, hE0⟩ : ∃ E, closeE x z = E := ⟨_, rfl⟩
            obtain ⟨y, hy⟩ : ∃ y, closeS x z = y := ⟨_, rfl⟩
            have hoy := HO.out.close_ z
            have hmy := HM.out.close z
            rw [hy] at hoy hmy
            rw [hE0] at hE
            have HE := Lib.hid hE0
            have HY := Lib.hid hy
            have HOY := Lib.hid (hoy.1.mono (Nat.le_succ k))
            rcases hat with ⟨rfl, q2⟩ | ⟨m, rfl, q2, q3⟩
            · rw [if_neg q2] at hE
              subst hE
              have ey : y = x := by rw [← hy, HM.out.close_not q2]
              have HA : Hid ((y.th.length : Int) = T) := by unfold Hid; rw [ey, hT]
              have HC : Hid ((y.ou.length : Int) = C) := by unfold Hid; rw [ey]; exact HCC.out
              subst ey
              clear HAT hE0 hy hoy hmy q2 hj hsz hlen hT hM hLi hsrv hC hnd
              go_wp2_with (first
                | (go_at_call 19; (with_reducible refine (close_c HS.out z HZ.out _ _ HE.out HY.out).mono ?_); rintro e w4 ⟨rfl, t4⟩
                   have S5 := Lib.hid t4
                   clear t4)
                | (go_at_call 27; (with_reducible refine (active_l S5.out _ _ HA.out HC.out).mono ?_); rintro e w6 ⟨rfl, n6, hw6⟩
                   have S6 := Lib.hid (St.drewN S5.out n6)
                   rw [← hw6] at S6
                   clear hw6))
              go_roundg g1
              case measure => omega
              case rel => exact ⟨k + 1, y, _, _, l, T, M1, L1, by omega, by go_num, rfl, rfl, rfl, rfl, HR.out, HOY.out, HM.out, S6.out⟩
            · have hzl : z ∈ l := List.mem_of_getElem? q3
              rw [if_pos hzl] at hE
              subst hE
              have hz1 := HM.out.pos z hzl
              have hml : m < l.length := q2
              have eo := out9_at hnd q3
              have el := len_out9 (x := z) hnd
              rw [if_pos hzl] at el
              obtain ⟨t, ht⟩ : ∃ t, thB x.srv z = t := ⟨_, rfl⟩
              have et1 : ((z.tmod 2 == 1) == b) = t := by rw [thB_pos (by omega), ← hsrv, ht]
              have et2 : ((z % 2 == 1) == b) = t := by rw [Int.tmod_eq_emod_of_nonneg (by omega)] at et1; exact et1
              have hmd : m + (l.length - (m + 1)) + 1 = l.length := by omega
              obtain ⟨b5, o5, u5, hA5, hu5, d5⟩ := (Rd.of_own (St.own3 HS.out)).at_ hml
              subst hA5
              obtain ⟨A9, n9, h9, h10, h11, h12⟩ := own_shape (St.own3 HS.out)
              have h9' : c' = n9 := by injection h9
              subst h9'
              have h13 : (⟨b5, o5, none⟩ : Addr).off = 0 := by
                injection h9 with h9 _ _
                rw [← h9] at h12
                exact (h12.2 _ rfl).1
              simp only at h13
              subst h13
              obtain ⟨m2, hm2⟩ : ∃ m2, l.length - (m + 1) = m2 := ⟨_, rfl⟩
              have HM2 := Lib.hid hm2
              have HML := Lib.hid hml
              have HMD : Hid (m + m2 + 1 = l.length) := by unfold Hid; omega
              have HEL : Hid ((out9 z l).length = m + m2) := by unfold Hid; omega
              have HEO := Lib.hid eo
              have HMY := Lib.hid hmy
              have hfld := hoy.2
              have hnd2 := nodup_out9 (x := z) hnd
              have hthn : x.th.Nodup := by rw [HM.out.th]; exact hnd.filter _
              have houn : x.ou.Nodup := by rw [HM.out.ou]; exact hnd.filter _
              have hc7 : c' = m + 1 ∨ ¬ c' = m + 1 := by omega
              have hl9 : l.length ≤ c' := h10
              have hlb : l.length ≤ 100 := by omega
              clear hu5 d5 h9 h11 h12 HAT hE0
              cases t
              · have hzo : z ∈ x.ou := by rw [HM.out.ou]; exact List.mem_filter.2 ⟨hzl, by simp [ht]⟩
                have ey : y = { x with ou := out9 z x.ou } := by rw [← hy]; unfold closeS; rw [ht]; rfl
                have hlo := len_out9 (x := z) houn
                rw [if_pos hzo] at hlo
                have HA : Hid ((y.th.length : Int) = T) := by unfold Hid; rw [ey]; exact hT.symm
                have HC : Hid ((y.ou.length : Int) = C - 1) := by unfold Hid; rw [ey]; show ((out9 z x.ou).length : Int) = C - 1; omega
                have e4 : IntKind.i64.wrap ((m : Int) + (m2 : Int) - T) = C - 1 := by rw [wrap9 (by have := HMD.out; omega)]; have := HMD.out; omega
                have HRY : Hid (T = (y.th.length : Int) ∧ y.most = posV M1 ∧ y.lim = posV L1 ∧ y.srv = b ∧ (out9 z l).Nodup) := ⟨HA.out.symm, by rw [ey]; exact hM, by rw [ey]; exact hLi, by rw [ey]; exact hsrv, hnd2⟩
                clear ey hlo hzo ht hnd2 hthn houn hfld hy hoy hmy hj hsz hlen hT hM hLi hsrv hC hnd q3 hzl eo el hmd
                rcases hc7 with hc7 | hc7
                · have HCM : Hid (l.length ≤ m + 1) := by unfold Hid; omega
                  subst hc7
                  clear hml
                  go_wp2_with (first
                    | (go_at_call 19; (with_reducible refine (close_c HS.out z HZ.out _ _ HE.out HY.out).mono ?_); rintro e w4 ⟨rfl, t4⟩
                       have t5 : St (fun _ => False) w1 (w4.alloc (.cells #[] 3)) (IdL p s1 s2 y [SLo 0 3 1 (.slice (some ⟨b5, 0, none⟩) l.length (m + 1)) l.length (intC l), SLo w4.heap.size 3 1 (.slice (some ⟨w4.heap.size, 0, none⟩) 0 0) 0 []]) :=
                         St.add t4 (St.made_own (World.ownsRow_lit w4 #[] 0 (Nat.le_refl _) (by unfold maxLen; omega) rfl) ((Below.refl _ _).alloc (Nat.le_refl _) _))
                       have T5 := Lib.hid t5
                       have X5 := Lib.hid (rd_take (Rd.of_own (St.own3 t5)) (Nat.le_of_lt HML.out))
                       have hs5 : Hid (w4.heap.size ≤ (w4.alloc (.cells #[] 3)).heap.size) := by unfold Hid; simp
                       clear t4 t5)
                    | (at_builtin
                       refine wpList_append_rd rfl (.tmp 158) (.tmp 161) 40 rfl EI (.slice (some ⟨w4.heap.size, 0, none⟩) 0 0) 0 [] rfl (St.own4 T5.out) (some ⟨b5, 0, none⟩) m (m + 1) (intC (l.take m)) rfl X5.out (intC_one _) (by have := HB.out; have := HML.out; omega) (by have := HB.out; have := HML.out; unfold maxLen; omega) hs5.out ?_
                       intro A6 c6 w6 ho6 hf6 h26
                       have ho6' : w6.ownsRow w4.heap.size 3 1 (.slice A6 m c6) m (intC (l.take m)) := by simpa using ho6
                       have t6 := St.appended4 T5.out ho6' hf6 (by simpa [Value.ownBlock] using h26)
                       have X6 := Lib.hid (rd_drop0 (Rd.of_own (St.own3 t6)) HM2.out HCM.out)
                       have T6 := Lib.hid t6
                       have hs6 : Hid (w4.heap.size ≤ w6.heap.size) := by unfold Hid; have := hf6.size; have := hs5.out; omega
                       clear ho6 hf6 h26 t6 ho6')
                    | (at_builtin
                       refine wpList_append_rd rfl (.tmp 163) (.tmp 167) 40 rfl EI (.slice A6 m c6) m (intC (l.take m)) rfl (St.own4 T6.out) _ m2 _ (intC (l.drop (m + 1))) rfl X6.out (intC_one _) (by have := HB.out; have := HMD.out; omega) (by have := HB.out; have := HMD.out; unfold maxLen; omega) hs6.out ?_
                       intro A8 c8 w8 ho8 hf8 h28
                       rw [← intC_append] at ho8
                       have t8 := St.drop3 (St.appended4 T6.out ho8 hf8 h28)
                       have T8 := Lib.hid (St.floor3 t8 (Nat.zero_le _))
                       clear ho8 hf8 h28 t8)
                    | (go_at_call 27; (with_reducible refine (active_l T8.out _ _ HA.out HC.out).mono ?_); rintro e w6 ⟨rfl, n6, hw6⟩
                       have S6 := Lib.hid (St.drewN T8.out n6)
                       rw [← hw6] at S6
                       clear hw6))
                  go_roundg g1
                  case measure => omega
                  case rel =>
                    have elen := HEL.out
                    refine ⟨k + 1, y, A8, c8, out9 z l, T, M1, L1, by omega, by go_num, by rw [elen], rfl, rfl, rfl, HRY.out, HOY.out, HMY.out, ?_⟩
                    rw [elen, HEO.out]
                    exact S6.out
                · have HCM := trivial
                  clear hml
                  go_wp2_with (first
                    | (go_at_call 19; (with_reducible refine (close_c HS.out z HZ.out _ _ HE.out HY.out).mono ?_); rintro e w4 ⟨rfl, t4⟩
                       have t5 : St (fun _ => False) w1 (w4.alloc (.cells #[] 3)) (IdL p s1 s2 y [SLo 0 3 1 (.slice (some ⟨b5, 0, none⟩) l.length c') l.length (intC l), SLo w4.heap.size 3 1 (.slice (some ⟨w4.heap.size, 0, none⟩) 0 0) 0 []]) :=
                         St.add t4 (St.made_own (World.ownsRow_lit w4 #[] 0 (Nat.le_refl _) (by unfold maxLen; omega) rfl) ((Below.refl _ _).alloc (Nat.le_refl _) _))
                       have T5 := Lib.hid t5
                       have X5 := Lib.hid (rd_take (Rd.of_own (St.own3 t5)) (Nat.le_of_lt HML.out))
                       have hs5 : Hid (w4.heap.size ≤ (w4.alloc (.cells #[] 3)).heap.size) := by unfold Hid; simp
                       clear t4 t5)
                    | (at_builtin
                       refine wpList_append_rd rfl (.tmp 158) (.tmp 161) 40 rfl EI (.slice (some ⟨w4.heap.size, 0, none⟩) 0 0) 0 [] rfl (St.own4 T5.out) (some ⟨b5, 0, none⟩) m c' (intC (l.take m)) rfl X5.out (intC_one _) (by have := HB.out; have := HML.out; omega) (by have := HB.out; have := HML.out; unfold maxLen; omega) hs5.out ?_
                       intro A6 c6 w6 ho6 hf6 h26
                       have ho6' : w6.ownsRow w4.heap.size 3 1 (.slice A6 m c6) m (intC (l.take m)) := by simpa using ho6
                       have t6 := St.appended4 T5.out ho6' hf6 (by simpa [Value.ownBlock] using h26)
                       have X6 := Lib.hid (rd_drop (Rd.of_own (St.own3 t6)) HM2.out (by have := HML.out; omega))
                       have T6 := Lib.hid t6
                       have hs6 : Hid (w4.heap.size ≤ w6.heap.size) := by unfold Hid; have := hf6.size; have := hs5.out; omega
                       clear ho6 hf6 h26 t6 ho6')
                    | (at_builtin
                       refine wpList_append_rd rfl (.tmp 163) (.tmp 167) 40 rfl EI (.slice A6 m c6) m (intC (l.take m)) rfl (St.own4 T6.out) _ m2 _ (intC (l.drop (m + 1))) rfl X6.out (intC_one _) (by have := HB.out; have := HMD.out; omega) (by have := HB.out; have := HMD.out; unfold maxLen; omega) hs6.out ?_
                       intro A8 c8 w8 ho8 hf8 h28
                       rw [← intC_append] at ho8
                       have t8 := St.drop3 (St.appended4 T6.out ho8 hf8 h28)
                       have T8 := Lib.hid (St.floor3 t8 (Nat.zero_le _))
                       clear ho8 hf8 h28 t8)
                    | (go_at_call 27; (with_reducible refine (active_l T8.out _ _ HA.out HC.out).mono ?_); rintro e w6 ⟨rfl, n6, hw6⟩
                       have S6 := Lib.hid (St.drewN T8.out n6)
                       rw [← hw6] at S6
                       clear hw6))
                  go_roundg g1
                  case measure => omega
                  case rel =>
                    have elen := HEL.out
                    refine ⟨k + 1, y, A8, c8, out9 z l, T, M1, L1, by omega, by go_num, by rw [elen], rfl, rfl, rfl, HRY.out, HOY.out, HMY.out, ?_⟩
                    rw [elen, HEO.out]
                    exact S6.out
              · have hzo : z ∈ x.th := by rw [HM.out.th]; exact List.mem_filter.2 ⟨hzl, by simp [ht]⟩
                have ey : y = { x with th := out9 z x.th } := by rw [← hy]; unfold closeS; rw [ht]; rfl
                have hlo := len_out9 (x := z) hthn
                rw [if_pos hzo] at hlo
                have HA : Hid ((y.th.length : Int) = T - 1) := by unfold Hid; rw [ey]; show ((out9 z x.th).length : Int) = T - 1; omega
                have HC : Hid ((y.ou.length : Int) = C) := by unfold Hid; rw [ey]; exact HCC.out
                have e3 : IntKind.i64.wrap (T - 1) = T - 1 := wrap9 (by omega)
                have e4 : IntKind.i64.wrap ((m : Int) + (m2 : Int) - (T - 1)) = C := by rw [wrap9 (by have := HMD.out; omega)]; have := HMD.out; omega
                have HRY : Hid (T - 1 = (y.th.length : Int) ∧ y.most = posV M1 ∧ y.lim = posV L1 ∧ y.srv = b ∧ (out9 z l).Nodup) := ⟨HA.out.symm, by rw [ey]; exact hM, by rw [ey]; exact hLi, by rw [ey]; exact hsrv, hnd2⟩
                clear ey hlo hzo ht hnd2 hthn houn hfld hy hoy hmy hj hsz hlen hT hM hLi hsrv hC hnd q3 hzl eo el hmd
                rcases hc7 with hc7 | hc7
                · have HCM : Hid (l.length ≤ m + 1) := by unfold Hid; omega
                  subst hc7
                  clear hml
                  go_wp2_with (first
                    | (go_at_call 19; (with_reducible refine (close_c HS.out z HZ.out _ _ HE.out HY.out).mono ?_); rintro e w4 ⟨rfl, t4⟩
                       have t5 : St (fun _ => False) w1 (w4.alloc (.cells #[] 3)) (IdL p s1 s2 y [SLo 0 3 1 (.slice (some ⟨b5, 0, none⟩) l.length (m + 1)) l.length (intC l), SLo w4.heap.size 3 1 (.slice (some ⟨w4.heap.size, 0, none⟩) 0 0) 0 []]) :=
                         St.add t4 (St.made_own (World.ownsRow_lit w4 #[] 0 (Nat.le_refl _) (by unfold maxLen; omega) rfl) ((Below.refl _ _).alloc (Nat.le_refl _) _))
                       have T5 := Lib.hid t5
                       have X5 := Lib.hid (rd_take (Rd.of_own (St.own3 t5)) (Nat.le_of_lt HML.out))
                       have hs5 : Hid (w4.heap.size ≤ (w4.alloc (.cells #[] 3)).heap.size) := by unfold Hid; simp
                       clear t4 t5)
                    | (at_builtin
                       refine wpList_append_rd rfl (.tmp 158) (.tmp 161) 40 rfl EI (.slice (some ⟨w4.heap.size, 0, none⟩) 0 0) 0 [] rfl (St.own4 T5.out) (some ⟨b5, 0, none⟩) m (m + 1) (intC (l.take m)) rfl X5.out (intC_one _) (by have := HB.out; have := HML.out; omega) (by have := HB.out; have := HML.out; unfold maxLen; omega) hs5.out ?_
                       intro A6 c6 w6 ho6 hf6 h26
                       have ho6' : w6.ownsRow w4.heap.size 3 1 (.slice A6 m c6) m (intC (l.take m)) := by simpa using ho6
                       have t6 := St.appended4 T5.out ho6' hf6 (by simpa [Value.ownBlock] using h26)
                       have X6 := Lib.hid (rd_drop0 (Rd.of_own (St.own3 t6)) HM2.out HCM.out)
                       have T6 := Lib.hid t6
                       have hs6 : Hid (w4.heap.size ≤ w6.heap.size) := by unfold Hid; have := hf6.size; have := hs5.out; omega
                       clear ho6 hf6 h26 t6 ho6')
                    | (at_builtin
                       refine wpList_append_rd rfl (.tmp 163) (.tmp 167) 40 rfl EI (.slice A6 m c6) m (intC (l.take m)) rfl (St.own4 T6.out) _ m2 _ (intC (l.drop (m + 1))) rfl X6.out (intC_one _) (by have := HB.out; have := HMD.out; omega) (by have := HB.out; have := HMD.out; unfold maxLen; omega) hs6.out ?_
                       intro A8 c8 w8 ho8 hf8 h28
                       rw [← intC_append] at ho8
                       have t8 := St.drop3 (St.appended4 T6.out ho8 hf8 h28)
                       have T8 := Lib.hid (St.floor3 t8 (Nat.zero_le _))
                       clear ho8 hf8 h28 t8)
                    | (go_at_call 27; (with_reducible refine (active_l T8.out _ _ HA.out HC.out).mono ?_); rintro e w6 ⟨rfl, n6, hw6⟩
                       have S6 := Lib.hid (St.drewN T8.out n6)
                       rw [← hw6] at S6
                       clear hw6))
                  go_roundg g1
                  case measure => omega
                  case rel =>
                    have elen := HEL.out
                    refine ⟨k + 1, y, A8, c8, out9 z l, T - 1, M1, L1, by omega, by go_num, by rw [elen], rfl, rfl, rfl, HRY.out, HOY.out, HMY.out, ?_⟩
                    rw [elen, HEO.out]
                    exact S6.out
                · have HCM := trivial
                  clear hml
                  go_wp2_with (first
                    | (go_at_call 19; (with_reducible refine (close_c HS.out z HZ.out _ _ HE.out HY.out).mono ?_); rintro e w4 ⟨rfl, t4⟩
                       have t5 : St (fun _ => False) w1 (w4.alloc (.cells #[] 3)) (IdL p s1 s2 y [SLo 0 3 1 (.slice (some ⟨b5, 0, none⟩) l.length c') l.length (intC l), SLo w4.heap.size 3 1 (.slice (some ⟨w4.heap.size, 0, none⟩) 0 0) 0 []]) :=
                         St.add t4 (St.made_own (World.ownsRow_lit w4 #[] 0 (Nat.le_refl _) (by unfold maxLen; omega) rfl) ((Below.refl _ _).alloc (Nat.le_refl _) _))
                       have T5 := Lib.hid t5
                       have X5 := Lib.hid (rd_take (Rd.of_own (St.own3 t5)) (Nat.le_of_lt HML.out))
                       have hs5 : Hid (w4.heap.size ≤ (w4.alloc (.cells #[] 3)).heap.size) := by unfold Hid; simp
                       clear t4 t5)
                    | (at_builtin
                       refine wpList_append_rd rfl (.tmp 158) (.tmp 161) 40 rfl EI (.slice (some ⟨w4.heap.size, 0, none⟩) 0 0) 0 [] rfl (St.own4 T5.out) (some ⟨b5, 0, none⟩) m c' (intC (l.take m)) rfl X5.out (intC_one _) (by have := HB.out; have := HML.out; omega) (by have := HB.out; have := HML.out; unfold maxLen; omega) hs5.out ?_
                       intro A6 c6 w6 ho6 hf6 h26
                       have ho6' : w6.ownsRow w4.heap.size 3 1 (.slice A6 m c6) m (intC (l.take m)) := by simpa using ho6
                       have t6 := St.appended4 T5.out ho6' hf6 (by simpa [Value.ownBlock] using h26)
                       have X6 := Lib.hid (rd_drop (Rd.of_own (St.own3 t6)) HM2.out (by have := HML.out; omega))
                       have T6 := Lib.hid t6
                       have hs6 : Hid (w4.heap.size ≤ w6.heap.size) := by unfold Hid; have := hf6.size; have := hs5.out; omega
                       clear ho6 hf6 h26 t6 ho6')
                    | (at_builtin
                       refine wpList_append_rd rfl (.tmp 163) (.tmp 167) 40 rfl EI (.slice A6 m c6) m (intC (l.take m)) rfl (St.own4 T6.out) _ m2 _ (intC (l.drop (m + 1))) rfl X6.out (intC_one _) (by have := HB.out; have := HMD.out; omega) (by have := HB.out; have := HMD.out; unfold maxLen; omega) hs6.out ?_
                       intro A8 c8 w8 ho8 hf8 h28
                       rw [← intC_append] at ho8
                       have t8 := St.drop3 (St.appended4 T6.out ho8 hf8 h28)
                       have T8 := Lib.hid (St.floor3 t8 (Nat.zero_le _))
                       clear ho8 hf8 h28 t8)
                    | (go_at_call 27; (with_reducible refine (active_l T8.out _ _ HA.out HC.out).mono ?_); rintro e w6 ⟨rfl, n6, hw6⟩
                       have S6 := Lib.hid (St.drewN T8.out n6)
                       rw [← hw6] at S6
                       clear hw6))
                  go_roundg g1
                  case measure => omega
                  case rel =>
                    have elen := HEL.out
                    refine ⟨k + 1, y, A8, c8, out9 z l, T - 1, M1, L1, by omega, by go_num, by rw [elen], rfl, rfl, rfl, HRY.out, HOY.out, HMY.out, ?_⟩
                    rw [elen, HEO.out]
                    exact S6.out
      · as_aux_lemma =>
        obtain ⟨u, hu⟩ : ∃ u, posV z = u := ⟨_, rfl⟩
        have HU2 := Lib.hid hu
        have HOY := Lib.hid ((HO.out.most_ u).mono (Nat.le_succ k))
        have HMY : Hid (Mix { x with most := u } l) := ⟨HM.out.th, HM.out.ou, HM.out.pos⟩
        have HA : Hid ((x.th.length : Int) = T) := by unfold Hid; rw [hT]
        have HC := HCC
        have HRY : Hid (T = (x.th.length : Int) ∧ (Idv.most { x with most := u }) = posV z ∧ (Idv.lim { x with most := u }) = posV L1 ∧ x.srv = b ∧ l.Nodup) := ⟨hT, hu.symm, hLi, hsrv, hnd⟩
        clear hu hsz hlen hT hM hLi hsrv hC hnd
        go_wp2_with (first
          | (go_at_call 21; (with_reducible refine (setMost_c HS.out z _ HU2.out).mono ?_); rintro e w4 ⟨rfl, t4⟩
             have S5 := Lib.hid t4
             clear t4)
          | (go_at_call 27; (with_reducible refine (active_l S5.out _ _ HA.out HC.out).mono ?_); rintro e w6 ⟨rfl, n6, hw6⟩
             have S6 := Lib.hid (St.drewN S5.out n6)
             rw [← hw6] at S6
             clear hw6))
        go_roundg g1
        case measure => omega
        case rel => exact ⟨k + 1, { x with most := u }, _, _, l, T, z, L1, by omega, by go_num, rfl, rfl, rfl, rfl, HRY.out, HOY.out, HMY.out, S6.out⟩
      · as_aux_lemma =>
        obtain ⟨u, hu⟩ : ∃ u, posV z = u := ⟨_, rfl⟩
        have HU2 := Lib.hid hu
        have HOY := Lib.hid ((HO.out.lim_ u).mono (Nat.le_succ k))
        have HMY : Hid (Mix { x with lim := u } l) := ⟨HM.out.th, HM.out.ou, HM.out.pos⟩
        have HA : Hid ((x.th.length : Int) = T) := by unfold Hid; rw [hT]
        have HC := HCC
        have HRY : Hid (T = (x.th.length : Int) ∧ (Idv.most { x with lim := u }) = posV M1 ∧ (Idv.lim { x with lim := u }) = posV z ∧ x.srv = b ∧ l.Nodup) := ⟨hT, hM, hu.symm, hsrv, hnd⟩
        clear hu hsz hlen hT hM hLi hsrv hC hnd
        go_wp2_with (first
          | (go_at_call 23; (with_reducible refine (limit_c HS.out z _ HU2.out).mono ?_); rintro e w4 ⟨rfl, t4⟩
             have S5 := Lib.hid t4
             clear t4)
          | (go_at_call 27; (with_reducible refine (active_l S5.out _ _ HA.out HC.out).mono ?_); rintro e w6 ⟨rfl, n6, hw6⟩
             have S6 := Lib.hid (St.drewN S5.out n6)
             rw [← hw6] at S6
             clear hw6))
        go_roundg g1
        case measure => omega
        case rel => exact ⟨k + 1, { x with lim := u }, _, _, l, T, M1, z, by omega, by go_num, rfl, rfl, rfl, rfl, HRY.out, HOY.out, HMY.out, S6.out⟩
      · as_aux_lemma =>
        have HA : Hid ((x.th.length : Int) = T) := by unfold Hid; rw [hT]
        have HC := HCC
        have S5 := HS
        clear hsz hlen hT hM hLi hsrv hC hnd
        go_wp2_with (first
          | (go_at_call 27; (with_reducible refine (active_l S5.out _ _ HA.out HC.out).mono ?_); rintro e w6 ⟨rfl, n6, hw6⟩
             have S6 := Lib.hid (St.drewN S5.out n6)
             rw [← hw6] at S6
             clear hw6))
        go_roundg g1
        case measure => omega
        case rel => exact ⟨k + 1, x, _, _, l, T, M1, L1, by omega, by go_num, rfl, rfl, rfl, rfl, HR.out, HO.out.mono (by omega), HM.out, S6.out⟩
end Go.Proofs.Ytdpheliekdgnhaa
