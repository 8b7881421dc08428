/- Stage 9: the document's streams of a connection: a new one, Open, Close. -/
import Derived.Test.YtdpheliekdgnhaaNiQ
namespace Go.Proofs.Ytdpheliekdgnhaa
open Go.RowKit Go.Own Go.Sm
set_option linter.unusedVariables false
set_option linter.unusedSimpArgs false
set_option maxRecDepth 100000
section
variable {S : Nat → Prop} {w0 w : World} {L : List Ob} {q B : Nat} {x : Idv} {A : Option Addr} {c : Nat} {l : List Int} {A0 A1 A2 : Ob}
theorem setr3 {r : Nat} {t : TypeId} {a b d a' b' d' : Value} (s : St S w0 w (A0 :: A1 :: A2 :: RL q B x A c l [BLo r t [a, b, d]])) : St S w0 (((w.setCell ⟨r, 0, none⟩ a').setCell ⟨r, 1, none⟩ b').setCell ⟨r, 2, none⟩ d') (A0 :: A1 :: A2 :: RL q B x A c l []) :=
  St.drop5 (St.set5 (St.set5 (St.set5 s 0 a') 1 b') 2 d')
set_option maxHeartbeats 8000000 in
theorem ropen_c (s : St S w0 w (A0 :: A1 :: A2 :: RL q B x A c l [])) (hm : Mix x l) (hb : l.length < 1000000) (hB : B ≤ w.heap.size) (id : Int) (f : Bool × Int × Int) (y : Idv) (hf : openF x id = f) (hy : openS x id = y) (l' : List Int) (hl' : openL x id l = l') :
    Calls Try.prog 16 #[.pointer (some ⟨q, 0, none⟩), .int .i64 id] w fun r w' => r = .returned (flt9 f) ∧ ∃ A' c', St S w0 w' (A0 :: A1 :: A2 :: RL q B y A' c' l' []) := by
  obtain ⟨hl, z0, z1, z2, z3, z4, z5, zf0⟩ := see_q s
  have zf := zf0 3
  have s0 : St S w0 (w.alloc (.cells #[.bool false, .int .u32 0, .int .i64 0] 50)) (A0 :: A1 :: A2 :: RL q B x A c l [BLo w.heap.size 50 [.bool false, .int .u32 0, .int .i64 0]]) := St.block s 50 [.bool false, .int .u32 0, .int .i64 0]
  have s1 : St S w0 ((w.setCell ⟨q, 3, none⟩ (.int .i64 id)).alloc (.cells #[.bool false, .int .u32 0, .int .i64 0] 50)) (A0 :: A1 :: A2 :: RL q B { x with last := id } A c l [BLo w.heap.size 50 [.bool false, .int .u32 0, .int .i64 0]]) := by
    have h := St.block (St.set3 s 3 (.int .i64 id)) 50 [.bool false, .int .u32 0, .int .i64 0]
    simp only [World.size_setCell] at h
    exact h
  have hl2 : w.heap.size < (w.setCell ⟨q, 3, none⟩ (.int .i64 id)).heap.size + 1 := by simp
  have sA := s.alloc (.cells #[.bool true, .int .u32 1, .int .i64 0] 50)
  have HS := Lib.hid s0
  have HA := Lib.hid sA
  have HS1 := Lib.hid s1
  have HB := Lib.hid hb
  have ways := class_ways x id f y hf hy
  have hm2 : Mix { x with last := id } l := ⟨hm.th, hm.ou, hm.pos⟩
  have HM := Lib.hid hm2
  unfold openL at hl'
  clear s hf hy hb zf0 s0 s1 sA hm hm2
  rcases ways with ⟨cl, hc, h1, rfl, rfl⟩ | ⟨hc, h1, rfl, rfl⟩ | ⟨hc, h1, rfl, rfl⟩
  · have HC := Lib.hid hc
    rw [if_neg (by rw [hc]; exact h1)] at hl'
    subst hl'
    clear hc HS1
    go_enter Try.func16, Try.ntmps16
    go_wp2_with (first
      | (go_at_call 26; (with_reducible refine (rclass_c HS.out id _ HC.out).mono ?_); rintro e w1 ⟨rfl, rfl⟩))
    refine bodyPost_ret (v := .agg #[.bool true, .int .u32 1, .int .i64 0]) (by simp [results, Try.results16, go_sem]) rfl ⟨rfl, _, _, HA.out⟩
  · have HC := Lib.hid hc
    rw [if_pos hc, if_pos h1] at hl'
    subst hl'
    clear hc HA
    go_enter Try.func16, Try.ntmps16
    go_wp2_with (first
      | (go_at_call 26; (with_reducible refine (rclass_c HS.out id _ HC.out).mono ?_); rintro e w1 ⟨rfl, rfl⟩)
      | (go_at_call 28; (with_reducible refine (ractive_c HS1.out HM.out HB.out).mono ?_); rintro e w2 ⟨rfl, n, hw⟩
         have T := Lib.hid (St.drewN HS1.out n)
         rw [← hw] at T
         clear hw
         have hr := St.blk5 T.out
         have r0 := hr.cell 0
         have r1 := hr.cell 1
         have r2 := hr.cell 2
         have rf := hr.frozen
         have rl := hr.lt
         obtain ⟨ql, y0, y1, _⟩ := see_q T.out
         simp only [List.getElem?_cons_zero, List.getElem?_cons_succ] at r0 r1 r2
         have T2 := Lib.hid (setr3 T.out (a' := .bool true) (b' := .int .u32 7) (d' := .int .i64 id))
         clear hr))
    refine bodyPost_ret (v := .agg #[.bool true, .int .u32 7, .int .i64 id]) (by simp [results, Try.results16, go_sem, r0, r1, r2]) rfl ⟨rfl, _, _, T2.out⟩
  · have HC := Lib.hid hc
    rw [if_pos hc, if_neg h1] at hl'
    subst hl'
    clear hc HA
    go_enter Try.func16, Try.ntmps16
    go_wp2_with (first
      | (go_at_call 26; (with_reducible refine (rclass_c HS.out id _ HC.out).mono ?_); rintro e w1 ⟨rfl, rfl⟩)
      | (go_at_call 28; (with_reducible refine (ractive_c HS1.out HM.out HB.out).mono ?_); rintro e w2 ⟨rfl, n, hw⟩
         have T := Lib.hid (St.drewN HS1.out n)
         rw [← hw] at T
         have hs2 : Hid (B ≤ (w2.alloc (.cells #[.int .i64 id] 3)).heap.size) := by unfold Hid; rw [hw]; simp; omega
         clear hw
         obtain ⟨ql, y0, y1, y2, y3, y4, y5, yf0⟩ := see_q T.out
         have T2 := Lib.hid (St.alloc T.out (.cells #[.int .i64 id] 3))
         have X2 := Lib.hid (rd_one9 (Blk.new w2 3 [.int .i64 id]))
         clear yf0)
      | (at_builtin
         refine wpList_append_rd rfl (.tmp 33) (.tmp 35) 40 rfl EI (.slice A l.length c) l.length (intC l) rfl (St.own4 T2.out) (some ⟨w2.heap.size, 0, none⟩) 1 1 (intC [id]) rfl X2.out (intC_one _) (by have := HB.out; omega) (by have := HB.out; unfold maxLen; omega) hs2.out ?_
         intro A6 c6 w6 ho6 hf6 h26
         rw [← intC_append] at ho6
         have t6 := St.appended4 T2.out ho6 hf6 h26
         have hb6 := St.blk3 t6
         have hl6 := hb6.lt
         have zf6 := hb6.frozen 5
         have z56 := hb6.cell 5
         have t7 := St.set3 t6 5 (.slice A6 (l.length + 1) c6)
         have t8 : St S w0 (w6.setCell ⟨q, 5, none⟩ (.slice A6 (l.length + 1) c6)) (A0 :: A1 :: A2 :: RL q B { x with last := id, th := x.th ++ [id] } A6 c6 (l ++ [id]) [BLo w.heap.size 50 [.bool false, .int .u32 0, .int .i64 0]]) := by
           unfold RL
           rw [List.length_append]
           exact t7
         have hr := St.blk5 t8
         have r0 := hr.cell 0
         have r1 := hr.cell 1
         have r2 := hr.cell 2
         have rf := hr.frozen
         have rl := hr.lt
         simp only [List.getElem?_cons_zero, List.getElem?_cons_succ] at r0 r1 r2
         have T9 := Lib.hid (setr3 t8 (a' := .bool false) (b' := .int .u32 0) (d' := .int .i64 0))
         clear ho6 hf6 h26 t6 hb6 t7 t8 hr))
    refine bodyPost_ret (v := .agg #[.bool false, .int .u32 0, .int .i64 0]) (by simp [results, Try.results16, go_sem, r0, r1, r2]) rfl ⟨rfl, _, _, T9.out⟩
theorem ropen_l (s : St S w0 w (A0 :: A1 :: A2 :: RL q B x A c l [])) (hm : Mix x l) (hb : l.length < 1000000) (hB : B ≤ w.heap.size) (id : Int) (i : Bool) (d t : Int) (y : Idv) (hf : openF x id = (i, d, t)) (hy : openS x id = y) (l' : List Int) (hl' : openL x id l = l') :
    Calls Try.prog 16 #[.pointer (some ⟨q, 0, none⟩), .int .i64 id] w fun r w' => r = .returned (.agg #[.bool i, .int .u32 d, .int .i64 t]) ∧ ∃ A' c', St S w0 w' (A0 :: A1 :: A2 :: RL q B y A' c' l' []) := ropen_c s hm hb hB id _ y hf hy l' hl'
theorem rset_neg (q : Nat) (u : Value) (hu : w.cell? ⟨q, 1, none⟩ = some u) (hf : w.frozen? ⟨q, 1, none⟩ = false) (n : Int) (h1 : n < 0) :
    Calls Try.prog 22 #[.pointer (some ⟨q, 0, none⟩), .int .i64 n] w fun e w' => e = .returned (.tuple #[]) ∧ w' = (w.setCell ⟨q, 1, none⟩ (.int .i64 n)).setCell ⟨q, 1, none⟩ (.int .i64 0) := by
  have hl : q < w.heap.size := World.block_lt_of_cell? _ _ hu
  go_enter Try.func22, Try.ntmps22
  go_wp2
  go_end0
  exact ⟨rfl, rfl⟩
theorem rset_pos (q : Nat) (u : Value) (hu : w.cell? ⟨q, 1, none⟩ = some u) (hf : w.frozen? ⟨q, 1, none⟩ = false) (n : Int) (h1 : ¬ n < 0) :
    Calls Try.prog 22 #[.pointer (some ⟨q, 0, none⟩), .int .i64 n] w fun e w' => e = .returned (.tuple #[]) ∧ w' = w.setCell ⟨q, 1, none⟩ (.int .i64 n) := by
  have hl : q < w.heap.size := World.block_lt_of_cell? _ _ hu
  go_enter Try.func22, Try.ntmps22
  go_wp2
  go_end0
  exact ⟨rfl, rfl⟩
set_option maxHeartbeats 4000000 in
theorem rnew_s (w : World) (srv : Bool) (most : Int) (x : Idv) (hx : newI srv most = x) : Calls Try.prog 14 #[.bool srv, .int .i64 most] w fun r w' => ∃ q, r = .returned (.pointer (some ⟨q, 0, none⟩)) ∧ St (fun _ => False) w w' (RL q w.heap.size x none 0 [] []) := by
  subst hx
  obtain ⟨z, hz⟩ : ∃ z, posV most = z := ⟨_, rfl⟩
  unfold newI
  rw [hz]
  have mk : ∀ (s : Bool) (m o : Int), St (fun _ => False) w (w.alloc (.cells #[.bool s, .int .i64 m, .int .i64 2147483647, .int .i64 0, .int .i64 o, .slice none 0 0] 75)) (RL w.heap.size w.heap.size ⟨s, 0, o, m, 2147483647, [], []⟩ none 0 [] []) := fun s m o => by
    refine St.add (St.block (St.nil (fun _ => False) w) 75 (ridC ⟨s, 0, o, m, 2147483647, [], []⟩ none 0 0)) (M := [SLo w.heap.size 3 1 (.slice none 0 0) 0 []]) ?_
    exact ⟨⟨_, ⟨fun _ => False, _, framed_SLo .., ⟨World.ownsRow_nil _ _ _ _, by funext i; simp [Value.ownBlock]⟩, rfl, fun _ h => h.elim, rfl⟩, fun i hi => by rcases hi with hi | hi <;> exact hi.elim⟩, Fr.refl _ _⟩
  have HK := Lib.hid mk
  clear mk
  rcases pos_ways hz with ⟨h1, rfl⟩ | ⟨rfl, rfl⟩ | ⟨h1, rfl⟩
  · have H1 := Lib.hid h1
    clear h1
    cases srv
    all_goals
      clear hz
      go_enter Try.func14, Try.ntmps14
      go_wp2_with (first
        | (go_at_call 22; (with_reducible refine (rset_neg _ _ (by simp [go_sem]; rfl) (by simp [go_sem]) _ H1.out).mono ?_); rintro e w1 ⟨rfl, rfl⟩))
      go_ret
      exact ⟨_, rfl, HK.out _ _ _⟩
  · have H1 : Hid (¬ (0 : Int) < 0) := by unfold Hid; decide
    cases srv
    all_goals
      clear hz
      go_enter Try.func14, Try.ntmps14
      go_wp2_with (first
        | (go_at_call 22; (with_reducible refine (rset_pos _ _ (by simp [go_sem]; rfl) (by simp [go_sem]) _ H1.out).mono ?_); rintro e w1 ⟨rfl, rfl⟩))
      go_ret
      exact ⟨_, rfl, HK.out _ _ _⟩
  · have H1 : Hid (¬ z < 0) := by unfold Hid; omega
    clear h1
    cases srv
    all_goals
      clear hz
      go_enter Try.func14, Try.ntmps14
      go_wp2_with (first
        | (go_at_call 22; (with_reducible refine (rset_pos _ _ (by simp [go_sem]; rfl) (by simp [go_sem]) _ H1.out).mono ?_); rintro e w1 ⟨rfl, rfl⟩))
      go_ret
      exact ⟨_, rfl, HK.out _ _ _⟩
theorem len_out9_lt {z : Int} : ∀ {l : List Int}, z ∈ l → (out9 z l).length < l.length
  | [], h => by cases h
  | y :: l, h => by
    have hle : (l.filter fun y => decide (y ≠ z)).length ≤ l.length := List.length_filter_le _ _
    unfold out9
    by_cases e : y = z
    · subst e
      simp only [List.filter_cons, ne_eq, not_true_eq_false, decide_false, Bool.false_eq_true, if_false, List.length_cons]
      simp only [ne_eq] at hle
      omega
    · have ih := len_out9_lt ((List.mem_cons.1 h).resolve_left (fun h => e h.symm))
      unfold out9 at ih
      simp only [List.filter_cons, ne_eq, e, not_false_eq_true, decide_true, if_true, List.length_cons]
      simp only [ne_eq] at ih
      omega
theorem out9_take {z : Int} {l : List Int} {k : Nat} (h : k < l.length) : out9 z (l.take (k + 1)) = out9 z (l.take k) ++ (if l[k] = z then [] else [l[k]]) := by
  unfold out9
  rw [List.take_succ_eq_append_getElem h, List.filter_append]
  by_cases e : l[k] = z
  · simp [e]
  · simp [e]
set_option maxHeartbeats 8000000 in
theorem rclose_c (s : St S w0 w (A0 :: A1 :: A2 :: RL q B x A c l [])) (hm : Mix x l) (hb : l.length < 1000000) (hB : B ≤ w.heap.size) (id : Int) (e : Int) (y : Idv) (he : closeE x id = e) (hy : closeS x id = y) :
    Calls Try.prog 20 #[.pointer (some ⟨q, 0, none⟩), .int .i64 id] w fun r w' => r = .returned (.int .i64 e) ∧ ∃ A' c', St S w0 w' (A0 :: A1 :: A2 :: RL q B y A' c' (out9 id l) []) := by
  have hE := hm.closeE id
  rw [he] at hE
  have hN := fun h => hm.close_not (z := id) h
  have hfld : y.srv = x.srv ∧ y.most = x.most ∧ y.lim = x.lim ∧ y.last = x.last ∧ y.next = x.next := by
    rw [← hy]
    unfold closeS
    cases thB x.srv id <;> exact ⟨rfl, rfl, rfl, rfl, rfl⟩
  have HF := Lib.hid hfld
  have HY := Lib.hid hy
  have HE := Lib.hid hE
  have HNN := Lib.hid hN
  have s0 : St S w0 (w.alloc (.cells #[] 3)) (A0 :: A1 :: A2 :: RL q B x A c l [SLo w.heap.size 3 1 (.slice (some ⟨w.heap.size, 0, none⟩) 0 0) 0 []]) :=
    St.add s (St.made_own (World.ownsRow_lit w #[] 0 (Nat.le_refl _) (by unfold maxLen; omega) rfl) ((Below.refl _ _).alloc (Nat.le_refl _) _))
  have H0 := Lib.hid s0
  have HB := Lib.hid hb
  obtain ⟨hl, _⟩ := see_q s
  clear s s0 he hE hN hfld hy hm
  go_enter Try.func20, Try.ntmps20
  go_wp2
  go_loopg [6, 5] l.length (fun gh i v w' => ∃ (k : Nat) (A2' : Option Addr) (c2 : Nat), gh + k = l.length ∧ i = .int .i64 (k : Int) ∧ v = .slice A2' (out9 id (l.take k)).length c2 ∧ St S w0 w' (A0 :: A1 :: A2 :: RL q B x A c l [SLo w.heap.size 3 1 (.slice A2' (out9 id (l.take k)).length c2) (out9 id (l.take k)).length (intC (out9 id (l.take k)))]) ∧ w.heap.size ≤ w'.heap.size)
  case atStart => exact ⟨0, _, _, by omega, rfl, rfl, H0.out, by simp⟩
  case round =>
    obtain ⟨k, A2', c2, hk, rfl, rfl, hs, hsz⟩ := hrel
    have HS := Lib.hid hs
    clear hs
    cases gk with
    | zero =>
      obtain rfl : k = l.length := by omega
      rw [List.take_length] at HS ⊢
      obtain ⟨ql, z0, z1, z2, z3, z4, z5, zf0⟩ := see_q HS.out
      have zf := zf0 5
      have hle : (out9 id l).length ≤ l.length := List.length_filter_le _ _
      have hin : (id ∈ l ∧ ¬ (out9 id l).length = l.length) ∨ (¬ id ∈ l ∧ (out9 id l).length = l.length) := by
        by_cases hm : id ∈ l
        · refine .inl ⟨hm, fun h => ?_⟩
          have := len_out9_lt hm
          omega
        · exact .inr ⟨hm, by rw [out9_not hm]⟩
      clear hk zf0
      rcases hin with ⟨hm, hne⟩ | ⟨hm, heq⟩
      · have hne2 : ((out9 id l).length == l.length) = false := by simpa using hne
        have hne3 : (((out9 id l).length : Int) == (l.length : Int)) = false := by simpa using (by omega : ¬ ((out9 id l).length : Int) = (l.length : Int))
        have t1 := St.drop4 (St.set3 HS.out 5 (.slice A2' (out9 id l).length c2))
        have t2 := St.floor4 t1 hB
        have t3 : St S w0 (wr.setCell ⟨q, 5, none⟩ (.slice A2' (out9 id l).length c2)) (A0 :: A1 :: A2 :: RL q B y A2' c2 (out9 id l) []) := by
          have e1 : ridC y A2' (out9 id l).length c2 = (ridC x A l.length c).set 5 (.slice A2' (out9 id l).length c2) := by
            obtain ⟨f1, f2, f3, f4, f5⟩ := HF.out
            simp [ridC, f1, f2, f3, f4, f5]
          unfold RL
          rw [e1]
          exact t2
        have T := Lib.hid t3
        have e0 : e = 0 := by rw [HE.out, if_pos hm]
        clear t1 t2 t3
        go_wp2
        go_ret
        exact ⟨ret_int e0.symm, _, _, T.out⟩
      · have hne2 : ((out9 id l).length == l.length) = true := by simpa using heq
        have T := Lib.hid (St.drop5 HS.out)
        have e0 : e = 6 := by rw [HE.out, if_neg hm]
        have ey : y = x := by rw [← HY.out, HNN.out hm]
        have el : out9 id l = l := out9_not hm
        go_wp2
        go_ret
        refine ⟨ret_int e0.symm, A, c, ?_⟩
        rw [ey, el]
        exact T.out
    | succ g1 =>
      have k1 : k < l.length := by omega
      obtain ⟨ql, z0, z1, z2, z3, z4, z5, zf0⟩ := see_q HS.out
      obtain ⟨b, o, rfl, d0⟩ := own_q HS.out k1
      have ht := out9_take (z := id) k1
      obtain ⟨m, hm⟩ : ∃ m, l[k] = m := ⟨_, rfl⟩
      rw [hm] at d0 ht
      obtain ⟨L1, hL1⟩ : ∃ L1, out9 id (l.take k) = L1 := ⟨_, rfl⟩
      have hle : L1.length ≤ k := by rw [← hL1]; exact Nat.le_trans (List.length_filter_le _ _) (by rw [List.length_take]; omega)
      rw [hL1] at HS ht ⊢
      have HT := Lib.hid ht
      have HSZ := Lib.hid hsz
      clear ht zf0 hL1 hm hsz
      by_cases e1 : m = id
      · have HT2 := HT.out
        rw [if_pos e1, List.append_nil] at HT2
        have HT3 := Lib.hid HT2
        subst e1
        clear HT2
        go_wp2
        go_roundg g1
        case measure => omega
        case rel => exact ⟨k + 1, A2', c2, by omega, by go_num, by rw [HT3.out], by rw [HT3.out]; exact HS.out, HSZ.out⟩
      · have HT2 := HT.out
        rw [if_neg e1] at HT2
        have HT3 := Lib.hid HT2
        have e2 : (m != id) = true := by simpa using e1
        have T2 := Lib.hid (St.alloc HS.out (.cells #[.int .i64 m] 3))
        have X2 := Lib.hid (rd_one9 (Blk.new wr 3 [.int .i64 m]))
        have hs2 : Hid (w.heap.size ≤ (wr.alloc (.cells #[.int .i64 m] 3)).heap.size) := by unfold Hid; have := HSZ.out; simp; omega
        have HLE : Hid (L1.length < 1000000) := by unfold Hid; have := HB.out; omega
        clear HT2 e1
        go_wp2_with (first
          | (at_builtin
             refine wpList_append_rd rfl (.tmp 26) (.tmp 34) 40 rfl EI (.slice A2' L1.length c2) L1.length (intC L1) rfl (St.own5 T2.out) (some ⟨wr.heap.size, 0, none⟩) 1 1 (intC [m]) rfl X2.out (intC_one _) (by have := HLE.out; omega) (by have := HLE.out; unfold maxLen; omega) hs2.out ?_
             intro A6 c6 w6 ho6 hf6 h26
             rw [← intC_append] at ho6
             have t6 := St.appended5 T2.out ho6 hf6 h26
             have s6 : w.heap.size ≤ w6.heap.size := Nat.le_trans hs2.out hf6.size
             have T6 := Lib.hid t6
             have S6 := Lib.hid s6
             clear ho6 hf6 h26 t6 s6))
        go_roundg g1
        case measure => omega
        case rel => exact ⟨k + 1, A6, c6, by omega, by go_num, by rw [HT3.out, List.length_append]; rfl, by rw [HT3.out, List.length_append]; exact T6.out, S6.out⟩
end
end Go.Proofs.Ytdpheliekdgnhaa
