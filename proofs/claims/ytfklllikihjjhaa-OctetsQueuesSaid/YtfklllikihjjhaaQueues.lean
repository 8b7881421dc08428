/- OctetsQueues's walk: whatever the input, true. -/
import Derived.Test.YtfklllikihjjhaaRef
import Derived.Deep.DeepCutAuto
import Derived.Deep.LoopGhost
namespace Go.Proofs.Ytfklllikihjjhaa
open Go.ChangeShapes Go.WideShapes Go.ChangeAt Go.RowKit Go.Own
set_option linter.unusedVariables false

theorem cells36 : Try.prog.cellsOf 36 = 3 := by kernel_rfl
/-- the k-th of the steps -/
theorem op_at {W : World} {A : Option Addr} {n c k : Nat} (s : HoldsT Try.prog W 9 30 [.slice A n c]) (hk : k < n) :
    ∃ (b o : Nat) (kd nn : Int) (B : Option Addr) (len cap : Nat) (xs : List UInt8), A = some ⟨b, o, none⟩ ∧ W.cell? ⟨b, o + k * 3, none⟩ = some (.int .i64 kd) ∧ W.cell? ⟨b, o + k * 3 + 1, none⟩ = some (.int .i64 nn) ∧
      W.cell? ⟨b, o + k * 3 + 2, none⟩ = some (.slice B len cap) ∧ Rd W 1 B len (xs.map BV) ∧ len ≤ cap ∧ cap ≤ 9223372036854775807 := by
  obtain ⟨_, _, _, vs, hr, hv⟩ := s.slice Try.underlying30
  rw [cells36] at hr hv
  have hrd := hr (by omega)
  obtain ⟨b, o, hA, hc⟩ := hrd.2 (by omega)
  have hl := hrd.1
  have h := hv k hk
  have hk3 : k * 3 + 3 ≤ vs.length := by omega
  have h3 : (vs.drop (k * 3)).take 3 = [vs[k * 3], vs[k * 3 + 1], vs[k * 3 + 2]] := by
    rw [List.drop_eq_getElem_cons (by omega), List.drop_eq_getElem_cons (by omega), List.drop_eq_getElem_cons (by omega)]
    rfl
  rw [h3] at h
  unfold HoldsT at h
  rw [Try.underlying36] at h
  obtain ⟨_, hf⟩ := h
  have f0 := hf 0 _ rfl
  have f1 := hf 1 _ rfl
  have f2 := hf 2 _ rfl
  obtain ⟨kd, e0, _⟩ := HoldsT.int Try.underlying3 f0
  obtain ⟨nn, e1, _⟩ := HoldsT.int Try.underlying3 f1
  obtain ⟨B, len, cap, e2⟩ := HoldsT.isSlice Try.underlying22 f2
  rw [e2] at f2
  obtain ⟨h1, h2, _⟩ := f2.slice Try.underlying22
  obtain ⟨xs, hx⟩ := HoldsT.bytes Try.underlying22 Try.underlying5 cells5 f2
  exact ⟨b, o, kd, nn, B, len, cap, xs, hA, by rw [← e0]; exact hc _ _ (List.getElem?_eq_getElem (by omega)), by rw [← e1]; exact hc (k * 3 + 1) _ (List.getElem?_eq_getElem (by omega)),
    by rw [← e2]; exact hc (k * 3 + 2) _ (List.getElem?_eq_getElem (by omega)), hx, h1, h2⟩

theorem RAt.fr {w w' : World} {r m : Nat} {S : List UInt8} {T : Nat → Prop} (h : RAt w r S m) (hf : Fr T w w') (hr : ¬ T r) : RAt w' r S m := ⟨h.1.fr hf hr, h.2⟩
theorem RAt.drewN {w : World} {r m : Nat} {S : List UInt8} (h : RAt w r S m) (n : Nat) : RAt (w.drewN n) r S m := h

theorem QB.fr {B : Nat} {W0 W w' : World} {p most : Nat} {sv : Value} {xs : List UInt8} {T : Nat → Prop} (h : QB B W0 W p sv most xs) (hf : Fr T W w') (hp : ¬ T p) (hs : ∀ g, sv.ownBlock = some g → ¬ T g) (hB : ∀ i, i < W.heap.size → T i → B ≤ i) : QB B W0 w' p sv most xs :=
  ⟨h.at_.fr hf hp hs, h.pge, h.sge, h.below.trans (hf.below h.le hB)⟩
theorem Push_q2 {B : Nat} {W0 W : World} {p most : Nat} {sv : Value} {xs : List UInt8} (h : QB B W0 W p sv most xs) (A : Option Addr) (n cap m : Nat) (ys : List UInt8) (hr : Rd W 1 A n (ys.map BV)) (hc : n ≤ cap) (hcap : cap ≤ 9223372036854775807) (hm : min n (most - xs.length) = m) :
    Calls Try.prog 14 #[.pointer (some ⟨p, 0, none⟩), .slice A n cap] W fun e w' => ∃ sv', e = .returned (.int .i64 m) ∧ QB B W0 w' p sv' most (xs ++ ys.take m) ∧ Fr (fun i => i = p ∨ some i = sv.ownBlock) W w' ∧
      (sv'.ownBlock = sv.ownBlock ∨ ∃ g, sv'.ownBlock = some g ∧ W.heap.size ≤ g) := by
  refine (Push_any p sv most xs A n cap ys W h.at_ hr hc hcap).mono ?_
  rintro e w' ⟨sv', m', rfl, hm', hq, hf, ho⟩
  obtain rfl : m' = m := by omega
  refine ⟨sv', rfl, ⟨hq, h.pge, fun g hg => ?_, h.fr_below hf⟩, hf, ho⟩
  rcases ho with ho | ⟨g', ho, hl⟩
  · exact h.sge g (by rw [← ho]; exact hg)
  · rw [hg] at ho
    injection ho with ho
    subst ho
    have := h.le
    omega
theorem lenQ {B : Nat} {W0 W : World} {p most : Nat} {sv : Value} {xs : List UInt8} (h : QB B W0 W p sv most xs) (n : Nat) (hn : xs.length = n) (q : Nat) :
    Calls Try.prog 20 #[.pointer (some ⟨p, 0, none⟩)] (W.drewN q) fun e w' => e = .returned (.int .i64 n) ∧ ∃ k, w' = W.drewN k :=
  (Len_q (h.drewN q) n hn).mono fun _ _ ⟨he, hw⟩ => ⟨he, q, hw.symm⟩
theorem roomQ {B : Nat} {W0 W : World} {p most : Nat} {sv : Value} {xs : List UInt8} (h : QB B W0 W p sv most xs) (r : Nat) (hn : most - xs.length = r) (q : Nat) :
    Calls Try.prog 21 #[.pointer (some ⟨p, 0, none⟩)] (W.drewN q) fun e w' => e = .returned (.int .i64 r) ∧ ∃ k, w' = W.drewN k :=
  (Room_q (h.drewN q) r hn).mono fun _ _ ⟨he, k, hw⟩ => ⟨he, q + k, by rw [hw, World.drewN_drewN]⟩

set_option maxRecDepth 100000 in
set_option maxHeartbeats 1600000 in
theorem queues_walk {W : World} {most : Int} (wm : (Lit.int .i64 most).wf = true) {A1 : Option Addr} {n1 c1 : Nat} (s1 : HoldsT Try.prog W 9 30 [.slice A1 n1 c1]) :
    Calls Try.prog 4 #[.int .i64 most, .slice A1 n1 c1] W fun e w' => e = .returned (.bool true) ∧ Below W.heap.size W w' := by
  obtain ⟨h1, h2, _⟩ := s1.slice Try.underlying30
  have S1 := Lib.hid s1
  obtain ⟨M, hM⟩ : ∃ M, (max 0 (min most 1000000)).toNat = M := ⟨_, rfl⟩
  have HM := Lib.hid hM
  clear wm s1 hM
  go_enter Try.func4, Try.ntmps4
  go_wp2_with (first
    | (go_at_call 9; (with_reducible refine (shown_any _).mono ?_); rintro e w1 ⟨rfl, hb1⟩; have Hb1 := Lib.hid hb1; clear hb1)
    | (go_at_call 12; (with_reducible refine (New_q W.heap.size W w1 most M Hb1.out Hb1.out.size HM.out).mono ?_); rintro e w2 ⟨p, rfl, hq2, _, _⟩; have Hq2 := Lib.hid hq2; clear hq2)
    | (go_at_call 13; (with_reducible refine (rNew_any most M HM.out w2).mono ?_); rintro e w3 ⟨r, rfl, hr3, hr, hb3⟩; have Hr3 := Lib.hid hr3; have Hb3 := Lib.hid hb3; have Hre := Lib.hid hr; clear hr3 hb3 hr))
  go_loopg [8] 200 (fun g i w' => ∃ (k : Nat) (sv : Value) (xs : List UInt8), g + k = 200 ∧ k ≤ n1 ∧ i = .int .i64 k ∧ QB W.heap.size W w' p sv M xs ∧ RAt w' r xs M ∧ W.heap.size ≤ r ∧ p ≠ r)
  case atStart =>
    have hrp : p ≠ r := by have := Hq2.out.at_.lt.1; have := Hre.out; omega
    have hrW : W.heap.size ≤ r := by have := Hq2.out.le; have := Hre.out; omega
    exact ⟨0, _, [], by omega, by omega, rfl, Hq2.out.keep Hb3.out, Hr3.out, hrW, hrp⟩
  case round =>
    obtain ⟨k, sv, xs, hg, hkn, rfl, hq, hR, hrW, hpr⟩ := hrel
    have Hq := Lib.hid hq
    have HR := Lib.hid hR
    have Hg := Lib.hid hg
    have hk200 : k ≤ 200 := by omega
    clear hq hR hg
    by_cases hlt : k < n1 ∧ k < 200
    · obtain ⟨hlt1, hlt2⟩ := hlt
      obtain ⟨b, o, kd, nn, B, len, cap, ys, rfl, hc0, hc1, hc2, hr, hlc, hcap⟩ := op_at S1.out hlt1
      have hcw0 := (Hq.out.below.cell (p := ⟨b, o + k * 3, none⟩) (World.block_lt_of_cell? W _ hc0)).trans hc0
      have hcw1 := (Hq.out.below.cell (p := ⟨b, o + k * 3 + 1, none⟩) (World.block_lt_of_cell? W _ hc1)).trans hc1
      have hcw2 := (Hq.out.below.cell (p := ⟨b, o + k * 3 + 2, none⟩) (World.block_lt_of_cell? W _ hc2)).trans hc2
      have hys : ys.length = len := by simpa using hr.1
      obtain ⟨nb, hnb⟩ : ∃ nb, min len 2000 = nb := ⟨_, rfl⟩
      have hnc : nb ≤ cap := by omega
      have hn2 : nb ≤ 2000 := by omega
      have hmin1 : (if (2000 : Int) < (len : Int) then (2000 : Int) else (len : Int)) = (nb : Int) := by split <;> omega
      obtain ⟨zs, hzs⟩ : ∃ zs, ys.take nb = zs := ⟨_, rfl⟩
      have hzl : zs.length = nb := by rw [← hzs, List.length_take]; omega
      have hrn : Rd W 1 B nb (zs.map BV) := by have := hr.take (k := nb) (by omega); rw [Nat.mul_one, ← List.map_take, hzs] at this; exact this
      have hrd : Rd ((wr.alloc (.cells #[.int .i64 kd, .int .i64 nn, .slice B len cap] 36)).alloc (.cells #[] 5)) 1 B nb (zs.map BV) :=
        hrn.below (Hq.out.below.trans (((Below.refl _ _).alloc Hq.out.le _).alloc (by simp; have := Hq.out.le; omega) _))
      have how : ((wr.alloc (.cells #[.int .i64 kd, .int .i64 nn, .slice B len cap] 36)).alloc (.cells #[] 5)).ownsRow 0 5 1 (.slice (some ⟨wr.heap.size + 1, 0, none⟩) 0 0) 0 [] := by
        have h := Blk.new (wr.alloc (.cells #[.int .i64 kd, .int .i64 nn, .slice B len cap] 36)) 5 []
        have h2 := own_of_blk (size := 1) (n := 0) (cap := 0) h (by simp) (by omega) (by unfold maxLen; omega)
        simpa using h2
      have Hrd := Lib.hid hrd
      have How := Lib.hid how
      have Hzl := Lib.hid hzl
      clear hc0 hc1 hc2 hr hys hnb hzs hzl hrn hrd how
      go_upto_region 14 with (first
        | (at_builtin
           refine wpList_append_rd rfl (.tmp 41) (.tmp 48) 22 rfl E22 (.slice (some ⟨wr.heap.size + 1, 0, none⟩) 0 0) 0 [] rfl How.out B nb cap (zs.map BV) rfl Hrd.out (BV_one _) (by omega) (by unfold maxLen; omega) (Nat.zero_le _) ?_
           intro A' c' w4 ho hf ho2
           have hcv : (convert 22 9 (.slice A' nb c')).run Try.prog w4 = .ok (.string (St zs)) w4 := conv_rd (by have := Rd.of_own ho; simpa using this)
           have Ho := Lib.hid ho
           have Hf := Lib.hid hf
           have Ho2 := Lib.hid ho2
           clear ho hf ho2))
      have hb4 : Below wr.heap.size wr w4 := (((Below.refl _ _).alloc (Nat.le_refl _) _).alloc (by simp) _).trans (Hf.out.below (by simp; omega) (fun i _ h => by simp [Value.ownBlock] at h; omega))
      have Hq4 := Lib.hid (Hq.out.keep hb4)
      have HR4 := Lib.hid (HR.out.fr (Fr.of_below (S := fun i => wr.heap.size ≤ i) hb4 (fun _ _ h => h)) (by have := HR.out.1.lt; omega))
      have HB4 : Blk w4 wr.heap.size 36 [.int .i64 kd, .int .i64 nn, .slice B len cap] := ((Blk.new wr 36 [.int .i64 kd, .int .i64 nn, .slice B len cap]).alloc _).fr Hf.out (fun e => by simp [Value.ownBlock] at e)
      have hx0 := HB4.cell 0
      have hx1 := HB4.cell 1
      simp only [List.getElem?_cons_zero, List.getElem?_cons_succ] at hx0 hx1
      have Ho4 : Hid (w4.ownsRow 0 5 1 (.slice A' nb c') nb (zs.map BV)) := show World.ownsRow _ _ _ _ _ _ _ by have := Ho.out; simpa using this
      obtain ⟨A'', c'', eA, hnc', hcc', hrb, hoff⟩ := own_shape Ho4.out
      simp only [Value.slice.injEq, true_and] at eA
      obtain ⟨rfl, rfl⟩ := eA
      unfold maxLen at hcc'
      have hgb : ∃ gb, A' = some ⟨gb, 0, none⟩ ∧ wr.heap.size + 1 ≤ gb := by
        rcases A' with _ | ⟨gb, off, spot⟩
        · have := Ho2.out
          simp [Value.ownBlock] at this
        · obtain ⟨h1, h2⟩ := hoff _ rfl
          simp only at h1 h2
          subst h1
          subst h2
          have := Ho2.out
          simp [Value.ownBlock] at this
          exact ⟨gb, rfl, by omega⟩
      obtain ⟨gb, rfl, hgb1⟩ := hgb
      obtain ⟨cur, hcur, _, _, hcurl, _⟩ := own_blk Ho4.out
      have Hcur := Lib.hid hcur
      have hcurn : nb ≤ cur.length := by omega
      have hgbp : gb ≠ p := hcur.ne_ Hq4.out.at_.1 (by decide)
      have hgbr : gb ≠ r := hcur.ne_ HR4.out.1 (by decide)
      have hsvg : ∀ g, sv.ownBlock = some g → g ≠ gb := fun g hg e => by have := (Hq.out.at_.lt).2 g hg; omega
      have Hsvg := Lib.hid hsvg
      have hsvr : ∀ g, sv.ownBlock = some g → g ≠ r := fun g hg e => own_ne_blk Hq4.out.at_.2.1 HR4.out.1 (by decide) (by rw [hg, e])
      have Hsvr := Lib.hid hsvr
      have Hrb := Lib.hid hrb
      have hxsM := Hq.out.at_.2.2.1
      have hM6 := Hq.out.at_.2.2.2
      have hsz4 : gb < w4.heap.size := hcur.lt
      clear Ho Ho2 Hrd How hrb hcw0 hcw1 hcw2 hb4 hoff hcur hsvg hsvr hcurl
      by_cases hk1 : kd = 1
      · subst hk1
        obtain ⟨m, hm⟩ : ∃ m, min nb (M - xs.length) = m := ⟨_, rfl⟩
        have Hm := Lib.hid hm
        obtain ⟨S', hS'⟩ : ∃ S', xs ++ zs.take m = S' := ⟨_, rfl⟩
        obtain ⟨L, hL⟩ : ∃ L, S'.length = L := ⟨_, rfl⟩
        have hLM : L ≤ M := by rw [← hL, ← hS']; simp; omega
        obtain ⟨r2, hr2⟩ : ∃ r2, M - S'.length = r2 := ⟨_, rfl⟩
        have hsum : IntKind.i64.wrap ((M : Int) - (L : Int)) = (r2 : Int) := by rw [IntKind.wrap_i64]; omega
        have hsz := St_size S'
        rw [hL] at hsz
        have HS' := Lib.hid hS'
        have HL := Lib.hid hL
        have Hr2 := Lib.hid hr2
        clear hm hS' hL hr2
        go_upto_region 23 with (first
          | (go_at_call 14; (with_reducible refine (Push_q2 Hq4.out (some ⟨gb, 0, none⟩) nb c' m zs Hrb.out hnc' (by omega) Hm.out).mono ?_); rintro e w5 ⟨sv5, rfl, hq5, hf5, ho5⟩; have Hq5 := Lib.hid hq5; have Hf5 := Lib.hid hf5; have Ho5 := Lib.hid ho5; have HR5 := Lib.hid (HR4.out.fr hf5 (fun h => h.elim (fun e => hpr e.symm) (fun e => Hsvr.out r e.symm rfl))); clear hq5 hf5 ho5)
          | (go_at_call 15; (with_reducible refine (rPush_any r M xs zs m w5 HR5.out (by rw [Hzl.out]; exact Hm.out) (by have := Hzl.out; omega)).mono ?_); rintro e w6 ⟨rfl, hr6, hf6⟩; have HR6 := Lib.hid hr6; have Hf6 := Lib.hid hf6; clear hr6 hf6))
        have hsv5r : ∀ g, sv5.ownBlock = some g → g ≠ r := fun g hg e => own_ne_blk Hq5.out.at_.2.1 HR5.out.1 (by decide) (by rw [hg, e])
        have Hq6 := Lib.hid (Hq5.out.fr Hf6.out hpr hsv5r (fun i _ e => e ▸ hrW))
        have Hcur6 := Lib.hid ((Hcur.out.fr Hf5.out (fun h => h.elim hgbp (fun e => Hsvg.out gb e.symm rfl))).fr Hf6.out hgbr)
        have hsv5g : ∀ g, sv5.ownBlock = some g → g ≠ gb := fun g hg e => by
          rcases Ho5.out with h | ⟨g', h, hl⟩
          · exact Hsvg.out g (by rw [← h]; exact hg) e
          · rw [hg] at h; injection h with h; omega
        have Hsv5g := Lib.hid hsv5g
        rw [HS'.out] at Hq6 HR6
        have hcr0 := HR6.out.1.cell 0
        have hcr1 := HR6.out.1.cell 1
        simp only [List.getElem?_cons_zero, List.getElem?_cons_succ] at hcr0 hcr1
        have hcn : ∀ q, (convert 22 9 (.slice none 0 0)).run Try.prog (w6.drewN q) = .ok (.string ⟨#[]⟩) (w6.drewN q) := fun q => conv_rd (W := w6.drewN q) (xs := []) (Rd.nil _ _ _)
        clear hsv5g hsv5r
        go_quiet ((first | (go_at_call 20; exact lenQ Hq6.out L HL.out _) | (go_at_call 21; exact roomQ Hq6.out r2 Hr2.out _)))
        clear hcn hcr0 hcr1 hsum hsz
        go_wp2_with fail
        go_loopg [14] 1 (fun g i w' => i = .int .i64 0 ∧ w' = w6.drewN nq)
        case atStart => exact ⟨rfl, rfl⟩
        case round =>
          obtain ⟨rfl, rfl⟩ := hrel
          go_wp2_with fail
          go_loopg [15] nb (fun g j w' => ∃ jn : Nat, g + jn = nb ∧ j = .int .i64 jn ∧ (∃ cs, Blk w' gb 5 cs ∧ nb ≤ cs.length) ∧ Fr (fun i => i = gb) (w6.drewN nq) w')
          case atStart => exact ⟨0, by omega, rfl, ⟨cur, Hcur6.out.drewN _, hcurn⟩, Fr.refl _ _⟩
          case round =>
            obtain ⟨jn, hgj, rfl, ⟨cs, hcs, hcsl⟩, hfj⟩ := hrel
            by_cases hj : jn < nb
            · have hcj := hcs.cell jn
              rw [List.getElem?_eq_getElem (by omega)] at hcj
              obtain ⟨old, hold⟩ : ∃ v, cs[jn]'(by omega) = v := ⟨_, rfl⟩
              rw [hold] at hcj
              have hzj := hcs.frozen jn
              have Hcs := Lib.hid hcs
              have Hgj := Lib.hid hgj
              clear hold hcs hgj
              go_wp2
              go_roundg (gk - 1)
              case measure => have := Hgj.out; omega
              case rel => exact ⟨jn + 1, by have := Hgj.out; omega, by go_num, ⟨_, Hcs.out.set_ jn _, by rw [List.length_set]; exact hcsl⟩, hfj.setCell (p := ⟨gb, jn, none⟩) (.inl rfl) _⟩
            · clear hcs
              go_wp2
              go_roundg (200 - (k + 1))
              case measure => have := Hg.out; omega
              case rel =>
                refine ⟨k + 1, sv5, S', by omega, by omega, by go_num, ?_, ?_, hrW, hpr⟩
                · exact (Hq6.out.drewN _).fr hfj (fun e => hgbp e.symm) Hsv5g.out (fun i _ e => by have := Hq.out.le; omega)
                · exact (HR6.out.drewN _).fr hfj (fun e => hgbr e.symm)
      · by_cases hk2 : kd = 2
        · subst hk2
          obtain ⟨K, hK⟩ : ∃ K, (max 0 (min nn xs.length)).toNat = K := ⟨_, rfl⟩
          have hKx : K ≤ xs.length := by omega
          have hKM : K ≤ 1000000 := by omega
          have HK := Lib.hid hK
          have hBg : W.heap.size ≤ gb := by have := Hq.out.le; omega
          have hBW4 : wr.heap.size ≤ w4.heap.size := by omega
          have hBW : W.heap.size ≤ w4.heap.size := by have := Hq4.out.le; omega
          have hstp : wr.heap.size ≠ p := HB4.ne_ Hq4.out.at_.1 (by decide)
          have hsts : ∀ g, sv.ownBlock = some g → g ≠ wr.heap.size := fun g hg e => own_ne_blk Hq4.out.at_.2.1 HB4 (by decide) (by rw [hg, e])
          have hsvlt : ∀ g, sv.ownBlock = some g → g < w4.heap.size := Hq4.out.at_.lt.2
          have hplt : p < w4.heap.size := Hq4.out.at_.lt.1
          have hrlt : r < w4.heap.size := HR4.out.1.lt
          obtain ⟨S', hS'⟩ : ∃ S', xs.drop K = S' := ⟨_, rfl⟩
          obtain ⟨L, hL⟩ : ∃ L, S'.length = L := ⟨_, rfl⟩
          have hLM : L ≤ M := by rw [← hL, ← hS']; rw [List.length_drop]; omega
          obtain ⟨r2, hr2⟩ : ∃ r2, M - S'.length = r2 := ⟨_, rfl⟩
          have hsum : IntKind.i64.wrap ((M : Int) - (L : Int)) = (r2 : Int) := by rw [IntKind.wrap_i64]; omega
          have hsz := St_size S'
          rw [hL] at hsz
          have HS' := Lib.hid hS'
          have HL := Lib.hid hL
          have Hr2 := Lib.hid hr2
          have HB4' := Lib.hid HB4
          have Hsts := Lib.hid hsts
          have Hsvlt := Lib.hid hsvlt
          clear hK hS' hL hr2 HB4 hsts hsvlt
          go_upto_region 23 with (first
            | (go_at_call 16; (with_reducible refine (Pop_q Hq4.out nn K HK.out).mono ?_); rintro e w5 ⟨sv5, go, rfl, hB5, hgo, hq5, hf5, ho5⟩; have Hq5 := Lib.hid hq5; have Hf5 := Lib.hid hf5; have Ho5 := Lib.hid ho5; have HB5 := Lib.hid hB5; have HR5 := Lib.hid (HR4.out.fr hf5 (fun h => h.elim (fun e => hpr e.symm) (fun e => Hsvr.out r e.symm rfl))); have hx5 : w5.cell? ⟨wr.heap.size, 1, none⟩ = some (.int .i64 nn) := (HB4'.out.fr hf5 (fun h => h.elim hstp (fun e => Hsts.out _ e.symm rfl))).cell 1; clear hq5 hf5 ho5 hB5)
            | (go_at_call 17; (with_reducible refine (rPop_any r M xs nn K w5 HR5.out HK.out).mono ?_); rintro e w6 ⟨rfl, hr6, hf6⟩; have HR6a := Lib.hid hr6; have Hf6 := Lib.hid hf6; clear hr6 hf6))
          have hgor : go ≠ r := by omega
          have hgop : go ≠ p := by omega
          have hgbgo : gb ≠ go := by omega
          have hBgo : W.heap.size ≤ go := by omega
          have hsv5r : ∀ g, sv5.ownBlock = some g → g ≠ r := fun g hg e => own_ne_blk Hq5.out.at_.2.1 HR5.out.1 (by decide) (by rw [hg, e])
          have Hq6' := Lib.hid (Hq5.out.fr Hf6.out hpr hsv5r (fun i _ e => e ▸ hrW))
          have Hcur6' := Lib.hid ((Hcur.out.fr Hf5.out (fun h => h.elim hgbp (fun e => Hsvg.out gb e.symm rfl))).fr Hf6.out hgbr)
          have HB6 := Lib.hid (HB5.out.fr Hf6.out hgor)
          have Hsv6g : Hid (∀ g, sv5.ownBlock = some g → g ≠ gb) := fun g hg => Hsvg.out g (by rw [← Ho5.out]; exact hg)
          have Hsv6go : Hid (∀ g, sv5.ownBlock = some g → g ≠ go) := fun g hg e => by have := Hsvlt.out g (by rw [← Ho5.out]; exact hg); omega
          rw [HS'.out] at Hq6' HR6a
          have hcr0 := HR6a.out.1.cell 0
          have hcr1 := HR6a.out.1.cell 1
          simp only [List.getElem?_cons_zero, List.getElem?_cons_succ] at hcr0 hcr1
          have hcn : ∀ q, (convert 22 9 (.slice (some ⟨go, 0, none⟩) K K)).run Try.prog (w6.drewN q) = .ok (.string (St (xs.take K))) (w6.drewN q) := fun q => conv_St (W := w6.drewN q) HB6.out hKx
          clear hsv5r
          go_quiet ((first | (go_at_call 20; exact lenQ Hq6'.out L HL.out _) | (go_at_call 21; exact roomQ Hq6'.out r2 Hr2.out _)))
          clear hcn hcr0 hcr1 hsum hsz hx5
          have Hq6 := Lib.hid (Hq6'.out.drewN nq)
          have Hcur6 := Lib.hid (Hcur6'.out.drewN nq)
          have Hgo6 := Lib.hid (HB6.out.drewN nq)
          have HR6 := Lib.hid (HR6a.out.drewN nq)
          go_wp2_with fail
          go_loopg [14] K (fun g i w' => ∃ jn : Nat, g + jn = K ∧ i = .int .i64 jn ∧ (∃ cs, Blk w' go 5 cs ∧ K ≤ cs.length) ∧ Fr (fun i => i = go) (w6.drewN nq) w')
          case atStart => exact ⟨0, by omega, rfl, ⟨_, Hgo6.out, by rw [List.length_map, List.length_take]; omega⟩, Fr.refl _ _⟩
          case round =>
            obtain ⟨jm, hgm, rfl, ⟨ds, hds, hdsl⟩, hfm⟩ := hrel
            by_cases hjm : jm < K
            · have hcj := hds.cell jm
              rw [List.getElem?_eq_getElem (by omega)] at hcj
              obtain ⟨old, hold⟩ : ∃ v, ds[jm]'(by omega) = v := ⟨_, rfl⟩
              rw [hold] at hcj
              have hzj := hds.frozen jm
              have Hds := Lib.hid hds
              have Hgm := Lib.hid hgm
              clear hold hds hgm
              go_wp2
              go_roundg (gk - 1)
              case measure => have := Hgm.out; omega
              case rel => exact ⟨jm + 1, by have := Hgm.out; omega, by go_num, ⟨_, Hds.out.set_ jm _, by rw [List.length_set]; exact hdsl⟩, hfm.setCell (p := ⟨go, jm, none⟩) (.inl rfl) _⟩
            · have Hq7 := Lib.hid (Hq6.out.fr hfm (fun e => hgop e.symm) Hsv6go.out (fun i _ e => by omega))
              have HR7 := Lib.hid (HR6.out.fr hfm (fun (e : r = go) => hgor e.symm))
              have Hcur7 := Lib.hid (Hcur6.out.fr hfm hgbgo)
              clear hds hfm
              go_wp2_with fail
              go_loopg [15] nb (fun g j w' => ∃ jn : Nat, g + jn = nb ∧ j = .int .i64 jn ∧ (∃ cs, Blk w' gb 5 cs ∧ nb ≤ cs.length) ∧ Fr (fun i => i = gb) wr w')
              case atStart => exact ⟨0, by omega, rfl, ⟨cur, Hcur7.out, hcurn⟩, Fr.refl _ _⟩
              case round =>
                obtain ⟨jn, hgj, rfl, ⟨cs, hcs, hcsl⟩, hfj⟩ := hrel
                by_cases hj : jn < nb
                · have hcj := hcs.cell jn
                  rw [List.getElem?_eq_getElem (by omega)] at hcj
                  obtain ⟨old, hold⟩ : ∃ v, cs[jn]'(by omega) = v := ⟨_, rfl⟩
                  rw [hold] at hcj
                  have hzj := hcs.frozen jn
                  have Hcs := Lib.hid hcs
                  have Hgj := Lib.hid hgj
                  clear hold hcs hgj
                  go_wp2
                  go_roundg (gk - 1)
                  case measure => have := Hgj.out; omega
                  case rel => exact ⟨jn + 1, by have := Hgj.out; omega, by go_num, ⟨_, Hcs.out.set_ jn _, by rw [List.length_set]; exact hcsl⟩, hfj.setCell (p := ⟨gb, jn, none⟩) (.inl rfl) _⟩
                · clear hcs
                  go_wp2
                  go_roundg (200 - (k + 1))
                  case measure => have := Hg.out; omega
                  case rel =>
                    refine ⟨k + 1, sv5, S', by omega, by omega, by go_num, ?_, ?_, hrW, hpr⟩
                    · exact Hq7.out.fr hfj (fun e => hgbp e.symm) Hsv6g.out (fun i _ e => by omega)
                    · exact HR7.out.fr hfj (fun e => hgbr e.symm)
        · have hk12 : (kd == 1) = false := by simpa using hk1
          have hk22 : (kd == 2) = false := by simpa using hk2
          obtain ⟨K, hK⟩ : ∃ K, (max 0 (min nn xs.length)).toNat = K := ⟨_, rfl⟩
          have hKx : K ≤ xs.length := by omega
          have hKM : K ≤ 1000000 := by omega
          have HK := Lib.hid hK
          have hBg : W.heap.size ≤ gb := by have := Hq.out.le; omega
          have hBW4 : wr.heap.size ≤ w4.heap.size := by omega
          have hBW : W.heap.size ≤ w4.heap.size := by have := Hq4.out.le; omega
          have hstp : wr.heap.size ≠ p := HB4.ne_ Hq4.out.at_.1 (by decide)
          have hsts : ∀ g, sv.ownBlock = some g → g ≠ wr.heap.size := fun g hg e => own_ne_blk Hq4.out.at_.2.1 HB4 (by decide) (by rw [hg, e])
          have hsvlt : ∀ g, sv.ownBlock = some g → g < w4.heap.size := Hq4.out.at_.lt.2
          have hplt : p < w4.heap.size := Hq4.out.at_.lt.1
          have hrlt : r < w4.heap.size := HR4.out.1.lt
          obtain ⟨S', hS'⟩ : ∃ S', xs = S' := ⟨_, rfl⟩
          obtain ⟨L, hL⟩ : ∃ L, S'.length = L := ⟨_, rfl⟩
          have hLM : L ≤ M := by rw [← hL, ← hS']; omega
          obtain ⟨r2, hr2⟩ : ∃ r2, M - S'.length = r2 := ⟨_, rfl⟩
          have hsum : IntKind.i64.wrap ((M : Int) - (L : Int)) = (r2 : Int) := by rw [IntKind.wrap_i64]; omega
          have hsz := St_size S'
          rw [hL] at hsz
          have HS' := Lib.hid hS'
          have HL := Lib.hid hL
          have Hr2 := Lib.hid hr2
          have HB4' := Lib.hid HB4
          have Hsts := Lib.hid hsts
          have Hsvlt := Lib.hid hsvlt
          clear hK hS' hL hr2 HB4 hsts hsvlt
          go_upto_region 23 with (first
            | (go_at_call 18; (with_reducible refine (Peek_q Hq4.out nn K HK.out).mono ?_); rintro e w5 ⟨go, rfl, hB5, hgo, hq5, hb5⟩; have Hq5 := Lib.hid hq5; have Hb5 := Lib.hid hb5; have HB5 := Lib.hid hB5; have HR5 := Lib.hid (HR4.out.fr (Fr.of_below (S := fun i => w4.heap.size ≤ i) hb5 (fun _ _ h => h)) (by omega)); have hx5 : w5.cell? ⟨wr.heap.size, 1, none⟩ = some (.int .i64 nn) := (HB4'.out.below hb5 HB4'.out.lt).cell 1; clear hq5 hb5 hB5)
            | (go_at_call 19; (with_reducible refine (rPeek_any r M xs nn K w5 HR5.out HK.out).mono ?_); rintro e w6 ⟨rfl, q6, hw6⟩
               have Hq6' : Hid (QB W.heap.size W w6 p sv M xs) := show QB W.heap.size W w6 p sv M xs by rw [hw6]; exact Hq5.out.drewN q6
               have HR6a : Hid (RAt w6 r xs M) := show RAt w6 r xs M by rw [hw6]; exact HR5.out.drewN q6
               have HB6 : Hid (Blk w6 go 5 ((xs.take K).map BV)) := show Blk w6 go 5 ((xs.take K).map BV) by rw [hw6]; exact HB5.out.drewN q6
               have Hb6 : Hid (Below w4.heap.size w4 w6) := show Below w4.heap.size w4 w6 by rw [hw6]; exact below_drewN Hb5.out q6
               clear hw6))
          have hgor : go ≠ r := by omega
          have hgop : go ≠ p := by omega
          have hgbgo : gb ≠ go := by omega
          have hBgo : W.heap.size ≤ go := by omega
          have Hcur6' := Lib.hid (Hcur.out.below Hb6.out hsz4)
          have Hsv6g : Hid (∀ g, sv.ownBlock = some g → g ≠ gb) := Hsvg.out
          have Hsv6go : Hid (∀ g, sv.ownBlock = some g → g ≠ go) := fun g hg e => by have := Hsvlt.out g hg; omega
          rw [HS'.out] at Hq6' HR6a
          have hcr0 := HR6a.out.1.cell 0
          have hcr1 := HR6a.out.1.cell 1
          simp only [List.getElem?_cons_zero, List.getElem?_cons_succ] at hcr0 hcr1
          have hcn : ∀ q, (convert 22 9 (.slice (some ⟨go, 0, none⟩) K K)).run Try.prog (w6.drewN q) = .ok (.string (St (xs.take K))) (w6.drewN q) := fun q => conv_St (W := w6.drewN q) HB6.out hKx
          go_quiet ((first | (go_at_call 20; exact lenQ Hq6'.out L HL.out _) | (go_at_call 21; exact roomQ Hq6'.out r2 Hr2.out _)))
          clear hcn hcr0 hcr1 hsum hsz hx5
          have Hq6 := Lib.hid (Hq6'.out.drewN nq)
          have HR6 := Lib.hid (HR6a.out.drewN nq)
          have Hcur6 := Lib.hid (Hcur6'.out.drewN nq)
          have Hgo6 := Lib.hid (HB6.out.drewN nq)
          go_wp2_with fail
          go_loopg [14] K (fun g i w' => ∃ jn : Nat, g + jn = K ∧ i = .int .i64 jn ∧ (∃ cs, Blk w' go 5 cs ∧ K ≤ cs.length) ∧ Fr (fun i => i = go) (w6.drewN nq) w')
          case atStart => exact ⟨0, by omega, rfl, ⟨_, Hgo6.out, by rw [List.length_map, List.length_take]; omega⟩, Fr.refl _ _⟩
          case round =>
            obtain ⟨jm, hgm, rfl, ⟨ds, hds, hdsl⟩, hfm⟩ := hrel
            by_cases hjm : jm < K
            · have hcj := hds.cell jm
              rw [List.getElem?_eq_getElem (by omega)] at hcj
              obtain ⟨old, hold⟩ : ∃ v, ds[jm]'(by omega) = v := ⟨_, rfl⟩
              rw [hold] at hcj
              have hzj := hds.frozen jm
              have Hds := Lib.hid hds
              have Hgm := Lib.hid hgm
              clear hold hds hgm
              go_wp2
              go_roundg (gk - 1)
              case measure => have := Hgm.out; omega
              case rel => exact ⟨jm + 1, by have := Hgm.out; omega, by go_num, ⟨_, Hds.out.set_ jm _, by rw [List.length_set]; exact hdsl⟩, hfm.setCell (p := ⟨go, jm, none⟩) (.inl rfl) _⟩
            · have Hq7 := Lib.hid (Hq6.out.fr hfm (fun e => hgop e.symm) Hsv6go.out (fun i _ e => by omega))
              have HR7 := Lib.hid (HR6.out.fr hfm (fun (e : r = go) => hgor e.symm))
              have Hcur7 := Lib.hid (Hcur6.out.fr hfm hgbgo)
              clear hds hfm
              go_wp2_with fail
              go_loopg [15] nb (fun g j w' => ∃ jn : Nat, g + jn = nb ∧ j = .int .i64 jn ∧ (∃ cs, Blk w' gb 5 cs ∧ nb ≤ cs.length) ∧ Fr (fun i => i = gb) wr w')
              case atStart => exact ⟨0, by omega, rfl, ⟨cur, Hcur7.out, hcurn⟩, Fr.refl _ _⟩
              case round =>
                obtain ⟨jn, hgj, rfl, ⟨cs, hcs, hcsl⟩, hfj⟩ := hrel
                by_cases hj : jn < nb
                · have hcj := hcs.cell jn
                  rw [List.getElem?_eq_getElem (by omega)] at hcj
                  obtain ⟨old, hold⟩ : ∃ v, cs[jn]'(by omega) = v := ⟨_, rfl⟩
                  rw [hold] at hcj
                  have hzj := hcs.frozen jn
                  have Hcs := Lib.hid hcs
                  have Hgj := Lib.hid hgj
                  clear hold hcs hgj
                  go_wp2
                  go_roundg (gk - 1)
                  case measure => have := Hgj.out; omega
                  case rel => exact ⟨jn + 1, by have := Hgj.out; omega, by go_num, ⟨_, Hcs.out.set_ jn _, by rw [List.length_set]; exact hcsl⟩, hfj.setCell (p := ⟨gb, jn, none⟩) (.inl rfl) _⟩
                · clear hcs
                  go_wp2
                  go_roundg (200 - (k + 1))
                  case measure => have := Hg.out; omega
                  case rel =>
                    refine ⟨k + 1, sv, S', by omega, by omega, by go_num, ?_, ?_, hrW, hpr⟩
                    · exact Hq7.out.fr hfj (fun e => hgbp e.symm) Hsv6g.out (fun i _ e => by omega)
                    · exact HR7.out.fr hfj (fun e => hgbr e.symm)
    · have hx : (n1 ≤ k) ∨ (k < n1 ∧ 200 ≤ k) := by omega
      clear hlt
      rcases hx with hx | ⟨hx, hx2⟩
      all_goals
        go_wp2
        go_ret
        exact ⟨rfl, Hq.out.below⟩
end Go.Proofs.Ytfklllikihjjhaa
