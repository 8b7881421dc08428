/- Stage 10: FieldsTurns, the walk. -/
import Derived.Test.YtilabahcngjflaaDoorJlF
import Derived.Test.YtilabahcngjflaaDoorJlC
import Derived.Test.YtilabahcngjflaaDoorJiY
import Derived.Deep.Cut
import Derived.Deep.DeepCutAuto
import Derived.Deep.CutBlock
namespace Go.Proofs.YtilabahcngjflaaDoor
open Go.RowKit Go.Own Go.Tbl Go.Fie
set_option linter.unusedVariables false
set_option linter.unusedSimpArgs false
set_option maxRecDepth 100000
theorem fcellsL_set : ∀ (L : List Fld) (p : Nat) (f : Fld), fcellsL (L.set p f) = (((fcellsL L).set (p * 3) (.string f.n)).set (p * 3 + 1) (.string f.v)).set (p * 3 + 2) (.bool f.nv)
  | [], p, f => by simp [fcellsL]
  | g :: r, 0, f => by simp [fcellsL, fcells]
  | g :: r, p + 1, f => by
    have e : (p + 1) * 3 = p * 3 + 3 := by omega
    rw [List.set_cons_succ, fcellsL, fcellsL_set r p f, fcellsL, e]
    simp [fcells, List.set_cons_succ]
theorem own_put {w : World} {base : Nat} {g n c : Nat} {L : List Fld} (h : w.ownsRow base 34 3 (.slice (some ⟨g, 0, none⟩) n c) n (fcellsL L)) (p : Nat) (f : Fld) :
    (((w.setCell ⟨g, p * 3, none⟩ (.string f.n)).setCell ⟨g, p * 3 + 1, none⟩ (.string f.v)).setCell ⟨g, p * 3 + 2, none⟩ (.bool f.nv)).ownsRow base 34 3 (.slice (some ⟨g, 0, none⟩) n c) n (fcellsL (L.set p f)) := by
  have hl := h.1
  rw [fcellsL_length] at hl
  refine ⟨by rw [fcellsL_length, List.length_set]; exact hl, ?_⟩
  rcases h.2 with ⟨hn, _⟩ | ⟨g', cap, cur, hv, hb, hgg, h1, h2, h3, h4⟩
  · cases hn
  injection hv with hg _ hc
  injection hg with hg
  injection hg with hg
  subst hg hc
  have hB : Blk w g 34 cur.toList := by unfold Blk; rw [hgg]
  have h5 := ((hB.set_ (p * 3) (.string f.n)).set_ (p * 3 + 1) (.string f.v)).set_ (p * 3 + 2) (.bool f.nv)
  refine .inr ⟨g, c, _, rfl, hb, h5, h1, h2, ?_, ?_⟩
  · simp [h3]
  · rw [fcellsL_set, ← h4]
    simp [List.take_set]
theorem szs_perm {l l' : List Fld} (h : l.Perm l') : szs l = szs l' := by
  induction h with
  | nil => rfl
  | cons x _ ih => rw [szs, szs, ih]
  | swap x y l => simp only [szs]; omega
  | trans _ _ h1 h2 => exact h1.trans h2
theorem szs_le : ∀ (L : List Fld), (∀ f ∈ L, f.n.size ≤ 2000 ∧ f.v.size ≤ 2000) → szs L ≤ L.length * 4032
  | [], _ => by simp [szs]
  | f :: r, h => by
    have h1 := h f List.mem_cons_self
    have h2 := szs_le r (fun g hg => h g (List.mem_cons_of_mem _ hg))
    rw [szs, List.length_cons]
    unfold sz
    omega
theorem own_addr {w : World} {base n c : Nat} {A : Option Addr} {xs : List Value} (h : w.ownsRow base 34 3 (.slice A n c) n xs) (hn : n ≠ 0) : ∃ g, A = some ⟨g, 0, none⟩ := by
  rcases h.2 with ⟨_, h0⟩ | ⟨g, cap, cur, hv, _⟩
  · exact absurd h0 hn
  · injection hv with hA
    exact ⟨g, hA⟩
theorem own_frz {w : World} {base g n c : Nat} {xs : List Value} (h : w.ownsRow base 34 3 (.slice (some ⟨g, 0, none⟩) n c) n xs) (hn : n ≠ 0) : (∃ cs, Blk w g 34 cs) ∧ ∀ i, w.frozen? ⟨g, i, none⟩ = false := by
  rcases h.2 with ⟨_, h0⟩ | ⟨g', cap, cur, hv, _, hgg, _⟩
  · exact absurd h0 hn
  · injection hv with hA _ _
    injection hA with hA
    injection hA with hA
    subst hA
    have hB : Blk w g 34 cur.toList := by unfold Blk; rw [hgg]
    exact ⟨⟨_, hB⟩, hB.frozen⟩
theorem mod_at (z : Int) (m : Nat) (hm : 2 ≤ m) : ∃ i, i < m ∧ (bits .and .i64 z 255) % (m : Int) = (i : Int) ∧ 0 ≤ bits .and .i64 z 255 ∧ bits .and .i64 z 255 ≤ 255 := by
  obtain ⟨a1, a2⟩ := and_bd z 255 (by omega) 255 rfl
  obtain ⟨xa, hxa⟩ := Int.eq_ofNat_of_zero_le a1
  refine ⟨xa % m, Nat.mod_lt _ (by omega), ?_, a1, a2⟩
  rw [hxa]
  simp
set_option maxHeartbeats 16000000 in
theorem lawTurns {W : World} {A : Option Addr} {n c : Nat} {l : List Fld} (s : FldsIn W A n c l) {x : Int} (hx : (Lit.int .i64 x).wf = true) {y : Int} (hy : (Lit.int .i64 y).wf = true) (hC : True) : Calls Tryd.prog 8 #[.slice A n c, .int .i64 x, .int .i64 y] W fun e w' => e = .returned (.bool true) ∧ Below W.heap.size W w' := by
  have G0 := Lib.hid (shown_c W)
  have hrd := s.rd
  have hok := s.ok
  have hn : n ≤ 9223372036854775807 := Nat.le_trans s.nc s.cm
  have HR := Lib.hid hrd
  have HO := Lib.hid hok
  obtain ⟨F, hF⟩ : ∃ F, fewL 60 l = F := ⟨_, rfl⟩
  have HF := Lib.hid hF
  have HFs : Hid (∀ f ∈ F, f.n.size ≤ 2000 ∧ f.v.size ≤ 2000) := by rw [← hF]; exact few_sz
  have HFl : Hid (F.length ≤ 60) := by rw [← hF]; exact few_len 60 l
  clear hrd hok s hx hy hF
  go_enter Tryd.func8, Tryd.ntmps8
  go_upto_region 5 with (first
    | (go_at_call 10; (with_reducible refine G0.out.mono ?_); rintro e w1 ⟨rfl, hb1⟩
       have B1 := Lib.hid hb1
       have G1 := Lib.hid (few_c (c := c) (HR.out.below hb1) hn HO.out 60 (by omega) 60 rfl)
       clear hb1 G0)
    | (go_at_call 11; (with_reducible refine G1.out.mono ?_); rintro e w2 ⟨Af, cf, m, rfl, hm, s2⟩
       rw [HF.out] at hm s2
       have hml : m ≤ 60 := hm ▸ HFl.out
       have R2 := Lib.hid (Rd.of_own s2.own0)
       have B2 := Lib.hid (below_from B1.out s2.below)
       have HM := Lib.hid hm
       clear hm s2 B1 G1))
  clear HR HO HF
  go_loopg [8, 9] m (fun gh cv i w' => ∃ k, gh + k = m ∧ cv = .int .i64 (((F.take k).filter isC).length : Int) ∧ i = .int .i64 (k : Int) ∧ w' = w2)
  case atStart => exact ⟨0, by omega, rfl, rfl, rfl⟩
  case round =>
    obtain ⟨k, hk, rfl, rfl, hw⟩ := hrel
    obtain rfl : w2 = wr := hw.symm
    cases gk with
    | succ g1 =>
      have hkN : k < m := by omega
      obtain ⟨f, hf⟩ : ∃ f, F[k]? = some f := ⟨_, List.getElem?_eq_getElem (by rw [HM.out]; exact hkN)⟩
      obtain ⟨b1, o1, hA, d0, d1, d2⟩ := rd_fld R2.out hf
      cases hA
      have k1 : (k : Int) < (m : Int) := by omega
      have hs : (F.take (k + 1)) = F.take k ++ [f] := by rw [List.take_add_one, hf]; rfl
      have hc := cntC_snoc (F.take k) f
      rw [← hs] at hc
      have hcl : ((F.take k).filter isC).length ≤ 60 := by
        have := List.length_filter_le isC (F.take k)
        rw [List.length_take] at this
        omega
      obtain ⟨q, hq⟩ : ∃ q, ((F.take k).filter isC).length = q := ⟨_, rfl⟩
      rw [hq] at hc hcl
      have eN := eqL f.n [99, 111, 110, 116, 101, 110, 116, 45, 108, 101, 110, 103, 116, 104]
      obtain ⟨bc, hbc⟩ : ∃ b, isC f = b := ⟨_, rfl⟩
      rw [hbc] at hc
      have eN2 : (f.n.toList == [99, 111, 110, 116, 101, 110, 116, 45, 108, 101, 110, 103, 116, 104]) = bc := eN.trans hbc
      have HQ := Lib.hid hq
      have HC := Lib.hid hc
      obtain ⟨N, V, nv⟩ := f
      simp only at d0 d1 d2 eN2
      clear hf hs hc eN hbc hq
      rw [HQ.out]
      cases bc
      · go_wp2
        go_roundg g1
        case measure => omega
        case rel => exact ⟨k + 1, by omega, by rw [HC.out]; rfl, by go_num, rfl⟩
      · go_wp2
        go_roundg g1
        case measure => omega
        case rel => exact ⟨k + 1, by omega, by rw [HC.out]; first | rfl | (congr 1; simp), by go_num, rfl⟩
    | zero =>
      obtain rfl : m = k := by omega
      have htk : F.take m = F := List.take_of_length_le (by rw [HM.out]; exact Nat.le_refl _)
      rw [htk]
      obtain ⟨q, hq⟩ : ∃ q, (F.filter isC).length = q := ⟨_, rfl⟩
      rw [hq]
      clear htk hk
      have HQ := Lib.hid hq
      clear hq
      by_cases h2 : m < 2
      · have k1 : (m : Int) < 2 := by omega
        go_wp2
        all_goals
          go_ret
          exact ⟨rfl, B2.out⟩
      by_cases h1 : 1 < q
      · have k1 : ¬ (m : Int) < 2 := by omega
        have k2 : (1 : Int) < (q : Int) := by omega
        go_wp2
        all_goals
          go_ret
          exact ⟨rfl, B2.out⟩
      have k1 : ¬ (m : Int) < 2 := by omega
      have k2 : ¬ (1 : Int) < (q : Int) := by omega
      obtain ⟨i, li, ei, i0, i1⟩ := mod_at x m (by omega)
      obtain ⟨k, lk, ek, j0, j1⟩ := mod_at y m (by omega)
      obtain ⟨xi, hxi⟩ : ∃ z, bits .and .i64 x 255 = z := ⟨_, rfl⟩
      obtain ⟨yk, hyk⟩ : ∃ z, bits .and .i64 y 255 = z := ⟨_, rfl⟩
      rw [hxi] at ei i0 i1
      rw [hyk] at ek j0 j1
      obtain ⟨pi, hpi⟩ : ∃ p, 1 + i = p := ⟨_, rfl⟩
      obtain ⟨pk, hpk⟩ : ∃ p, 1 + k = p := ⟨_, rfl⟩
      have epi : (1 : Int) + (i : Int) = (pi : Int) := by omega
      have epk : (1 : Int) + (k : Int) = (pk : Int) := by omega
      have G2 := Lib.hid (of_b (w := w2) _ rfl [.string nStatus, .string n200] 2 2 1 [(nStatus, n200)] rfl rfl rfl (by omega))
      go_upto_region 16 with (first
        | (go_at_call 18; (with_reducible refine G2.out.mono ?_); rintro e w5 ⟨A5, c5, rfl, ho5, hb5⟩
           have B5 := Lib.hid (below_from B2.out hb5)
           have R5 := Lib.hid (R2.out.below hb5)
           have T5 : Hid (Rd w5 3 A5 1 (fcellsL top2)) := Rd.of_own ho5
           have E6 := Lib.hid (own_empty w5)
           have L6 := Lib.hid (below_al (Below.refl w5.heap.size w5) (.cells #[] 34))
           have C6 := Lib.hid (T5.out.below L6.out)
           clear ho5 hb5 G2 B2 R2)
        | (at_builtin
           refine wpList_append_new rfl (.tmp 44) (.tmp 45) 22 rfl EF (.slice (some ⟨w5.heap.size, 0, none⟩) 0 0) rfl E6.out A5 1 c5 (fcellsL top2) rfl C6.out (fcells_one _) (by omega) (by unfold maxLen; omega) (by simp) ?_
           intro A6 c6 w6 ho6 hf6 ho26
           have L7 := Lib.hid (app_below L6.out E6.out hf6)
           have O6 := Lib.hid ho6
           have C7 := Lib.hid (R5.out.below L7.out)
           clear ho6 hf6 ho26 E6 L6 C6)
        | (at_builtin
           refine wpList_append_rd rfl (.tmp 46) (.tmp 47) 22 rfl EF (.slice A6 1 c6) 1 (fcellsL top2) rfl O6.out Af m cf (fcellsL F) rfl C7.out (fcells_one _) (by omega) (by unfold maxLen; omega) L7.out.size ?_
           intro A7 c7 w7 ho7 hf7 ho27
           rw [← fcellsL_append] at ho7
           have l7 := app_below L7.out O6.out hf7
           have RA := Lib.hid (Rd.of_own ho7)
           have B7 := Lib.hid (below_from B5.out l7)
           have R7 := Lib.hid (R5.out.below l7)
           have T7 := Lib.hid (T5.out.below l7)
           have E8 := Lib.hid (own_empty w7)
           have L8 := Lib.hid (below_al (Below.refl w7.heap.size w7) (.cells #[] 34))
           have C8 := Lib.hid (T7.out.below L8.out)
           clear ho7 hf7 ho27 l7 O6 L7 C7 B5 R5 T5)
        | (at_builtin
           refine wpList_append_new rfl (.tmp 49) (.tmp 50) 22 rfl EF (.slice (some ⟨w7.heap.size, 0, none⟩) 0 0) rfl E8.out A5 1 c5 (fcellsL top2) rfl C8.out (fcells_one _) (by omega) (by unfold maxLen; omega) (by simp) ?_
           intro A9 c9 w9 ho9 hf9 ho29
           have L9 := Lib.hid (app_below L8.out E8.out hf9)
           have O9 := Lib.hid ho9
           have C9 := Lib.hid (R7.out.below L9.out)
           clear ho9 hf9 ho29 E8 L8 C8)
        | (at_builtin
           refine wpList_append_rd rfl (.tmp 51) (.tmp 52) 22 rfl EF (.slice A9 1 c9) 1 (fcellsL top2) rfl O9.out Af m cf (fcellsL F) rfl C9.out (fcells_one _) (by omega) (by unfold maxLen; omega) L9.out.size ?_
           intro A10 c10 w10 ho10 hf10 ho210
           rw [← fcellsL_append] at ho10
           have L10 := Lib.hid (app_below L9.out O9.out hf10)
           obtain ⟨g, hg⟩ := own_addr ho10 (by omega)
           subst hg
           have O10 := Lib.hid ho10
           clear ho10 hf10 ho210 O9 L9 C9 R7 T7))
      obtain ⟨fi, hfi⟩ : ∃ f, F[i]? = some f := ⟨_, List.getElem?_eq_getElem (by rw [HM.out]; exact li)⟩
      obtain ⟨fk, hfk⟩ : ∃ f, F[k]? = some f := ⟨_, List.getElem?_eq_getElem (by rw [HM.out]; exact lk)⟩
      have hti : (top2 ++ F)[pi]? = some fi := by rw [← hpi, Nat.add_comm]; exact hfi
      have htk : (top2 ++ F)[pk]? = some fk := by rw [← hpk, Nat.add_comm]; exact hfk
      have hlen : (top2 ++ F).length = 1 + m := by rw [List.length_append, HM.out]; rfl
      obtain ⟨Ni, Vi, ni⟩ := fi
      obtain ⟨Nk, Vk, nk⟩ := fk
      have HTI := Lib.hid hti
      have HTK := Lib.hid htk
      have HFI := Lib.hid hfi
      have HFK := Lib.hid hfk
      have HLE := Lib.hid hlen
      have lpi : (pi : Int) < ((1 + m : Nat) : Int) := by omega
      have lpk : (pk : Int) < ((1 + m : Nat) : Int) := by omega
      have upi : (pi : Int) < 1 + (m : Int) := by omega
      have upk : (pk : Int) < 1 + (m : Int) := by omega
      have HI := Lib.hid hpi
      have HK2 := Lib.hid hpk
      clear hti htk hfi hfk hlen hpi hpk ei ek i0 i1 j0 j1 epi epk hxi hyk
      go_cut [6] (fun s wx => s = .bool false ∧ wx.ownsRow w7.heap.size 34 3 (.slice (some ⟨g, 0, none⟩) (1 + m) c10) (1 + m) (fcellsL (turn (top2 ++ F) pi pk ⟨Nk, Vk, nk⟩ ⟨Ni, Vi, ni⟩)) ∧ Fr (· = g) w10 wx)
      case first =>
        have hbd : Below w10.heap.size w10 w10.drew := (Below.refl w10.heap.size w10).drew
        have OD := Lib.hid (own_below O10.out hbd)
        have FD : Hid (Fr (· = g) w10 w10.drew) := Lib.hid ((Fr.refl _ _).drew)
        clear hbd
        refine wp_region_held_drew (S := fun _ => True) (by kernel_rfl) trivial (fun hHeld => ?_)
        generalize w10.drew = wd at OD FD ⊢
        obtain ⟨b3, o3, h3, d0, d1, d2⟩ := rd_fld (Rd.of_own OD.out) HTK.out
        cases h3
        obtain ⟨b4, o4, h4, e0, e1, e2⟩ := rd_fld (Rd.of_own OD.out) HTI.out
        cases h4
        simp only [Nat.zero_add] at d0 d1 d2 e0 e1 e2
        obtain ⟨fb, fx⟩ := own_frz OD.out (by omega)
        refine wpAnyH_take (i := 0) (oi := { dst := some 66, op := Op.move (Operand.tmp 12), type := 22, pos := "more.go:70", after := #[], guard := none }) (v := ?_) rfl (by kernel_rfl) (by kernel_rfl) (by kernel_rfl) (fun _ _ _ h => h) (Or.inl ⟨by kernel_rfl, ?_⟩) hHeld ?_
        rotate_left
        · intro w hSw; (try dsimp only at hSw); go_simp; try with_reducible rfl
        simp only [Act.put, List.setIfInBounds_toArray, List.set_cons_zero, List.set_cons_succ]
        refine wpAnyH_take (i := 1) (oi := { dst := some 67, op := Op.move (Operand.tmp 1), type := 3, pos := "more.go:70", after := #[], guard := none }) (v := ?_) rfl (by kernel_rfl) (by kernel_rfl) (by kernel_rfl) (fun _ _ _ h => h) (Or.inl ⟨by kernel_rfl, ?_⟩) hHeld ?_
        rotate_left
        · intro w hSw; (try dsimp only at hSw); go_simp; try with_reducible rfl
        simp only [Act.put, List.setIfInBounds_toArray, List.set_cons_zero, List.set_cons_succ]
        refine wpAnyH_take (i := 2) (oi := { dst := some 68, op := Op.move (Operand.tmp 12), type := 22, pos := "more.go:70", after := #[{ on := 13, ground := Ground.gcOnly Departure.lateStores }], guard := none }) (v := ?_) rfl (by kernel_rfl) (by kernel_rfl) (by kernel_rfl) (fun _ _ _ h => h) (Or.inl ⟨by kernel_rfl, ?_⟩) hHeld ?_
        rotate_left
        · intro w hSw; (try dsimp only at hSw); go_simp; try with_reducible rfl
        simp only [Act.put, List.setIfInBounds_toArray, List.set_cons_zero, List.set_cons_succ]
        refine wpAnyH_take (i := 3) (oi := { dst := some 69, op := Op.move (Operand.tmp 2), type := 3, pos := "more.go:70", after := #[{ on := 13, ground := Ground.gcOnly Departure.lateStores }], guard := none }) (v := ?_) rfl (by kernel_rfl) (by kernel_rfl) (by kernel_rfl) (fun _ _ _ h => h) (Or.inl ⟨by kernel_rfl, ?_⟩) hHeld ?_
        rotate_left
        · intro w hSw; (try dsimp only at hSw); go_simp; try with_reducible rfl
        simp only [Act.put, List.setIfInBounds_toArray, List.set_cons_zero, List.set_cons_succ]
        refine wpAnyH_take (i := 4) (oi := { dst := some 70, op := Op.move (Operand.tmp 12), type := 22, pos := "more.go:70", after := #[], guard := none }) (v := ?_) rfl (by kernel_rfl) (by kernel_rfl) (by kernel_rfl) (fun _ _ _ h => h) (Or.inl ⟨by kernel_rfl, ?_⟩) hHeld ?_
        rotate_left
        · intro w hSw; (try dsimp only at hSw); go_simp; try with_reducible rfl
        simp only [Act.put, List.setIfInBounds_toArray, List.set_cons_zero, List.set_cons_succ]
        refine wpAnyH_take (i := 5) (oi := { dst := some 71, op := Op.move (Operand.tmp 2), type := 3, pos := "more.go:70", after := #[], guard := none }) (v := ?_) rfl (by kernel_rfl) (by kernel_rfl) (by kernel_rfl) (fun _ _ _ h => h) (Or.inl ⟨by kernel_rfl, ?_⟩) hHeld ?_
        rotate_left
        · intro w hSw; (try dsimp only at hSw); go_simp; try with_reducible rfl
        simp only [Act.put, List.setIfInBounds_toArray, List.set_cons_zero, List.set_cons_succ]
        refine wpAnyH_take (i := 6) (oi := { dst := some 72, op := Op.indexAddr 22 (Operand.tmp 70) (Operand.tmp 71), type := 0, pos := "more.go:70", after := #[{ on := 4, ground := Ground.data }, { on := 5, ground := Ground.data }], guard := none }) (v := ?_) rfl (by kernel_rfl) (by kernel_rfl) (by kernel_rfl) (fun _ _ _ h => h) (Or.inl ⟨by kernel_rfl, ?_⟩) hHeld ?_
        rotate_left
        · intro w hSw; (try dsimp only at hSw); go_simp; try with_reducible rfl
        simp only [Act.put, List.setIfInBounds_toArray, List.set_cons_zero, List.set_cons_succ]
        refine wpAnyH_take (i := 8) (oi := { dst := some 74, op := Op.move (Operand.tmp 12), type := 22, pos := "more.go:70", after := #[], guard := none }) (v := ?_) rfl (by kernel_rfl) (by kernel_rfl) (by kernel_rfl) (fun _ _ _ h => h) (Or.inl ⟨by kernel_rfl, ?_⟩) hHeld ?_
        rotate_left
        · intro w hSw; (try dsimp only at hSw); go_simp; try with_reducible rfl
        simp only [Act.put, List.setIfInBounds_toArray, List.set_cons_zero, List.set_cons_succ]
        refine wpAnyH_take (i := 9) (oi := { dst := some 75, op := Op.move (Operand.tmp 1), type := 3, pos := "more.go:70", after := #[], guard := none }) (v := ?_) rfl (by kernel_rfl) (by kernel_rfl) (by kernel_rfl) (fun _ _ _ h => h) (Or.inl ⟨by kernel_rfl, ?_⟩) hHeld ?_
        rotate_left
        · intro w hSw; (try dsimp only at hSw); go_simp; try with_reducible rfl
        simp only [Act.put, List.setIfInBounds_toArray, List.set_cons_zero, List.set_cons_succ]
        refine wpAnyH_take (i := 10) (oi := { dst := some 76, op := Op.indexAddr 22 (Operand.tmp 74) (Operand.tmp 75), type := 0, pos := "more.go:70", after := #[{ on := 8, ground := Ground.data }, { on := 9, ground := Ground.data }], guard := none }) (v := ?_) rfl (by kernel_rfl) (by kernel_rfl) (by kernel_rfl) (fun _ _ _ h => h) (Or.inl ⟨by kernel_rfl, ?_⟩) hHeld ?_
        rotate_left
        · intro w hSw; (try dsimp only at hSw); go_simp; try with_reducible rfl
        simp only [Act.put, List.setIfInBounds_toArray, List.set_cons_zero, List.set_cons_succ]
        refine wpAnyH_ready (rs := [7, 11]) (by kernel_rfl) (by simp) ?_
        refine AllReadyH.cons rfl (fun K hK => ?_) (AllReadyH.cons rfl (fun K hK => ?_) (AllReadyH.nil))
        · go_simp
          go_wp2_with (fail)
          refine hK.out _ _ trivial (fun hHeld2 => ?_)
          clear hK K hHeld
          rename _ => hHeld
          (try simp only [Act.put, List.setIfInBounds_toArray, List.set_cons_zero, List.set_cons_succ])
          refine wpAnyH_ready (rs := [11]) (by kernel_rfl) (by simp) ?_
          refine AllReadyH.cons rfl (fun K hK => ?_) (AllReadyH.nil)
          go_simp
          go_wp2_with (fail)
          refine hK.out _ _ trivial (fun hHeld2 => ?_)
          clear hK K hHeld
          rename _ => hHeld
          (try simp only [Act.put, List.setIfInBounds_toArray, List.set_cons_zero, List.set_cons_succ])
          refine wpAnyH_take (i := 12) (oi := { dst := some 78, op := Op.indexAddr 22 (Operand.tmp 66) (Operand.tmp 67), type := 0, pos := "more.go:70", after := #[{ on := 0, ground := Ground.data }, { on := 1, ground := Ground.data }, { on := 0, ground := Ground.phase }, { on := 1, ground := Ground.phase }, { on := 2, ground := Ground.textOnly Departure.lateStores }, { on := 3, ground := Ground.textOnly Departure.lateStores }, { on := 4, ground := Ground.phase }, { on := 5, ground := Ground.phase }, { on := 6, ground := Ground.phase }, { on := 7, ground := Ground.phase }, { on := 8, ground := Ground.textOnly Departure.lateStores }, { on := 9, ground := Ground.textOnly Departure.lateStores }, { on := 10, ground := Ground.textOnly Departure.lateStoresUnsure }, { on := 11, ground := Ground.phase }], guard := none }) (v := ?_) rfl (by kernel_rfl) (by kernel_rfl) (by kernel_rfl) (fun _ _ _ h => h) (Or.inl ⟨by kernel_rfl, ?_⟩) hHeld ?_
          rotate_left
          · intro w hSw; (try dsimp only at hSw); go_simp; try with_reducible rfl
          simp only [Act.put, List.setIfInBounds_toArray, List.set_cons_zero, List.set_cons_succ]
          refine wpAnyH_ready (rs := [13]) (by kernel_rfl) (by simp) ?_
          refine AllReadyH.cons rfl (fun K hK => ?_) (AllReadyH.nil)
          go_simp
          go_wp2_with (fail)
          have hO := own_put OD.out pi ⟨Nk, Vk, nk⟩
          have hF : Fr (· = g) w10 ((((wd).setCell ⟨g, pi * 3, none⟩ (.string Nk)).setCell ⟨g, pi * 3 + 1, none⟩ (.string Vk)).setCell ⟨g, pi * 3 + 2, none⟩ (.bool nk)) := Fr.setCell (Fr.setCell (Fr.setCell FD.out (.inl rfl) _) (.inl rfl) _) (.inl rfl) _
          clear d0 d1 d2 e0 e1 e2 fx OD FD
          generalize ((((wd).setCell ⟨g, pi * 3, none⟩ (.string Nk)).setCell ⟨g, pi * 3 + 1, none⟩ (.string Vk)).setCell ⟨g, pi * 3 + 2, none⟩ (.bool nk)) = ws1 at hO hF ⊢
          obtain ⟨f3, hf3⟩ : ∃ f, ((top2 ++ F).set pi ⟨Nk, Vk, nk⟩)[pk]? = some f := ⟨_, List.getElem?_eq_getElem (by rw [List.length_set, HLE.out]; omega)⟩
          obtain ⟨b3, o3, h3, d0, d1, d2⟩ := rd_fld (Rd.of_own hO) hf3
          cases h3
          simp only [Nat.zero_add] at d0 d1 d2
          obtain ⟨fb, hfb⟩ := own_frz hO (by omega)
          have e0 := d0
          have e1 := d1
          have e2 := d2
          clear hf3
          have fx := hfb
          have OD := Lib.hid hO
          have FD := Lib.hid hF
          clear hO hF
          refine hK.out _ _ trivial (fun hHeld2 => ?_)
          clear hK K hHeld
          rename _ => hHeld
          (try simp only [Act.put, List.setIfInBounds_toArray, List.set_cons_zero, List.set_cons_succ])
          refine wpAnyH_take (i := 14) (oi := { dst := some 79, op := Op.indexAddr 22 (Operand.tmp 68) (Operand.tmp 69), type := 0, pos := "more.go:70", after := #[{ on := 2, ground := Ground.data }, { on := 3, ground := Ground.data }, { on := 0, ground := Ground.phase }, { on := 1, ground := Ground.phase }, { on := 2, ground := Ground.phase }, { on := 3, ground := Ground.phase }, { on := 4, ground := Ground.phase }, { on := 5, ground := Ground.phase }, { on := 6, ground := Ground.phase }, { on := 7, ground := Ground.phase }, { on := 8, ground := Ground.phase }, { on := 9, ground := Ground.phase }, { on := 10, ground := Ground.phase }, { on := 11, ground := Ground.phase }, { on := 12, ground := Ground.phase }, { on := 13, ground := Ground.phase }], guard := none }) (v := ?_) rfl (by kernel_rfl) (by kernel_rfl) (by kernel_rfl) (fun _ _ _ h => h) (Or.inl ⟨by kernel_rfl, ?_⟩) hHeld ?_
          rotate_left
          · intro w hSw; (try dsimp only at hSw); go_simp; try with_reducible rfl
          simp only [Act.put, List.setIfInBounds_toArray, List.set_cons_zero, List.set_cons_succ]
          refine wpAnyH_ready (rs := [15]) (by kernel_rfl) (by simp) ?_
          refine AllReadyH.cons rfl (fun K hK => ?_) (AllReadyH.nil)
          go_simp
          go_wp2_with (fail)
          have hO := own_put OD.out pk ⟨Ni, Vi, ni⟩
          have hF : Fr (· = g) w10 ((((ws1).setCell ⟨g, pk * 3, none⟩ (.string Ni)).setCell ⟨g, pk * 3 + 1, none⟩ (.string Vi)).setCell ⟨g, pk * 3 + 2, none⟩ (.bool ni)) := Fr.setCell (Fr.setCell (Fr.setCell FD.out (.inl rfl) _) (.inl rfl) _) (.inl rfl) _
          clear d0 d1 d2 e0 e1 e2 fx OD FD
          generalize ((((ws1).setCell ⟨g, pk * 3, none⟩ (.string Ni)).setCell ⟨g, pk * 3 + 1, none⟩ (.string Vi)).setCell ⟨g, pk * 3 + 2, none⟩ (.bool ni)) = ws2 at hO hF ⊢
          have OD := Lib.hid hO
          have FD := Lib.hid hF
          clear hO hF
          refine hK.out _ _ trivial (fun hHeld2 => ?_)
          clear hK K hHeld
          rename _ => hHeld
          (try simp only [Act.put, List.setIfInBounds_toArray, List.set_cons_zero, List.set_cons_succ])
          refine wpAnyH_done (by kernel_rfl) ?_ _
          go_wp2
          go_meet
          exact ⟨rfl, OD.out, FD.out⟩
        · go_simp
          go_wp2_with (fail)
          refine hK.out _ _ trivial (fun hHeld2 => ?_)
          clear hK K hHeld
          rename _ => hHeld
          (try simp only [Act.put, List.setIfInBounds_toArray, List.set_cons_zero, List.set_cons_succ])
          refine wpAnyH_ready (rs := [7]) (by kernel_rfl) (by simp) ?_
          refine AllReadyH.cons rfl (fun K hK => ?_) (AllReadyH.nil)
          go_simp
          go_wp2_with (fail)
          refine hK.out _ _ trivial (fun hHeld2 => ?_)
          clear hK K hHeld
          rename _ => hHeld
          (try simp only [Act.put, List.setIfInBounds_toArray, List.set_cons_zero, List.set_cons_succ])
          refine wpAnyH_take (i := 12) (oi := { dst := some 78, op := Op.indexAddr 22 (Operand.tmp 66) (Operand.tmp 67), type := 0, pos := "more.go:70", after := #[{ on := 0, ground := Ground.data }, { on := 1, ground := Ground.data }, { on := 0, ground := Ground.phase }, { on := 1, ground := Ground.phase }, { on := 2, ground := Ground.textOnly Departure.lateStores }, { on := 3, ground := Ground.textOnly Departure.lateStores }, { on := 4, ground := Ground.phase }, { on := 5, ground := Ground.phase }, { on := 6, ground := Ground.phase }, { on := 7, ground := Ground.phase }, { on := 8, ground := Ground.textOnly Departure.lateStores }, { on := 9, ground := Ground.textOnly Departure.lateStores }, { on := 10, ground := Ground.textOnly Departure.lateStoresUnsure }, { on := 11, ground := Ground.phase }], guard := none }) (v := ?_) rfl (by kernel_rfl) (by kernel_rfl) (by kernel_rfl) (fun _ _ _ h => h) (Or.inl ⟨by kernel_rfl, ?_⟩) hHeld ?_
          rotate_left
          · intro w hSw; (try dsimp only at hSw); go_simp; try with_reducible rfl
          simp only [Act.put, List.setIfInBounds_toArray, List.set_cons_zero, List.set_cons_succ]
          refine wpAnyH_ready (rs := [13]) (by kernel_rfl) (by simp) ?_
          refine AllReadyH.cons rfl (fun K hK => ?_) (AllReadyH.nil)
          go_simp
          go_wp2_with (fail)
          have hO := own_put OD.out pi ⟨Nk, Vk, nk⟩
          have hF : Fr (· = g) w10 ((((wd).setCell ⟨g, pi * 3, none⟩ (.string Nk)).setCell ⟨g, pi * 3 + 1, none⟩ (.string Vk)).setCell ⟨g, pi * 3 + 2, none⟩ (.bool nk)) := Fr.setCell (Fr.setCell (Fr.setCell FD.out (.inl rfl) _) (.inl rfl) _) (.inl rfl) _
          clear d0 d1 d2 e0 e1 e2 fx OD FD
          generalize ((((wd).setCell ⟨g, pi * 3, none⟩ (.string Nk)).setCell ⟨g, pi * 3 + 1, none⟩ (.string Vk)).setCell ⟨g, pi * 3 + 2, none⟩ (.bool nk)) = ws3 at hO hF ⊢
          obtain ⟨f3, hf3⟩ : ∃ f, ((top2 ++ F).set pi ⟨Nk, Vk, nk⟩)[pk]? = some f := ⟨_, List.getElem?_eq_getElem (by rw [List.length_set, HLE.out]; omega)⟩
          obtain ⟨b3, o3, h3, d0, d1, d2⟩ := rd_fld (Rd.of_own hO) hf3
          cases h3
          simp only [Nat.zero_add] at d0 d1 d2
          obtain ⟨fb, hfb⟩ := own_frz hO (by omega)
          have e0 := d0
          have e1 := d1
          have e2 := d2
          clear hf3
          have fx := hfb
          have OD := Lib.hid hO
          have FD := Lib.hid hF
          clear hO hF
          refine hK.out _ _ trivial (fun hHeld2 => ?_)
          clear hK K hHeld
          rename _ => hHeld
          (try simp only [Act.put, List.setIfInBounds_toArray, List.set_cons_zero, List.set_cons_succ])
          refine wpAnyH_take (i := 14) (oi := { dst := some 79, op := Op.indexAddr 22 (Operand.tmp 68) (Operand.tmp 69), type := 0, pos := "more.go:70", after := #[{ on := 2, ground := Ground.data }, { on := 3, ground := Ground.data }, { on := 0, ground := Ground.phase }, { on := 1, ground := Ground.phase }, { on := 2, ground := Ground.phase }, { on := 3, ground := Ground.phase }, { on := 4, ground := Ground.phase }, { on := 5, ground := Ground.phase }, { on := 6, ground := Ground.phase }, { on := 7, ground := Ground.phase }, { on := 8, ground := Ground.phase }, { on := 9, ground := Ground.phase }, { on := 10, ground := Ground.phase }, { on := 11, ground := Ground.phase }, { on := 12, ground := Ground.phase }, { on := 13, ground := Ground.phase }], guard := none }) (v := ?_) rfl (by kernel_rfl) (by kernel_rfl) (by kernel_rfl) (fun _ _ _ h => h) (Or.inl ⟨by kernel_rfl, ?_⟩) hHeld ?_
          rotate_left
          · intro w hSw; (try dsimp only at hSw); go_simp; try with_reducible rfl
          simp only [Act.put, List.setIfInBounds_toArray, List.set_cons_zero, List.set_cons_succ]
          refine wpAnyH_ready (rs := [15]) (by kernel_rfl) (by simp) ?_
          refine AllReadyH.cons rfl (fun K hK => ?_) (AllReadyH.nil)
          go_simp
          go_wp2_with (fail)
          have hO := own_put OD.out pk ⟨Ni, Vi, ni⟩
          have hF : Fr (· = g) w10 ((((ws3).setCell ⟨g, pk * 3, none⟩ (.string Ni)).setCell ⟨g, pk * 3 + 1, none⟩ (.string Vi)).setCell ⟨g, pk * 3 + 2, none⟩ (.bool ni)) := Fr.setCell (Fr.setCell (Fr.setCell FD.out (.inl rfl) _) (.inl rfl) _) (.inl rfl) _
          clear d0 d1 d2 e0 e1 e2 fx OD FD
          generalize ((((ws3).setCell ⟨g, pk * 3, none⟩ (.string Ni)).setCell ⟨g, pk * 3 + 1, none⟩ (.string Vi)).setCell ⟨g, pk * 3 + 2, none⟩ (.bool ni)) = ws4 at hO hF ⊢
          have OD := Lib.hid hO
          have FD := Lib.hid hF
          clear hO hF
          refine hK.out _ _ trivial (fun hHeld2 => ?_)
          clear hK K hHeld
          rename _ => hHeld
          (try simp only [Act.put, List.setIfInBounds_toArray, List.set_cons_zero, List.set_cons_succ])
          refine wpAnyH_done (by kernel_rfl) ?_ _
          go_wp2
          go_meet
          exact ⟨rfl, OD.out, FD.out⟩
      case rest =>
        obtain ⟨rfl, ho, hf⟩ := hcut
        rename World => w11
        have hgw := (O10.out.lt g rfl).1
        have L11 : Below w7.heap.size w7 w11 := L10.out.trans (hf.below L10.out.size (fun i _ e => by omega))
        have RA11 := Lib.hid (RA.out.below L11)
        have B11 := Lib.hid (below_from B7.out L11)
        have hcnt : (F.filter isC).length ≤ 1 := by rw [HQ.out]; omega
        have hperm : (turn F i k ⟨Nk, Vk, nk⟩ ⟨Ni, Vi, ni⟩).Perm F := turn_perm HFK.out HFI.out
        rw [← HI.out, ← HK2.out, turn_top] at ho
        obtain ⟨G, hG⟩ : ∃ G, turn F i k ⟨Nk, Vk, nk⟩ ⟨Ni, Vi, ni⟩ = G := ⟨_, rfl⟩
        rw [hG] at ho hperm
        have RB11 := Lib.hid (Rd.of_own ho)
        have hrs : response (top2 ++ G) = response (top2 ++ F) := (resp_perm hperm.symm hcnt).symm
        obtain ⟨M1, S1, A1, P1, st1, ln1, hm1⟩ := msgOf (response (top2 ++ F))
        obtain ⟨qx, hqx⟩ : ∃ x, (response (top2 ++ F)).isSome = x := ⟨_, rfl⟩
        have hsF : ∀ f ∈ top2 ++ F, f.n.size ≤ 2000 ∧ f.v.size ≤ 2000 := by
          intro f hf
          rcases List.mem_append.1 hf with h | h
          · have : f = ⟨nStatus, n200, false⟩ := List.mem_singleton.1 h
            rw [this]
            exact ⟨by show nStatus.size ≤ _; decide, by show n200.size ≤ _; decide⟩
          · exact HFs.out f h
        have hsG : ∀ f ∈ top2 ++ G, f.n.size ≤ 2000 ∧ f.v.size ≤ 2000 := fun f hf => hsF f ((hperm.append_left top2).mem_iff.1 hf)
        have hzz : szs (top2 ++ G) = szs (top2 ++ F) := szs_perm (hperm.append_left top2)
        have hzl := szs_le _ hsF
        rw [HLE.out] at hzl
        obtain ⟨z, hz⟩ : ∃ z, szs (top2 ++ F) = z := ⟨_, rfl⟩
        rw [hz] at hzz hzl
        have HSA : Hid (∀ (w : World) (A : Option Addr) (m c : Nat), Rd w 3 A m (fcellsL (top2 ++ F)) → m ≤ 61 → Calls Tryd.prog 15 #[.slice A m c] w fun e w' => e = .returned (.tuple #[.agg #[.string M1, .string S1, .string A1, .string P1, .int .i64 st1, .int .i64 ln1], .bool qx]) ∧ Below w.heap.size w w') := fun w A m c hr hm => by
          have := response_c (c := c) hr (fun f hf => ⟨by have := (hsF f hf).1; omega, by have := (hsF f hf).2; omega⟩) (by omega) _ _ _ _ _ _ hm1
          rwa [hqx] at this
        have HSB : Hid (∀ (w : World) (A : Option Addr) (m c : Nat), Rd w 3 A m (fcellsL (top2 ++ G)) → m ≤ 61 → Calls Tryd.prog 15 #[.slice A m c] w fun e w' => e = .returned (.tuple #[.agg #[.string M1, .string S1, .string A1, .string P1, .int .i64 st1, .int .i64 ln1], .bool qx]) ∧ Below w.heap.size w w') := fun w A m c hr hm => by
          have := response_c (c := c) hr (fun f hf => ⟨by have := (hsG f hf).1; omega, by have := (hsG f hf).2; omega⟩) (by omega) M1 S1 A1 P1 st1 ln1 (by rw [hrs]; exact hm1)
          rwa [hrs, hqx] at this
        have HZA : Hid (∀ (w : World) (A : Option Addr) (m c : Nat), Rd w 3 A m (fcellsL (top2 ++ F)) → m ≤ 61 → Calls Tryd.prog 17 #[.slice A m c] w fun e w' => e = .returned (.int .i64 (z : Int)) ∧ Below w.heap.size w w') := fun w A m c hr hm => size_c hr (by omega) z hz (by omega)
        have HZB : Hid (∀ (w : World) (A : Option Addr) (m c : Nat), Rd w 3 A m (fcellsL (top2 ++ G)) → m ≤ 61 → Calls Tryd.prog 17 #[.slice A m c] w fun e w' => e = .returned (.int .i64 (z : Int)) ∧ Below w.heap.size w w') := fun w A m c hr hm => size_c hr (by omega) z hzz (by omega)
        have HE := msg_eql
        have GA := Lib.hid (HSA.out _ _ _ c7 RA11.out (by omega))
        clear ho hf hgw L11 hcnt hperm hG hrs hm1 hqx hsF hsG hzz hzl hz HFs HQ O10 L10 RA B7 HFI HFK HTI HTK HLE
        go_wp2_with (first
          | (go_at_call 15; (with_reducible refine GA.out.mono ?_); rintro e w12 ⟨rfl, hb12⟩
             have hb := below_al hb12 (.cells #[.string M1, .string S1, .string A1, .string P1, .int .i64 st1, .int .i64 ln1] 28)
             have RA12 := Lib.hid (RA11.out.below hb)
             have RB12 := Lib.hid (RB11.out.below hb)
             have B12 := Lib.hid (below_from B11.out hb)
             have X12 := Lib.hid (Blk.new w12 28 [.string M1, .string S1, .string A1, .string P1, .int .i64 st1, .int .i64 ln1])
             have GB := Lib.hid (HSB.out _ _ _ c10 RB12.out (by omega))
             clear hb12 hb GA RA11 RB11 B11 HSA)
          | (go_at_call 15; (with_reducible refine GB.out.mono ?_); rintro e w13 ⟨rfl, hb13⟩
             have hb := below_al hb13 (.cells #[.string M1, .string S1, .string A1, .string P1, .int .i64 st1, .int .i64 ln1] 28)
             have RA13 := Lib.hid (RA12.out.below hb)
             have RB13 := Lib.hid (RB12.out.below hb)
             have B13 := Lib.hid (below_from B12.out hb)
             have x13 := X12.out.below hb X12.out.lt
             have u13 := Blk.new w13 28 [.string M1, .string S1, .string A1, .string P1, .int .i64 st1, .int .i64 ln1]
             obtain ⟨x0, x1, x2, x3, x4, x5⟩ := cells6 x13
             obtain ⟨u0, u1, u2, u3, u4, u5⟩ := cells6 u13
             have GC := Lib.hid (HZA.out _ _ _ c7 RA13.out (by omega))
             clear hb13 hb GB RA12 RB12 B12 X12 HSB x13 u13)
          | (go_at_call 17; (with_reducible refine GC.out.mono ?_); rintro e w14 ⟨rfl, hb14⟩
             have B14 := Lib.hid (below_from B13.out hb14)
             have GD := Lib.hid (HZB.out _ _ _ c10 (RB13.out.below hb14) (by omega))
             clear hb14 GC RA13 RB13 B13 HZA)
          | (go_at_call 17; (with_reducible refine GD.out.mono ?_); rintro e w15 ⟨rfl, hb15⟩
             have B15 := Lib.hid (below_from B14.out hb15)
             clear hb15 GD B14 HZB))
        all_goals
          go_ret
          exact ⟨ret_bool (by simp), B15.out⟩
end Go.Proofs.YtilabahcngjflaaDoor
