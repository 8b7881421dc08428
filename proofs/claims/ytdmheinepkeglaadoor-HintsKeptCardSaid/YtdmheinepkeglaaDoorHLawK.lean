/- HintsKept's walk: whatever the text, what stands behind, and the cut, true. -/
import Derived.Test.YtdmheinepkeglaaDoorHLawB
import Derived.Test.YtdmheinepkeglaaDoorHLawT
import Derived.Test.YtdmheinepkeglaaDoorHPacked
import Derived.Deep.DeepAppendWide
import Derived.Deep.RegionHeld
namespace Go.Proofs.YtdmheinepkeglaaDoor
open Go.RowKit Go.Own Go.Huf Go.Hin
set_option linter.unusedVariables false
attribute [local go_sem ↓] Go.wp_at_zero Go.wp_at_succ

/-- append, the bound on bytes as wide as Go's own test lets it -/
theorem run_append_rd_wide {P : Program} {w : World} {t ty e : TypeId} {z : Value} {size bytes : Nat} (E : Elt P t e z size bytes) {base : Nat}
    {v : Value} {n : Nat} {xs : List Value} (hown : w.ownsRow base e size v n xs) {A : Option Addr} {m c : Nat} {news : List Value} (hr : Rd w size A m news) (h1 : ∀ u ∈ news, u.oneCell' = true)
    (hb : ((n + m) + (n + m) / 4 + 192) * bytes ≤ 281474976710656) (h63 : n + m ≤ maxLen) (hbase : base ≤ w.heap.size) :
    ∃ v' w', (Builtin.append_ #[t, t] ty #[v, .slice A m c]).run P w = .ok v' w' ∧ w'.ownsRow base e size v' (n + m) (xs ++ news) ∧ Fr (fun i => some i = v.ownBlock) w w' := by
  obtain ⟨ht, ⟨i, hi, hz, hsize, hby⟩, hzs, hsz⟩ := E
  rcases A with _ | ad
  · have hm : m = 0 := by
      rcases Nat.eq_zero_or_pos m with h0 | h0
      · exact h0
      · obtain ⟨b, o, h, _⟩ := hr.2 h0
        cases h
    subst hm
    have hn : news = [] := List.eq_nil_of_length_eq_zero (by simpa using hr.1)
    subst hn
    refine ⟨v, w, ?_, by simpa using hown, Fr.refl _ _⟩
    rcases hown.2 with ⟨rfl, rfl⟩ | ⟨g, cap, cur, rfl, _, _, hnc, _⟩
    · simp [Builtin.append_, run_underlying ht, sizeOf, typeInfo, hi, Builtin.lenOf, Builtin.firstCells]
    · simp [Builtin.append_, run_underlying ht, sizeOf, typeInfo, hi, Builtin.lenOf, Builtin.firstCells, hnc, storeCells]
  · have hcells : ∀ j u, news[j]? = some u → w.cell? (ad.add j) = some u := by
      intro j u hu
      rcases Nat.eq_zero_or_pos m with h0 | h0
      · subst h0
        have hn : news = [] := List.eq_nil_of_length_eq_zero (by simpa using hr.1)
        subst hn
        simp at hu
      · obtain ⟨b, o, h, hc⟩ := hr.2 h0
        injection h with h
        subst h
        rw [add_plain]
        exact hc j u hu
    obtain ⟨v', w', hrun, h2, h3, _⟩ := run_append_own_wide (P := P) w base t ty e i z size bytes ht hi hz hsize hby hzs hsz v n xs hown ad m c news hr.1 hcells h1 h63 hb hbase
    exact ⟨v', w', hrun, h2, Fr.of_grown h3 (fun _ _ h => h)⟩
theorem wpList_append_wide {P : Program} {w : World} {ops : Array Oper} {rest : List Oper} {o : Oper} {a : Act} {Q : Exit → Act → World → Prop} (hgd : o.guard = none) (s x : Operand) (t : TypeId)
    (ho : o.op = .call { callee := .builtin .append, args := #[s, x], argTypes := #[t, t] }) {e : TypeId} {z : Value} {size bytes : Nat} (E : Elt P t e z size bytes) {base : Nat}
    (v : Value) (n : Nat) (xs : List Value) (hs : a.eval s = v) (hown : w.ownsRow base e size v n xs) (A : Option Addr) (m c : Nat) (news : List Value) (hx : a.eval x = .slice A m c)
    (hr : Rd w size A m news) (h1 : ∀ u ∈ news, u.oneCell' = true)
    (hb : ((n + m) + (n + m) / 4 + 192) * bytes ≤ 281474976710656) (h63 : n + m ≤ maxLen) (hbase : base ≤ w.heap.size)
    (h : ∀ A' c' w', w'.ownsRow base e size (.slice A' (n + m) c') (n + m) (xs ++ news) → Fr (fun i => some i = v.ownBlock) w w' → wpList P ops Q rest (a.put o.dst (.slice A' (n + m) c')) w') : wpList P ops Q (o :: rest) a w := by
  refine wpList_plain hgd fun _ hK => ?_
  obtain ⟨v', w', hrun, h2, h3⟩ := run_append_rd_wide (ty := o.type) (c := c) E hown hr h1 hb h63 hbase
  unfold Oper.wp execOp
  obtain ⟨A', c', rfl, _⟩ := own_shape h2
  simp only [ho, resolve, invoke, builtin, Sem.run_bind, Sem.run_pure, Result.andThen_ok, List.map_toArray, List.map_cons, List.map_nil, hs, hx, hrun]
  exact hK _ _ (h A' c' w' h2 h3)
theorem PutText_k (s : ByteArray) (ys : List UInt8) (hp : Pk (enc s.data.toList) ys) (hs : s.size ≤ 16777216) (L : List UInt8) (hL : putT s.data.toList ys = L) (N : Nat) (hN : L.length = N) (w : World) (hC : Cnt w) :
    Calls Tryd.prog 16 #[.string s] w fun e w' => ∃ A c, e = .returned (.slice A N c) ∧ Below w.heap.size w w' ∧ Rd w' 1 A N (L.map BV) ∧ N ≤ c ∧ c ≤ 9223372036854775807 := by
  refine (PutText_any s ys hp hs L hL N hN w hC).mono ?_
  rintro e w' ⟨A, c, rfl, ho, hb⟩
  obtain ⟨g1, g2⟩ := own_cap ho
  exact ⟨A, c, rfl, hb, Rd.of_own ho, g1, g2⟩
theorem rd_head_at {w : World} {b o n : Nat} {x : UInt8} {r : List UInt8} (h : Rd w 1 (some ⟨b, o, none⟩) n ((x :: r).map BV)) (hn : 1 ≤ n) : w.cell? ⟨b, o, none⟩ = some (.int .u8 (x.toNat : Int)) := by
  obtain ⟨b', o', he, hc⟩ := rd_head h hn
  injection he with he
  rw [he]
  exact hc
set_option maxRecDepth 100000 in
set_option maxHeartbeats 8000000 in
theorem kept_neg {s : ByteArray} {W : World} {A : Option Addr} {len cap : Nat} {xs : List UInt8} {cut : Int} (hs : s.size ≤ maxLen) (hr : Rd W 1 A len (xs.map BV)) (hlc : len ≤ cap) (hcap : cap ≤ 140737488351232) (wc : (Lit.int .i64 cut).wf = true) (hC : Cnt W) (hbig : ¬ 100000 < s.size) (hneg : cut < 0) :
    Calls Tryd.prog 8 #[.string s, .slice A len cap, .int .i64 cut] W fun e w' => e = .returned (.bool true) ∧ Below W.heap.size W w' := by
  unfold maxLen at hs
  have hcut := wf_i64 wc
  have hxl : xs.length = len := by simpa using hr.1
  have HC := Lib.hid hC
  have Hr := Lib.hid hr
  clear hC hr wc
  have hsl : s.data.toList.length = s.size := by simp
  obtain ⟨ys, hys⟩ := pk_exists _ (enc s.data.toList) (Nat.le_refl _)
  obtain ⟨L, hL⟩ : ∃ L, putT s.data.toList ys = L := ⟨_, rfl⟩
  obtain ⟨N, hN⟩ : ∃ N, L.length = N := ⟨_, rfl⟩
  obtain ⟨K, hK⟩ : ∃ K, ys.length = K := ⟨_, rfl⟩
  have hKe : ((enc s.data.toList).length + 7) / 8 = K := by rw [← hys.len, hK]
  have hN1 : 1 ≤ N := by rw [← hN, ← hL]; exact putT_pos
  have hNl : N ≤ 100006 := by
    have := putT_len (t := s.data.toList) (ys := ys) (by omega)
    rw [hL, hN, hsl] at this
    omega
  obtain ⟨P0, hP0⟩ : ∃ P0, putB (2 ^ 7 - 1) (topOf 0 7) s.size = P0 := ⟨_, rfl⟩
  obtain ⟨n0, hn0⟩ : ∃ n0, P0.length = n0 := ⟨_, rfl⟩
  have hn06 : n0 ≤ 6 := by rw [← hn0, ← hP0]; exact putB_le _ _ _ (by omega)
  have hle : N ≤ n0 + s.size := by
    have := putT_len_le (t := s.data.toList) (ys := ys)
    rw [hL, hN, hsl, hP0, hn0] at this
    exact this
  obtain ⟨x, q, hxq, hx128, hq1⟩ := putT_head hys
  rw [hL] at hxq
  rw [hK, hsl] at hx128 hq1
  have hqN : q.length + 1 = N := by rw [← hN, hxq]; rfl
  obtain ⟨c', hc'⟩ : ∃ c' : Nat, (if cut < 0 then -(cut + 1) else cut) = (c' : Int) := by
    split
    · exact ⟨(-(cut + 1)).toNat, by omega⟩
    · exact ⟨cut.toNat, by omega⟩
  obtain ⟨i, hi⟩ : ∃ i, c' % N = i := ⟨_, rfl⟩
  have hiN : i < N := by rw [← hi]; exact Nat.mod_lt _ (by omega)
  have ei : (c' : Int) % (N : Int) = (i : Int) := by rw [← hi]; simp
  have ei2 : (c' : Int).tmod (N : Int) = (i : Int) := by rw [Int.tmod_eq_emod_of_nonneg (by omega)]; exact ei
  have eN : ¬ (N : Int) = 0 := by omega
  have HR1 : Hid (getT 9223372036854775807 (L ++ xs) = .ok s.data.toList N) := by
    have := getT_put hys (by omega) 9223372036854775807 (by rw [hsl]; omega) xs
    rw [hL, hN] at this
    exact this
  have HR2 : Hid (getT 9223372036854775807 (L.take i) = .err 2) := by
    have := getT_cut (ys := ys) (t := s.data.toList) (by omega) 9223372036854775807 i (by rw [hL, hN]; exact hiN)
    rw [hL] at this
    exact this
  have Hz1 : Hid (∀ size n, getN 7 (L ++ xs) = .ok size n → n + size ≤ N + len → size ≤ 536870912) := by
    intro size n h _
    rw [← hL] at h
    have := getN_putT (by omega) h
    omega
  have Hz2 : Hid (∀ size n, getN 7 (L.take i) = .ok size n → n + size ≤ i → size ≤ 536870912) := fun size n _ h => by omega
  have Hsv : Hid (textV (.ok s.data.toList N) = .tuple #[.string s, .int .i64 (N : Int), .int .i64 0]) := by
    show Value.tuple #[.string (str s.data.toList), _, _] = _
    rw [show str s.data.toList = s from str_self s]
  have hd : decide (K < s.size) = decide (128 ≤ x.toNat) := by
    congr 1
    exact propext hx128.symm
  have hxl := x.toNat_lt
  have Hpk : Hid (decide (((enc s.data.toList).length + 7) / 8 < s.size) = decide (128 ≤ x.toNat)) := by rw [hKe]; exact hd
  have hs1 : s.size ≤ 16777216 := by omega
  have hs2 : s.size ≤ 140737488355328 := by omega
  have hs3 : s.size ≤ 2147483647 := by omega
  have HP0 := Lib.hid hP0
  have Hn0 := Lib.hid hn0
  have Hys := Lib.hid hys
  have HL := Lib.hid hL
  have HN := Lib.hid hN
  have Hxq := Lib.hid hxq
  have hq2 : 128 ≤ x.toNat → 1 < N := fun h => by have := hq1 (hx128.1 h); omega
  have Hq2 := Lib.hid hq2
  clear hsl hys hL hN hK hKe hP0 hn0 hxq hx128 hq1 hi hd hxl hq2 hqN
  go_enter Tryd.func8, Tryd.ntmps8
  go_upto_region 10 with (first
    | (go_at_call 9; (with_reducible refine (shown_any _ HC.out).mono ?_); rintro e w1 ⟨rfl, hb1⟩; have H1 := Lib.hid hb1; clear hb1)
    | (go_at_call 16; (with_reducible refine (PutText_k s ys Hys.out hs1 L HL.out N HN.out _ (HC.out.below H1.out)).mono ?_); rintro e w2 ⟨A2, cp2, rfl, hb2, hr2, g1, g2⟩
       have H2 := Lib.hid (H1.out.trans (hb2.mono H1.out.size))
       have R2 := Lib.hid hr2
       rw [Hxq.out] at hr2
       obtain ⟨b2, o2, rfl, hc2⟩ := rd_head hr2 hN1
       clear hb2 hr2 hc2)
    | (at_builtin
       refine wpList_append_rd rfl (.tmp 25) (.tmp 26) 23 rfl E31 (.slice (some ⟨w2.heap.size, 0, none⟩) 0 0) 0 [] rfl (own_empty_b w2) (some ⟨b2, o2, none⟩) N cp2 (L.map BV) rfl (rd_alloc R2.out _) (BV_one _) (by omega) (by unfold maxLen; omega) (by simp) ?_
       intro A3 cp3 w3 ho hf ho2
       simp only [Nat.zero_add, List.nil_append] at ho ho2
       have H3 := Lib.hid (H2.out.trans (below_empty hf H2.out.size))
       have HB23 := Lib.hid (below_empty hf (Nat.le_refl _))
       have Ho3 := Lib.hid ho
       have hs3' := (below_empty hf (Nat.le_refl _)).size
       clear ho hf ho2)
    | (at_builtin
       refine wpList_append_wide rfl (.tmp 29) (.tmp 30) 23 rfl E31 (.slice A3 N cp3) N (L.map BV) rfl Ho3.out A len cap (xs.map BV) rfl (Hr.out.below H3.out) (BV_one _) (by omega) (by unfold maxLen; omega) hs3' ?_
       intro A4 cp4 w4 ho hf
       rw [← List.map_append] at ho
       have H4 := Lib.hid (H3.out.trans (hf.below H3.out.size (fun i _ e => Nat.le_trans H2.out.size (Ho3.out.lt i e.symm).1)))
       have R4 := Lib.hid (Rd.of_own ho)
       have R24 := Lib.hid (R2.out.fr ((Fr.of_below (S := fun i => w2.heap.size ≤ i) HB23.out (fun i _ h => h)).trans hf (fun i _ e => (Ho3.out.lt i e.symm).1)) (fun a ha h => Nat.not_le_of_lt (Rd_lt R2.out hN1 ha) h))
       obtain ⟨g3, g4⟩ := own_cap ho
       clear ho hf)
    | (go_at_call 14; (with_reducible refine (GetText_v R4.out g3 g4 (HC.out.below H4.out) Hz1.out _ HR1.out _ Hsv.out).mono ?_); rintro e w5 ⟨rfl, hb5⟩; have H5 := Lib.hid (H4.out.trans (hb5.mono H4.out.size)); have R5 := Lib.hid (R24.out.below hb5); clear hb5)
    | (go_at_call 10; (with_reducible refine (PutInt_n 0 7 s.size (by omega) (by omega) (by omega) hs3 P0 HP0.out n0 Hn0.out 0 rfl 7 rfl _ rfl _).mono ?_); rintro e w6 ⟨A6, cp6, rfl, hr6, _, _, hb6⟩; have H6 := Lib.hid (H5.out.trans (hb6.mono H5.out.size)); have R6 := Lib.hid (R5.out.below hb6); clear hb6 hr6))
  have hcp0 : ¬ cp2 = 0 := by omega
  have hic : (i : Int) ≤ (cp2 : Int) := by omega
  have hic2 : i ≤ cp2 := by omega
  clear H1 H2 H3 H4 H5 HB23 Ho3 R4 R24 R2 R5 hs3' g3 g4
  obtain ⟨bb, hbb⟩ : ∃ bb, decide (128 ≤ x.toNat) = bb := ⟨_, rfl⟩
  rw [hbb] at Hpk
  rw [if_pos hneg] at hc'
  go_upto_region 13 with (first
    | (go_at_call 14; (with_reducible refine (GetText_v (rd_take R6.out (Nat.le_of_lt hiN)) hic2 g2 (HC.out.below H6.out) Hz2.out _ HR2.out (.tuple #[.string ⟨#[]⟩, .int .i64 0, .int .i64 2]) rfl).mono ?_); rintro e w7 ⟨rfl, hb7⟩; have H7 := Lib.hid (H6.out.trans (hb7.mono H6.out.size)); have R7 := Lib.hid (R6.out.below hb7); clear hb7))
  have HI := Lib.hid (below_drew H7.out)
  have hx7 := rd_head_at (Hxq.out ▸ R7.out) hN1
  have hx8 : w7.drew.cell? ⟨b2, o2, none⟩ = some (.int .u8 (x.toNat : Int)) := hx7
  have Hlt : Hid (b2 < w7.drew.heap.size) := World.block_lt_of_cell? w7 _ hx7
  obtain ⟨m0, hm0⟩ : ∃ m0, n0 + s.size = m0 := ⟨_, rfl⟩
  have em0 : (n0 : Int) + (s.size : Int) = (m0 : Int) := by omega
  have hleN : N ≤ m0 := by omega
  have hleI : (N : Int) ≤ (m0 : Int) := by omega
  have hwm : IntKind.i64.wrap (m0 : Int) = (m0 : Int) := by rw [IntKind.wrap_i64]; omega
  have Hm0 := Lib.hid hm0
  clear hm0
  clear H6 R6 H7 R7
  cases bb
  · have hb2 : ¬ (128 : Int) ≤ (x.toNat : Int) := by have := of_decide_eq_false hbb; omega
    have hb3 : ¬ 128 ≤ x.toNat := of_decide_eq_false hbb
    have kb3 : decide (128 ≤ x.toNat) = false := hbb
    have kb2 : decide ((128 : Int) ≤ (x.toNat : Int)) = false := decide_eq_false hb2
    by_cases hN2 : 1 < N
    · have hN3 : (1 : Int) < (N : Int) := by omega
      first
      | go_region_held (fun w' => w'.cell? ⟨b2, o2, none⟩ = some (.int .u8 (x.toNat : Int)))
          (first | exact hx7 | exact hx8 | exact hx9)
          (first
          | (go_at_call 18; (with_reducible refine (packed_any s hs2 false Hpk.out _).mono ?_); rintro e w9 ⟨rfl, hb9⟩
             have HJ := Lib.hid (HI.out.trans (hb9.mono HI.out.size))
             have hx9 := (hb9.cell (p := ⟨b2, o2, none⟩) Hlt.out).trans hx8
             clear hb9 HI
             have HI := HJ
             clear HJ))
      | fail
      all_goals
        simp only [Exit.then]
        refine ‹∀ (a : Act) (w : World), Code.wp Tryd.prog Code.ret _ a w → _› _ _ ?_
        refine ret_true (p := 6) rfl ?_ ?_ ⟨rfl, HI.out⟩
        · first
          | (simp [kb2]; done)
          | (simp [hb2]; done)
          | kernel_rfl
        · kernel_rfl
    · obtain rfl : N = 1 := by omega
      have hle1 : (1 : Int) ≤ (m0 : Int) := by omega
      first
      | go_region_held (fun w' => w'.cell? ⟨b2, o2, none⟩ = some (.int .u8 (x.toNat : Int)))
          (first | exact hx7 | exact hx8 | exact hx9)
          (first
          | (go_at_call 18; (with_reducible refine (packed_any s hs2 false Hpk.out _).mono ?_); rintro e w9 ⟨rfl, hb9⟩
             have HJ := Lib.hid (HI.out.trans (hb9.mono HI.out.size))
             have hx9 := (hb9.cell (p := ⟨b2, o2, none⟩) Hlt.out).trans hx8
             clear hb9 HI
             have HI := HJ
             clear HJ))
      | fail
      all_goals
        simp only [Exit.then]
        refine ‹∀ (a : Act) (w : World), Code.wp Tryd.prog Code.ret _ a w → _› _ _ ?_
        refine ret_true (p := 6) rfl ?_ ?_ ⟨rfl, HI.out⟩
        · first
          | (simp [kb2]; done)
          | (simp [hb2]; done)
          | kernel_rfl
        · kernel_rfl
  · have hb3 : 128 ≤ x.toNat := of_decide_eq_true hbb
    have hb2 : (128 : Int) ≤ (x.toNat : Int) := by omega
    have hN2 : 1 < N := Hq2.out hb3
    have hN3 : (1 : Int) < (N : Int) := by omega
    first
    | go_region_held (fun w' => w'.cell? ⟨b2, o2, none⟩ = some (.int .u8 (x.toNat : Int)))
        (first | exact hx7 | exact hx8 | exact hx9)
        (first
        | (go_at_call 18; (with_reducible refine (packed_any s hs2 true Hpk.out _).mono ?_); rintro e w9 ⟨rfl, hb9⟩
           have HJ := Lib.hid (HI.out.trans (hb9.mono HI.out.size))
           have hx9 := (hb9.cell (p := ⟨b2, o2, none⟩) Hlt.out).trans hx8
           clear hb9 HI
           have HI := HJ
           clear HJ))
    | fail
    all_goals
      simp only [Exit.then]
      refine ‹∀ (a : Act) (w : World), Code.wp Tryd.prog Code.ret _ a w → _› _ _ ?_
      refine ret_true (p := 6) rfl ?_ ?_ ⟨rfl, HI.out⟩
      · first
        | (simp [kb2]; done)
        | (simp [hb2]; done)
        | kernel_rfl
      · kernel_rfl
end Go.Proofs.YtdmheinepkeglaaDoor
