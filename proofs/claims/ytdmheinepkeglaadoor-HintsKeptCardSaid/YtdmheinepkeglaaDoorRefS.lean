/- The contract of the document's table of codes: Codes. -/
import Derived.Test.YtdmheinepkeglaaDoorRefC
namespace Go.Proofs.YtdmheinepkeglaaDoor
open Go.RowKit Go.Own Go.Huf
set_option linter.unusedVariables false

theorem E61 : Elt Tryd.prog 66 9 (.string ⟨#[]⟩) 1 16 := ⟨Tryd.underlying66, by
  refine ⟨_, rfl, ?_, ?_, ?_⟩ <;> kernel_rfl, rfl, by decide⟩
def ccv (n s i : Nat) : Value := if (code i).2 < n ∨ ((code i).2 = n ∧ i < s) then .string (bstr (cbits i)) else .string ⟨#[]⟩
/-- the table, behind the round n's step s -/
def CC (n s : Nat) : List Value := (List.range 257).map (ccv n s)
theorem CC_length (n s : Nat) : (CC n s).length = 257 := by simp [CC]
theorem CC_start : CC 1 0 = List.replicate 257 (.string ⟨#[]⟩) := by
  apply List.ext_getElem (by rw [CC_length, List.length_replicate])
  intro i h1 h2
  have hi : i < 257 := by simpa [CC] using h1
  have := code_sym i hi
  simp only [CC, List.getElem_map, List.getElem_range, List.getElem_replicate, ccv]
  rw [if_neg (by omega)]
theorem CC_round (n : Nat) : CC n 257 = CC (n + 1) 0 := by
  apply List.ext_getElem (by simp [CC])
  intro i h1 h2
  have hi : i < 257 := by simpa [CC] using h1
  simp only [CC, List.getElem_map, List.getElem_range, ccv]
  have : ((code i).2 < n ∨ (code i).2 = n ∧ i < 257) ↔ ((code i).2 < n + 1 ∨ (code i).2 = n + 1 ∧ i < 0) := by omega
  simp only [this]
theorem CC_no {n s : Nat} (h : ¬ (code s).2 = n) : CC n (s + 1) = CC n s := by
  apply List.ext_getElem (by simp [CC])
  intro i h1 h2
  simp only [CC, List.getElem_map, List.getElem_range, ccv]
  have : ((code i).2 < n ∨ (code i).2 = n ∧ i < s + 1) ↔ ((code i).2 < n ∨ (code i).2 = n ∧ i < s) := by
    constructor
    · rintro (e1 | ⟨e1, e2⟩)
      · exact .inl e1
      · refine .inr ⟨e1, ?_⟩
        have : i ≠ s := by intro e3; exact h (e3 ▸ e1)
        omega
    · omega
  simp only [this]
theorem CC_yes {n s : Nat} (h : (code s).2 = n) : CC n (s + 1) = (CC n s).set s (.string (bstr (cbits s))) := by
  apply List.ext_getElem (by simp [CC])
  intro i h1 h2
  rw [List.getElem_set]
  simp only [CC, List.getElem_map, List.getElem_range, ccv]
  by_cases e : s = i
  · subst e
    rw [if_pos rfl, if_pos (.inr ⟨h, by omega⟩)]
  · rw [if_neg e]
    have : ((code i).2 < n ∨ (code i).2 = n ∧ i < s + 1) ↔ ((code i).2 < n ∨ (code i).2 = n ∧ i < s) := by omega
    simp only [this]
theorem CC_end {i : Nat} (hi : i < 257) : (CC 31 0)[i]? = some (.string (bstr (cbits i))) := by
  have := code_sym i hi
  rw [List.getElem?_eq_getElem (by rw [CC_length]; exact hi)]
  simp only [CC, List.getElem_map, List.getElem_range, ccv]
  rw [if_pos (.inl (by omega))]
/-- the block holds the table -/
def TabC (w : World) (g n s : Nat) : Prop := ∃ cur : List Value, Blk w g 9 cur ∧ cur.take 257 = CC n s
theorem TabC.at_ {w : World} {g n s i : Nat} (h : TabC w g n s) (hi : i < 257) : ∃ v, w.cell? ⟨g, i, none⟩ = some v ∧ w.frozen? ⟨g, i, none⟩ = false := by
  obtain ⟨cur, hb, ht⟩ := h
  have hl : (cur.take 257).length = 257 := by rw [ht, CC_length]
  rw [List.length_take] at hl
  exact ⟨cur[i]'(by omega), (hb.cell i).trans (List.getElem?_eq_getElem (by omega)), hb.frozen i⟩
theorem TabC.below {w w' : World} {g n s : Nat} (h : TabC w g n s) (hb : Below w.heap.size w w') : TabC w' g n s := by
  obtain ⟨cur, hk, ht⟩ := h
  exact ⟨cur, hk.below hb hk.lt, ht⟩
theorem TabC.lt {w : World} {g n s : Nat} (h : TabC w g n s) : g < w.heap.size := by
  obtain ⟨cur, hk, ht⟩ := h
  exact hk.lt
theorem TabC.yes {w : World} {g n s : Nat} (h : TabC w g n s) (hl : (code s).2 = n) : TabC (w.setCell ⟨g, s, none⟩ (.string (bstr (cbits s)))) g n (s + 1) := by
  obtain ⟨cur, hk, ht⟩ := h
  exact ⟨_, hk.set_ s _, by rw [List.take_set, ht, CC_yes hl]⟩
theorem TabC.no {w : World} {g n s : Nat} (h : TabC w g n s) (hl : ¬ (code s).2 = n) : TabC w g n (s + 1) := by
  obtain ⟨cur, hk, ht⟩ := h
  exact ⟨cur, hk, by rw [ht, CC_no hl]⟩
theorem TabC.round {w : World} {g n : Nat} (h : TabC w g n 257) : TabC w g (n + 1) 0 := by
  obtain ⟨cur, hk, ht⟩ := h
  exact ⟨cur, hk, by rw [ht, CC_round]⟩
/-- the codes of all symbols -/
def CodesAt (w : World) (g : Nat) : Prop := ∀ i, i < 257 → w.cell? ⟨g, i, none⟩ = some (.string (bstr (cbits i)))
theorem TabC.done {w : World} {g : Nat} (h : TabC w g 31 0) : CodesAt w g := by
  obtain ⟨cur, hk, ht⟩ := h
  intro i hi
  rw [hk.cell, ← CC_end hi, ← ht, List.getElem?_take, if_pos hi]
theorem CodesAt.below {w w' : World} {g : Nat} (h : CodesAt w g) (hb : Below w.heap.size w w') : CodesAt w' g := fun i hi => (hb.cell (World.block_lt_of_cell? w _ (h i hi))).trans (h i hi)
theorem CodesAt.fr {w w' : World} {g : Nat} {S : Nat → Prop} (h : CodesAt w g) (hf : Fr S w w') (hs : ¬ S g) : CodesAt w' g := fun i hi => hf.cell (h i hi) hs
theorem CodesAt.lt {w : World} {g : Nat} (h : CodesAt w g) : g < w.heap.size := World.block_lt_of_cell? w _ (h 0 (by omega))

theorem own_empty_s (w : World) : (w.alloc (.cells #[] 9)).ownsRow w.heap.size 9 1 (.slice (some ⟨w.heap.size, 0, none⟩) 0 0) 0 [] := by
  have h2 := own_of_blk (size := 1) (n := 0) (cap := 0) (Blk.new w 9 []) (by simp) (by omega) (by unfold maxLen; omega)
  have h3 := own_base (B := w.heap.size) h2 (fun g hg => by simp [Value.ownBlock] at hg; omega)
  simpa using h3
theorem one_str (s : ByteArray) : ∀ u ∈ [Value.string s], u.oneCell' = true := by
  intro u hu
  simp at hu
  subst hu
  rfl

set_option maxRecDepth 100000 in
set_option maxHeartbeats 4000000 in
theorem rCodes_any (w : World) : Calls Tryd.prog 39 #[] w fun e w' => ∃ g c, e = .returned (.slice (some ⟨g, 0, none⟩) 257 c) ∧ 257 ≤ c ∧ CodesAt w' g ∧ w.heap.size ≤ g ∧ Below w.heap.size w w' := by
  go_enter Tryd.func39, Tryd.ntmps39
  go_wp2
  go_loopg [1, 2] 257 (fun gh o i w' => ∃ (A : Option Addr) (k c : Nat), gh + k = 257 ∧ o = .slice A k c ∧ i = .int .i64 k ∧ w'.ownsRow w.heap.size 9 1 (.slice A k c) k (List.replicate k (.string ⟨#[]⟩)) ∧ Below w.heap.size w w')
  case atStart => exact ⟨_, 0, 0, by omega, rfl, rfl, own_empty_s w, (Below.refl _ _).alloc (Nat.le_refl _) _⟩
  case round =>
    obtain ⟨A, k, c, hk, rfl, rfl, ho, hb⟩ := hrel
    have Ho := Lib.hid ho
    have Hb := Lib.hid hb
    clear ho hb
    cases gk with
    | succ g1 =>
      have hown := own_alloc Ho.out (.cells #[.string ⟨#[]⟩] 9)
      have Hown := Lib.hid hown
      clear hown
      go_wp2_with (first
        | (at_builtin
           refine wpList_append_rd rfl (.tmp 12) (.tmp 13) 66 rfl E61 (.slice A k c) k (List.replicate k (.string ⟨#[]⟩)) rfl Hown.out (some ⟨wr.heap.size, 0, none⟩) 1 1 _ rfl (rd_lit1 wr 9 _) (one_str _) (by omega) (by unfold maxLen; omega) (by have := Hb.out.size; simp; omega) ?_
           intro A' c' w4 ho hf ho2
           have Ho4 := Lib.hid ho
           have H4 := Lib.hid (Hb.out.trans ((((Below.refl _ _).alloc Hb.out.size _).trans (hf.below (by simp; have := Hb.out.size; omega) (fun i _ e => (Ho.out.lt i e.symm).1)))))
           clear ho hf ho2))
      go_roundg g1
      case measure => omega
      case rel => exact ⟨A', k + 1, c', by omega, rfl, by go_num, by rw [List.replicate_succ']; exact Ho4.out, H4.out⟩
    | zero =>
      obtain rfl : k = 257 := by omega
      obtain ⟨g, c', hA, hge, hlt⟩ := Ho.out.form (by omega)
      simp only [Value.slice.injEq] at hA
      obtain ⟨rfl, _, rfl⟩ := hA
      obtain ⟨cur, hB, hnc, hcm, hcl, htk⟩ := own_blk Ho.out
      have HT := Lib.hid (show TabC wr g 1 0 from ⟨cur, hB, by rw [CC_start, ← htk]⟩)
      clear hB hcl htk hlt hcm
      go_wp2_with (first
        | (go_at_call 32; (with_reducible refine (rLengths_any _).mono ?_); rintro e w1 ⟨g1, rfl, hB1, hge1, hb1⟩; have HB1 := Lib.hid hB1; have Hb1 := Lib.hid (Hb.out.trans (hb1.mono Hb.out.size)); have HT1 := Lib.hid (HT.out.below hb1); have hne : g ≠ g1 := (by have := HT.out.lt; omega); clear hB1 hb1 hge1))
      clear HT
      go_loopg [5, 4] 30 (fun gh i cd w' => ∃ n : Nat, gh + n = 31 ∧ 1 ≤ n ∧ i = .int .i64 n ∧ cd = .int .u32 (nx n : Nat) ∧ Below w.heap.size w w' ∧ Blk w' g1 3 lenCells ∧ TabC w' g n 0)
      case atStart => exact ⟨1, by omega, by omega, rfl, rfl, Hb1.out, HB1.out, HT1.out⟩
      case round =>
        obtain ⟨n, hg, hn1, rfl, rfl, hb, hB, hT⟩ := hrel
        clear Hb1 HB1 HT1
        have Hb2 := Lib.hid hb
        have HB2 := Lib.hid hB
        have HT2 := Lib.hid hT
        clear hb hB hT
        cases gk with
        | succ gg =>
          have hn30 : n ≤ 30 := by omega
          have hd30 : decide ((n : Int) ≤ 30) = true := by simp; omega
          have hnx := nx_le n (by omega)
          have hn2 := nx_two n
          have e2 : IntKind.u32.wrap ((nx n : Int) * 2) = (frst n : Nat) := by rw [← hn2]; rw [IntKind.wrap_u32]; omega
          go_wp2
          go_loopg [6, 4] 257 (fun gh i cd w' => ∃ s : Nat, gh + s = 257 ∧ i = .int .i64 s ∧ cd = .int .u32 ((frst n + cb n s : Nat) : Int) ∧ Below w.heap.size w w' ∧ Blk w' g1 3 lenCells ∧ TabC w' g n s)
          case atStart => exact ⟨0, by omega, rfl, by simp [cb], Hb2.out, HB2.out, HT2.out⟩
          case round =>
            obtain ⟨s, hs, rfl, rfl, hb, hB, hT⟩ := hrel
            clear hn2 e2 Hb2 HB2 HT2
            have Hb3 := Lib.hid hb
            have HB3 := Lib.hid hB
            have HT3 := Lib.hid hT
            have hcl := cb_le n s
            clear hb hB hT
            cases gk with
            | succ g2 =>
              have hs257 : s < 257 := by omega
              have hcell := (HB3.out.cell s).trans (lenCells_at s hs257)
              obtain ⟨ln, hln⟩ : ∃ ln, (code s).2 = ln := ⟨_, rfl⟩
              rw [hln] at hcell
              obtain ⟨cc, hcc⟩ : ∃ cc, cb n s = cc := ⟨_, rfl⟩
              rw [hcc] at hcl ⊢
              have Hcc := Lib.hid hcc
              have Hln := Lib.hid hln
              clear hcc hln
              by_cases hq : ln = n
              · subst hq
                have hv := cb_val s hs257
                rw [Hln.out, Hcc.out] at hv
                obtain ⟨v, hvv⟩ : ∃ v, (code s).1 = v := ⟨_, rfl⟩
                have hvl := code_lt s hs257
                rw [hvv, Hln.out] at hvl
                have hp30 : (2 : Nat) ^ ln ≤ 2 ^ 30 := Nat.pow_le_pow_right (by omega) hn30
                have hvb : v < 1073741824 := by omega
                rw [hvv] at hv
                rw [hv]
                have hcbs : bitsN ln v = cbits s := by rw [cbits, Hln.out, hvv]
                have Hcbs := Lib.hid hcbs
                have Hv := Lib.hid hv
                clear hv hvv hvl hp30 hcbs
                go_wp2_with (first
                  | (go_at_call 38; (with_reducible refine (rBits_any v ln _ (by omega) (by omega)).mono ?_); rw [Hcbs.out]; rintro e w4 ⟨rfl, hb4⟩; have Hb4 := Lib.hid (Hb3.out.trans (hb4.mono Hb3.out.size)); have HB4 := Lib.hid (HB3.out.below hb4 HB3.out.lt); have HT4 := Lib.hid (HT3.out.below hb4); obtain ⟨ov, hov, hof⟩ := HT4.out.at_ hs257; clear hb4))
                go_roundg g2
                case measure => omega
                case rel =>
                  have hf : Fr (· = g) w4 (w4.setCell ⟨g, s, none⟩ (.string (bstr (cbits s)))) := (Fr.refl (· = g) w4).setCell (p := ⟨g, s, none⟩) (.inl rfl) _
                  exact ⟨s + 1, by omega, by go_num, by rw [cb_yes Hln.out, Hcc.out, ← Nat.add_assoc, Hv.out]; go_num, Hb4.out.trans (hf.below Hb4.out.size (fun i _ e => e ▸ hge)), HB4.out.fr hf (fun e => hne e.symm), HT4.out.yes Hln.out⟩
              · go_wp2
                go_roundg g2
                case measure => omega
                case rel => exact ⟨s + 1, by omega, by go_num, by rw [cb_no (by rw [Hln.out]; exact hq), Hcc.out], Hb3.out, HB3.out, HT3.out.no (by rw [Hln.out]; exact hq)⟩
            | zero =>
              obtain rfl : s = 257 := by omega
              have hca := cb_all n (by omega)
              rw [hca]
              go_wp2
              go_roundg gg
              case measure => omega
              case rel => exact ⟨n + 1, by omega, by omega, by go_num, rfl, Hb3.out, HB3.out, HT3.out.round⟩
        | zero =>
          obtain rfl : n = 31 := by omega
          go_wp2
          go_ret
          exact ⟨g, c, rfl, hnc, HT2.out.done, hge, Hb2.out⟩
end Go.Proofs.YtdmheinepkeglaaDoor
