/- Texts of bits: what the document's answer is written in · The contracts of the document's answer: Lengths, Code · The contract of the document's table of codes: Codes · The contracts of the document's answer: Spelt, Size, Encode · The contracts of hints' reading: prefixes, octets, numbers · The contracts of hints' errnoOf, of the deferred closures, of numberOctets and PutInt · The contract of hints' GetInt · The contracts of hints' texts: reading.text, GetText, PutText · Fields and rows of fields in memory; the document's Size of a field, Size of a table, fit -/
import Derived.Test.YtinieljgcenemaaDoorG2
import Derived.Lib.AppendStr
import Derived.Defers
import Derived.Recover
import Derived.BigQuiet
import Derived.StillTailTactics
import Derived.Test.YtinieljgcenemaaDoorChecked
import Derived.Deep.RegionHeld
import Derived.Deep.DrawnRows
import Derived.Great.BuildSlice
import Derived.Deep.WholeRow
import Derived.Deep.LoopGhost
import Derived.Deep.QuietTactic
namespace Go.Proofs.YtinieljgcenemaaDoor
open Go.RowKit Go.Own Go.Huf
set_option linter.unusedVariables false

def str (t : List UInt8) : ByteArray := ⟨t.toArray⟩
theorem str_data (t : List UInt8) : (str t).data.toList = t := by simp [str]
theorem str_size (t : List UInt8) : (str t).size = t.length := by
  have : (str t).data.toList.length = (str t).size := by simp
  rw [← this, str_data]
theorem str_append (a b : List UInt8) : str a ++ str b = str (a ++ b) := by
  apply ByteArray.ext
  simp [str]
def bch (b : Bool) : UInt8 := if b then 49 else 48
def chs (l : List Bool) : List UInt8 := l.map bch
def bstr (l : List Bool) : ByteArray := str (chs l)
theorem chs_length (l : List Bool) : (chs l).length = l.length := by simp [chs]
theorem bstr_size (l : List Bool) : (bstr l).size = l.length := by rw [bstr, str_size, chs_length]
theorem bch_inj {a b : Bool} (h : bch a = bch b) : a = b := by cases a <;> cases b <;> first | rfl | (exact absurd h (by decide))
theorem chs_inj : ∀ {a b : List Bool}, chs a = chs b → a = b
  | [], [], _ => rfl
  | [], _ :: _, h => by simp [chs] at h
  | _ :: _, [], h => by simp [chs] at h
  | x :: a, y :: b, h => by
    simp only [chs, List.map_cons, List.cons.injEq] at h
    rw [bch_inj h.1, chs_inj h.2]
theorem bit_ch (b : Nat) (h : b ≤ 1) : (48 + (b : Int)) = ((bch (b == 1)).toNat : Int) := by
  have : b = 0 ∨ b = 1 := by omega
  rcases this with rfl | rfl <;> rfl
theorem conv_lit1 (w : World) (z : Int) (c : UInt8) (hz : z = (c.toNat : Int)) : (convert 29 9 (.slice (some ⟨w.heap.size, 0, none⟩) 1 1)).run Tryd.prog (w.alloc (.cells #[.int .u8 z] 5)) = .ok (.string (str [c])) (w.alloc (.cells #[.int .u8 z] 5)) := by
  subst hz
  exact conv_rd (xs := [c]) (rd_lit1 w 5 _)

set_option maxRecDepth 100000 in
set_option maxHeartbeats 2000000 in
theorem rBits_any (x n : Nat) (w : World) (hx : x < 4294967296) (hn : n ≤ 32) :
    Calls Tryd.prog 114 #[.int .u32 (x : Int), .int .i64 (n : Int)] w fun e w' => e = .returned (.string (bstr (bitsN n x))) ∧ Below w.heap.size w w' := by
  go_enter Tryd.func114, Tryd.ntmps114
  go_wp2
  go_loopg [6, 5] n (fun gh i t w' => ∃ j : Nat, gh + j = n ∧ i = .int .i64 ((gh : Int) - 1) ∧ t = .string (bstr (bitsN j (x / 2 ^ gh))) ∧ Below w.heap.size w w')
  case atStart => exact ⟨0, by omega, rfl, rfl, Below.refl _ _⟩
  case round =>
    obtain ⟨j, hj, rfl, rfl, hb⟩ := hrel
    have HB := Lib.hid hb
    clear hb
    cases gk with
    | succ g =>
      have e : (((g + 1 : Nat) : Int) - 1) = (g : Int) := by omega
      rw [e]
      obtain ⟨bt, hbt⟩ : ∃ bt : Nat, x / 2 ^ g % 2 = bt := ⟨_, rfl⟩
      have hb1 : bt ≤ 1 := by omega
      have hand : Go.bits BinOp.and IntKind.u32 ((x : Int) / 2 ^ g) 1 = (bt : Int) := by
        have e : ((x : Int) / 2 ^ g) = ((x / 2 ^ g : Nat) : Int) := by simp
        have hle : x / 2 ^ g ≤ x := Nat.div_le_self _ _
        rw [e, show (1 : Int) = ((1 : Nat) : Int) from rfl, u32_and_nat _ _ (by omega) (by omega), Nat.and_one_is_mod, hbt]
      have hcv := conv_lit1 wr (48 + (bt : Int)) (bch (bt == 1)) (bit_ch bt hb1)
      have hnx : bitsN (j + 1) (x / 2 ^ g) = bitsN j (x / 2 ^ (g + 1)) ++ [bt == 1] := by
        rw [bitsN, hbt, Nat.div_div_eq_div_mul, Nat.pow_succ]
      obtain ⟨t0, ht0⟩ : ∃ t0, bitsN j (x / 2 ^ (g + 1)) = t0 := ⟨_, rfl⟩
      rw [ht0] at hnx ⊢
      have Hnx := Lib.hid hnx
      have hsz : (bstr t0).size ≤ 64 := by rw [bstr_size, ← ht0, bitsN_length]; omega
      have hmin : min g 32 = g := by omega
      have hnov : ¬ 9223372036854775807 < (bstr t0).size + (str [bch (bt == 1)]).size := by
        have : (str [bch (bt == 1)]).size = 1 := by rw [str_size]; rfl
        omega
      clear e hbt hnx ht0
      go_wp2
      go_roundg g
      case measure => omega
      case rel => exact ⟨j + 1, by omega, rfl, by rw [Hnx.out]; simp only [bstr, chs, List.map_append, ← str_append]; rfl, HB.out.alloc HB.out.size _⟩
    | zero =>
      go_wp2
      go_ret
      obtain rfl : j = n := by omega
      exact ⟨by simp, HB.out⟩
end Go.Proofs.YtinieljgcenemaaDoor
namespace Go.Proofs.YtinieljgcenemaaDoor
open Go.RowKit Go.Own Go.Huf
set_option linter.unusedVariables false

def lenZ : List Int := codeL.map fun c => Int.ofNat c.2
def lenCells : List Value := lenZ.map (Value.int .i64)
theorem lenZ_length : lenZ.length = 257 := by rw [lenZ, List.length_map, codeL_length]
theorem lenCells_at (s : Nat) (h : s < 257) : lenCells[s]? = some (.int .i64 (((code s).2 : Nat) : Int)) := by
  rw [lenCells, lenZ, List.getElem?_map, List.getElem?_map, code_at s h]
  rfl
theorem wpList_lens {ops : Array Oper} {rest : List Oper} {o : Oper} {a : Act} {w : World} {Q : Exit → Act → World → Prop} (hg : o.guard = none) (parts : Array (Nat × Operand)) (ho : o.op = .buildSlice 70 257 parts)
    (hparts : parts.toList = (lenZ.zipIdx 0).map fun x => (x.2, Operand.const (Value.int .i64 x.1)))
    (h : wpList Tryd.prog ops Q rest (a.put o.dst (.slice (some ⟨w.heap.size, 0, none⟩) 257 257)) (w.alloc (.cells lenCells.toArray 3))) : wpList Tryd.prog ops Q (o :: rest) a w :=
  wpList_buildFlat hg 70 3 257 parts ho .i64 lenZ Tryd.underlying70 (by kernel_rfl) (by kernel_rfl) (by rw [lenZ_length]) (by omega) (by omega) hparts h
set_option maxRecDepth 100000 in
theorem rLengths_any (w : World) : Calls Tryd.prog 116 #[] w fun e w' => ∃ g, e = .returned (.slice (some ⟨g, 0, none⟩) 257 257) ∧ Blk w' g 3 lenCells ∧ w.heap.size ≤ g ∧ Below w.heap.size w w' := by
  go_enter Tryd.func116, Tryd.ntmps116
  go_wp2_with (first
    | (refine wpList_lens rfl _ rfl (by kernel_rfl) ?_))
  go_ret
  exact ⟨w.heap.size, rfl, Blk.new w 3 lenCells, Nat.le_refl _, (Below.refl _ _).alloc (Nat.le_refl _) _⟩

/-- how many symbols below s have a code of n bits -/
def cb (n : Nat) : Nat → Nat
  | 0 => 0
  | s + 1 => cb n s + (if (code s).2 = n then 1 else 0)
theorem cb_all : ∀ n, n < 31 → cb n 257 = cnt n := by decide +kernel
theorem cb_val : ∀ s, s < 257 → frst (code s).2 + cb (code s).2 s = (code s).1 := by decide +kernel
theorem cb_le (n : Nat) : ∀ s, cb n s ≤ s
  | 0 => by simp [cb]
  | s + 1 => by have := cb_le n s; rw [cb]; split <;> omega
theorem cb_yes {n s : Nat} (h : (code s).2 = n) : cb n (s + 1) = cb n s + 1 := by rw [cb, if_pos h]
theorem cb_no {n s : Nat} (h : ¬ (code s).2 = n) : cb n (s + 1) = cb n s := by rw [cb, if_neg h]; rfl

end Go.Proofs.YtinieljgcenemaaDoor
namespace Go.Proofs.YtinieljgcenemaaDoor
open Go.RowKit Go.Own Go.Huf
set_option linter.unusedVariables false

set_option maxRecDepth 100000 in
theorem E61 : Elt Tryd.prog 155 9 (.string ⟨#[]⟩) 1 16 := ⟨Tryd.underlying155, by
  refine ⟨_, rfl, ?_, ?_, ?_⟩ <;> kernel_rfl, rfl, by decide⟩
def ccv (n s i : Nat) : Value := if (code i).2 < n ∨ ((code i).2 = n ∧ i < s) then .string (bstr (cbits i)) else .string ⟨#[]⟩
/-- the table, behind the round n's step s -/
def CC (n s : Nat) : List Value := (List.range 257).map (ccv n s)
theorem CC_length (n s : Nat) : (CC n s).length = 257 := by simp [CC]
theorem CC_start : CC 1 0 = List.replicate 257 (.string ⟨#[]⟩) := by
  apply List.ext_getElem (by rw [CC_length, List.length_replicate])
  intro i h1 h2
  have hi : i < 257 := by simpa [CC] using h1
  have := code_sym i hi
  simp only [CC, List.getElem_map, List.getElem_range, List.getElem_replicate, ccv]
  rw [if_neg (by omega)]
theorem CC_round (n : Nat) : CC n 257 = CC (n + 1) 0 := by
  apply List.ext_getElem (by simp [CC])
  intro i h1 h2
  have hi : i < 257 := by simpa [CC] using h1
  simp only [CC, List.getElem_map, List.getElem_range, ccv]
  have : ((code i).2 < n ∨ (code i).2 = n ∧ i < 257) ↔ ((code i).2 < n + 1 ∨ (code i).2 = n + 1 ∧ i < 0) := by omega
  simp only [this]
theorem CC_no {n s : Nat} (h : ¬ (code s).2 = n) : CC n (s + 1) = CC n s := by
  apply List.ext_getElem (by simp [CC])
  intro i h1 h2
  simp only [CC, List.getElem_map, List.getElem_range, ccv]
  have : ((code i).2 < n ∨ (code i).2 = n ∧ i < s + 1) ↔ ((code i).2 < n ∨ (code i).2 = n ∧ i < s) := by
    constructor
    · rintro (e1 | ⟨e1, e2⟩)
      · exact .inl e1
      · refine .inr ⟨e1, ?_⟩
        have : i ≠ s := by intro e3; exact h (e3 ▸ e1)
        omega
    · omega
  simp only [this]
theorem CC_yes {n s : Nat} (h : (code s).2 = n) : CC n (s + 1) = (CC n s).set s (.string (bstr (cbits s))) := by
  apply List.ext_getElem (by simp [CC])
  intro i h1 h2
  rw [List.getElem_set]
  simp only [CC, List.getElem_map, List.getElem_range, ccv]
  by_cases e : s = i
  · subst e
    rw [if_pos rfl, if_pos (.inr ⟨h, by omega⟩)]
  · rw [if_neg e]
    have : ((code i).2 < n ∨ (code i).2 = n ∧ i < s + 1) ↔ ((code i).2 < n ∨ (code i).2 = n ∧ i < s) := by omega
    simp only [this]
theorem CC_end {i : Nat} (hi : i < 257) : (CC 31 0)[i]? = some (.string (bstr (cbits i))) := by
  have := code_sym i hi
  rw [List.getElem?_eq_getElem (by rw [CC_length]; exact hi)]
  simp only [CC, List.getElem_map, List.getElem_range, ccv]
  rw [if_pos (.inl (by omega))]
/-- the block holds the table -/
def TabC (w : World) (g n s : Nat) : Prop := ∃ cur : List Value, Blk w g 9 cur ∧ cur.take 257 = CC n s
theorem TabC.at_ {w : World} {g n s i : Nat} (h : TabC w g n s) (hi : i < 257) : ∃ v, w.cell? ⟨g, i, none⟩ = some v ∧ w.frozen? ⟨g, i, none⟩ = false := by
  obtain ⟨cur, hb, ht⟩ := h
  have hl : (cur.take 257).length = 257 := by rw [ht, CC_length]
  rw [List.length_take] at hl
  exact ⟨cur[i]'(by omega), (hb.cell i).trans (List.getElem?_eq_getElem (by omega)), hb.frozen i⟩
theorem TabC.below {w w' : World} {g n s : Nat} (h : TabC w g n s) (hb : Below w.heap.size w w') : TabC w' g n s := by
  obtain ⟨cur, hk, ht⟩ := h
  exact ⟨cur, hk.below hb hk.lt, ht⟩
theorem TabC.lt {w : World} {g n s : Nat} (h : TabC w g n s) : g < w.heap.size := by
  obtain ⟨cur, hk, ht⟩ := h
  exact hk.lt
theorem TabC.yes {w : World} {g n s : Nat} (h : TabC w g n s) (hl : (code s).2 = n) : TabC (w.setCell ⟨g, s, none⟩ (.string (bstr (cbits s)))) g n (s + 1) := by
  obtain ⟨cur, hk, ht⟩ := h
  exact ⟨_, hk.set_ s _, by rw [List.take_set, ht, CC_yes hl]⟩
theorem TabC.no {w : World} {g n s : Nat} (h : TabC w g n s) (hl : ¬ (code s).2 = n) : TabC w g n (s + 1) := by
  obtain ⟨cur, hk, ht⟩ := h
  exact ⟨cur, hk, by rw [ht, CC_no hl]⟩
theorem TabC.round {w : World} {g n : Nat} (h : TabC w g n 257) : TabC w g (n + 1) 0 := by
  obtain ⟨cur, hk, ht⟩ := h
  exact ⟨cur, hk, by rw [ht, CC_round]⟩
/-- the codes of all symbols -/
def CodesAt (w : World) (g : Nat) : Prop := ∀ i, i < 257 → w.cell? ⟨g, i, none⟩ = some (.string (bstr (cbits i)))
theorem TabC.done {w : World} {g : Nat} (h : TabC w g 31 0) : CodesAt w g := by
  obtain ⟨cur, hk, ht⟩ := h
  intro i hi
  rw [hk.cell, ← CC_end hi, ← ht, List.getElem?_take, if_pos hi]
theorem CodesAt.below {w w' : World} {g : Nat} (h : CodesAt w g) (hb : Below w.heap.size w w') : CodesAt w' g := fun i hi => (hb.cell (World.block_lt_of_cell? w _ (h i hi))).trans (h i hi)
theorem CodesAt.fr {w w' : World} {g : Nat} {S : Nat → Prop} (h : CodesAt w g) (hf : Fr S w w') (hs : ¬ S g) : CodesAt w' g := fun i hi => hf.cell (h i hi) hs
theorem CodesAt.lt {w : World} {g : Nat} (h : CodesAt w g) : g < w.heap.size := World.block_lt_of_cell? w _ (h 0 (by omega))

theorem own_empty_s (w : World) : (w.alloc (.cells #[] 9)).ownsRow w.heap.size 9 1 (.slice (some ⟨w.heap.size, 0, none⟩) 0 0) 0 [] := by
  have h2 := own_of_blk (size := 1) (n := 0) (cap := 0) (Blk.new w 9 []) (by simp) (by omega) (by unfold maxLen; omega)
  have h3 := own_base (B := w.heap.size) h2 (fun g hg => by simp [Value.ownBlock] at hg; omega)
  simpa using h3
theorem one_str (s : ByteArray) : ∀ u ∈ [Value.string s], u.oneCell' = true := by
  intro u hu
  simp at hu
  subst hu
  rfl

set_option maxRecDepth 100000 in
set_option maxHeartbeats 4000000 in
theorem rCodes_any (w : World) : Calls Tryd.prog 109 #[] w fun e w' => ∃ g c, e = .returned (.slice (some ⟨g, 0, none⟩) 257 c) ∧ 257 ≤ c ∧ CodesAt w' g ∧ w.heap.size ≤ g ∧ Below w.heap.size w w' := by
  go_enter Tryd.func109, Tryd.ntmps109
  go_wp2
  go_loopg [1, 2] 257 (fun gh o i w' => ∃ (A : Option Addr) (k c : Nat), gh + k = 257 ∧ o = .slice A k c ∧ i = .int .i64 k ∧ w'.ownsRow w.heap.size 9 1 (.slice A k c) k (List.replicate k (.string ⟨#[]⟩)) ∧ Below w.heap.size w w')
  case atStart => exact ⟨_, 0, 0, by omega, rfl, rfl, own_empty_s w, (Below.refl _ _).alloc (Nat.le_refl _) _⟩
  case round =>
    obtain ⟨A, k, c, hk, rfl, rfl, ho, hb⟩ := hrel
    have Ho := Lib.hid ho
    have Hb := Lib.hid hb
    clear ho hb
    cases gk with
    | succ g1 =>
      have hown := own_alloc Ho.out (.cells #[.string ⟨#[]⟩] 9)
      have Hown := Lib.hid hown
      clear hown
      go_wp2_with (first
        | (at_builtin
           refine wpList_append_rd rfl (.tmp 12) (.tmp 13) 155 rfl E61 (.slice A k c) k (List.replicate k (.string ⟨#[]⟩)) rfl Hown.out (some ⟨wr.heap.size, 0, none⟩) 1 1 _ rfl (rd_lit1 wr 9 _) (one_str _) (by omega) (by unfold maxLen; omega) (by have := Hb.out.size; simp; omega) ?_
           intro A' c' w4 ho hf ho2
           have Ho4 := Lib.hid ho
           have H4 := Lib.hid (Hb.out.trans ((((Below.refl _ _).alloc Hb.out.size _).trans (hf.below (by simp; have := Hb.out.size; omega) (fun i _ e => (Ho.out.lt i e.symm).1)))))
           clear ho hf ho2))
      go_roundg g1
      case measure => omega
      case rel => exact ⟨A', k + 1, c', by omega, rfl, by go_num, by rw [List.replicate_succ']; exact Ho4.out, H4.out⟩
    | zero =>
      obtain rfl : k = 257 := by omega
      obtain ⟨g, c', hA, hge, hlt⟩ := Ho.out.form (by omega)
      simp only [Value.slice.injEq] at hA
      obtain ⟨rfl, _, rfl⟩ := hA
      obtain ⟨cur, hB, hnc, hcm, hcl, htk⟩ := own_blk Ho.out
      have HT := Lib.hid (show TabC wr g 1 0 from ⟨cur, hB, by rw [CC_start, ← htk]⟩)
      clear hB hcl htk hlt hcm
      go_wp2_with (first
        | (go_at_call 116; (with_reducible refine (rLengths_any _).mono ?_); rintro e w1 ⟨g1, rfl, hB1, hge1, hb1⟩; have HB1 := Lib.hid hB1; have Hb1 := Lib.hid (Hb.out.trans (hb1.mono Hb.out.size)); have HT1 := Lib.hid (HT.out.below hb1); have hne : g ≠ g1 := (by have := HT.out.lt; omega); clear hB1 hb1 hge1))
      clear HT
      go_loopg [5, 4] 30 (fun gh i cd w' => ∃ n : Nat, gh + n = 31 ∧ 1 ≤ n ∧ i = .int .i64 n ∧ cd = .int .u32 (nx n : Nat) ∧ Below w.heap.size w w' ∧ Blk w' g1 3 lenCells ∧ TabC w' g n 0)
      case atStart => exact ⟨1, by omega, by omega, rfl, rfl, Hb1.out, HB1.out, HT1.out⟩
      case round =>
        obtain ⟨n, hg, hn1, rfl, rfl, hb, hB, hT⟩ := hrel
        clear Hb1 HB1 HT1
        have Hb2 := Lib.hid hb
        have HB2 := Lib.hid hB
        have HT2 := Lib.hid hT
        clear hb hB hT
        cases gk with
        | succ gg =>
          have hn30 : n ≤ 30 := by omega
          have hd30 : decide ((n : Int) ≤ 30) = true := by simp; omega
          have hnx := nx_le n (by omega)
          have hn2 := nx_two n
          have e2 : IntKind.u32.wrap ((nx n : Int) * 2) = (frst n : Nat) := by rw [← hn2]; rw [IntKind.wrap_u32]; omega
          go_wp2
          go_loopg [6, 4] 257 (fun gh i cd w' => ∃ s : Nat, gh + s = 257 ∧ i = .int .i64 s ∧ cd = .int .u32 ((frst n + cb n s : Nat) : Int) ∧ Below w.heap.size w w' ∧ Blk w' g1 3 lenCells ∧ TabC w' g n s)
          case atStart => exact ⟨0, by omega, rfl, by simp [cb], Hb2.out, HB2.out, HT2.out⟩
          case round =>
            obtain ⟨s, hs, rfl, rfl, hb, hB, hT⟩ := hrel
            clear hn2 e2 Hb2 HB2 HT2
            have Hb3 := Lib.hid hb
            have HB3 := Lib.hid hB
            have HT3 := Lib.hid hT
            have hcl := cb_le n s
            clear hb hB hT
            cases gk with
            | succ g2 =>
              have hs257 : s < 257 := by omega
              have hcell := (HB3.out.cell s).trans (lenCells_at s hs257)
              obtain ⟨ln, hln⟩ : ∃ ln, (code s).2 = ln := ⟨_, rfl⟩
              rw [hln] at hcell
              obtain ⟨cc, hcc⟩ : ∃ cc, cb n s = cc := ⟨_, rfl⟩
              rw [hcc] at hcl ⊢
              have Hcc := Lib.hid hcc
              have Hln := Lib.hid hln
              clear hcc hln
              by_cases hq : ln = n
              · subst hq
                have hv := cb_val s hs257
                rw [Hln.out, Hcc.out] at hv
                obtain ⟨v, hvv⟩ : ∃ v, (code s).1 = v := ⟨_, rfl⟩
                have hvl := code_lt s hs257
                rw [hvv, Hln.out] at hvl
                have hp30 : (2 : Nat) ^ ln ≤ 2 ^ 30 := Nat.pow_le_pow_right (by omega) hn30
                have hvb : v < 1073741824 := by omega
                rw [hvv] at hv
                rw [hv]
                have hcbs : bitsN ln v = cbits s := by rw [cbits, Hln.out, hvv]
                have Hcbs := Lib.hid hcbs
                have Hv := Lib.hid hv
                clear hv hvv hvl hp30 hcbs
                go_wp2_with (first
                  | (go_at_call 114; (with_reducible refine (rBits_any v ln _ (by omega) (by omega)).mono ?_); rw [Hcbs.out]; rintro e w4 ⟨rfl, hb4⟩; have Hb4 := Lib.hid (Hb3.out.trans (hb4.mono Hb3.out.size)); have HB4 := Lib.hid (HB3.out.below hb4 HB3.out.lt); have HT4 := Lib.hid (HT3.out.below hb4); obtain ⟨ov, hov, hof⟩ := HT4.out.at_ hs257; clear hb4))
                go_roundg g2
                case measure => omega
                case rel =>
                  have hf : Fr (· = g) w4 (w4.setCell ⟨g, s, none⟩ (.string (bstr (cbits s)))) := (Fr.refl (· = g) w4).setCell (p := ⟨g, s, none⟩) (.inl rfl) _
                  exact ⟨s + 1, by omega, by go_num, by rw [cb_yes Hln.out, Hcc.out, ← Nat.add_assoc, Hv.out]; go_num, Hb4.out.trans (hf.below Hb4.out.size (fun i _ e => e ▸ hge)), HB4.out.fr hf (fun e => hne e.symm), HT4.out.yes Hln.out⟩
              · go_wp2
                go_roundg g2
                case measure => omega
                case rel => exact ⟨s + 1, by omega, by go_num, by rw [cb_no (by rw [Hln.out]; exact hq), Hcc.out], Hb3.out, HB3.out, HT3.out.no (by rw [Hln.out]; exact hq)⟩
            | zero =>
              obtain rfl : s = 257 := by omega
              have hca := cb_all n (by omega)
              rw [hca]
              go_wp2
              go_roundg gg
              case measure => omega
              case rel => exact ⟨n + 1, by omega, by omega, by go_num, rfl, Hb3.out, HB3.out, HT3.out.round⟩
        | zero =>
          obtain rfl : n = 31 := by omega
          go_wp2
          go_ret
          exact ⟨g, c, rfl, hnc, HT2.out.done, hge, Hb2.out⟩
end Go.Proofs.YtinieljgcenemaaDoor
namespace Go.Proofs.YtinieljgcenemaaDoor
open Go.RowKit Go.Own Go.Huf
set_option linter.unusedVariables false

theorem strCells_str (t : List UInt8) : Lib.strCells (str t) = t.map BV := by rw [Lib.strCells, str_data]; rfl
/-- append of a text's bytes -/
theorem wpList_append_str {w : World} {ops : Array Oper} {rest : List Oper} {o : Oper} {a : Act} {Q : Exit → Act → World → Prop} (hgd : o.guard = none) (sl x : Operand)
    (ho : o.op = .call { callee := .builtin .append, args := #[sl, x], argTypes := #[29, 9] }) {base : Nat}
    (v : Value) (n : Nat) (xs : List UInt8) (hs : a.eval sl = v) (hown : w.ownsRow base 5 1 v n (xs.map BV)) (t : List UInt8) (k : Nat) (hx : a.eval x = .string (str t)) (hk : t.length = k)
    (hb : n + k ≤ 140737488355328) (hbase : base ≤ w.heap.size)
    (h : ∀ A' c' w', w'.ownsRow base 5 1 (.slice A' (n + k) c') (n + k) ((xs ++ t).map BV) → Fr (fun i => some i = v.ownBlock) w w' → wpList Tryd.prog ops Q rest (a.put o.dst (.slice A' (n + k) c')) w') : wpList Tryd.prog ops Q (o :: rest) a w := by
  obtain ⟨ht, ⟨i, hi, hz0, hsize, hby⟩, hzs, hsz⟩ := E31
  have hsk : (str t).size = k := by rw [str_size, hk]
  refine Lib.wpList_append_own_string (P := Tryd.prog) w hgd sl x 29 9 ho base 5 i ht Tryd.underlying9 hi hz0 hsize hby v n (xs.map BV) hs hown (str t) hx (by rw [hsk]; unfold maxLen; omega) (by rw [hsk]; exact hb) hbase ?_
  intro v' w' ho2 hg _
  rw [hsk, strCells_str, ← List.map_append] at ho2
  obtain ⟨A', c', rfl, _⟩ := own_shape ho2
  exact h A' c' w' ho2 (Fr.of_grown hg (fun i _ e => e))

theorem str_inj {a b : List UInt8} (h : str a = str b) : a = b := by
  have := congrArg (fun s : ByteArray => s.data.toList) h
  simpa [str_data] using this
theorem chs_append (a b : List Bool) : chs (a ++ b) = chs a ++ chs b := by simp [chs]
theorem conv_str {W : World} {A : Option Addr} {n c : Nat} {xs : List UInt8} (h : Rd W 1 A n (xs.map BV)) : (convert 29 9 (.slice A n c)).run Tryd.prog W = .ok (.string (str xs)) W := conv_rd h
theorem own_empty_b (w : World) : (w.alloc (.cells #[] 5)).ownsRow w.heap.size 5 1 (.slice (some ⟨w.heap.size, 0, none⟩) 0 0) 0 [] := by
  have h2 := own_of_blk (size := 1) (n := 0) (cap := 0) (Blk.new w 5 []) (by simp) (by omega) (by unfold maxLen; omega)
  have h3 := own_base (B := w.heap.size) h2 (fun g hg => by simp [Value.ownBlock] at hg; omega)
  simpa using h3

set_option maxRecDepth 100000 in
set_option maxHeartbeats 4000000 in
theorem rSpelt_any (s : ByteArray) (w : World) (hs : s.size ≤ 1048576) : Calls Tryd.prog 102 #[.string s] w fun e w' => e = .returned (.string (bstr (enc s.data.toList))) ∧ Below w.heap.size w w' := by
  go_enter Tryd.func102, Tryd.ntmps102
  go_wp2_with (first
    | (go_at_call 109; (with_reducible refine (rCodes_any _).mono ?_); rintro e w1 ⟨g, c, rfl, hc257, hC, hge, hb1⟩; have HC := Lib.hid hC; have Hb1 := Lib.hid hb1; clear hC hb1))
  go_loopg [4, 5] s.size (fun gh o i w' => ∃ (k : Nat) (A : Option Addr) (n c' : Nat), gh + k = s.size ∧ o = .slice A n c' ∧ i = .int .i64 k ∧ n = (enc (s.data.toList.take k)).length ∧ w'.ownsRow w1.heap.size 5 1 (.slice A n c') n ((chs (enc (s.data.toList.take k))).map BV) ∧ CodesAt w' g ∧ Below w.heap.size w w' ∧ w1.heap.size ≤ w'.heap.size)
  case atStart => exact ⟨0, _, 0, 0, by omega, rfl, rfl, rfl, own_empty_b w1, HC.out.fr (S := fun _ => False) ((Fr.refl _ _).alloc _) (fun h => h), Hb1.out.alloc Hb1.out.size _, by simp⟩
  case round =>
    obtain ⟨k, A, n, c', hk, rfl, rfl, hn, ho, hC, hb, hsz⟩ := hrel
    have HC2 := Lib.hid hC
    have Hb := Lib.hid hb
    have Ho := Lib.hid ho
    have hle := enc_le (s.data.toList.take k)
    have hkl : (s.data.toList.take k).length ≤ k := List.length_take_le _ _
    have hnb : n ≤ 30 * 1048576 := by omega
    have Hn := Lib.hid hn
    clear hC hb ho hn hle hkl
    cases gk with
    | succ g1 =>
      have hlt : k < s.size := by omega
      obtain ⟨x, hx⟩ : ∃ x : UInt8, s[k] = x := ⟨_, rfl⟩
      have hxl := x.toNat_lt
      have he := enc_take s k hlt
      rw [hx] at he
      have He := Lib.hid he
      have hcell := HC2.out x.toNat (by omega)
      have hx1 : (0 : Int) ≤ (x.toNat : Int) := by omega
      have hx2 : (x.toNat : Int) < 257 := by omega
      obtain ⟨m, hm⟩ : ∃ m, (cbits x.toNat).length = m := ⟨_, rfl⟩
      have hm30 : m ≤ 30 := by rw [← hm, cbits_length]; exact (code_bd x).2.1
      have hml : (chs (cbits x.toNat)).length = m := by rw [chs_length, hm]
      have Hml := Lib.hid hml
      have Hm := Lib.hid hm
      clear he hm hml
      go_wp2_with (first
        | (at_builtin
           refine wpList_append_str rfl (.tmp 14) (.tmp 20) rfl (.slice A n c') n (chs (enc (s.data.toList.take k))) rfl Ho.out (chs (cbits x.toNat)) m rfl Hml.out (by omega) hsz ?_
           intro A4 c4 w4 ho4 hf4
           have Ho4 := Lib.hid ho4
           have Hf4 := Lib.hid hf4
           clear ho4 hf4))
      go_roundg g1
      case measure => omega
      case rel =>
        have hge1 : ∀ i, some i = (Value.slice A n c').ownBlock → w1.heap.size ≤ i := fun i e => (Ho.out.lt i e.symm).1
        have hgl := HC.out.lt
        have hw1 := Hb1.out.size
        refine ⟨k + 1, A4, n + m, c4, by omega, rfl, by go_num, by rw [He.out, List.length_append, ← Hn.out, Hm.out], ?_, HC2.out.fr Hf4.out (fun e => by have := hge1 _ e; omega), Hb.out.trans (Hf4.out.below Hb.out.size (fun i _ e => by have := hge1 _ e; omega)), Nat.le_trans hsz Hf4.out.size⟩
        rw [He.out, chs_append]
        exact Ho4.out
    | zero =>
      obtain rfl : k = s.size := by omega
      have HL2 : Hid (s.data.toList.take s.size = s.data.toList) := List.take_of_length_le (by simp)
      rw [HL2.out] at Ho Hn
      have hcv := conv_str (c := c') (Rd.of_own Ho.out)
      go_wp2
      go_ret
      exact ⟨rfl, Hb.out⟩
/-- Spelt, its answer named -/
theorem rSpelt_t (s : ByteArray) (T : ByteArray) (hT : bstr (enc s.data.toList) = T) (w : World) (hs : s.size ≤ 1048576) : Calls Tryd.prog 102 #[.string s] w fun e w' => e = .returned (.string T) ∧ Below w.heap.size w w' := by
  subst hT
  exact rSpelt_any s w hs

end Go.Proofs.YtinieljgcenemaaDoor
namespace Go.Proofs.YtinieljgcenemaaDoor
open Go.RowKit Go.Own Go.Huf Go.Hin
set_option linter.unusedVariables false

theorem fullP_any (p : Nat) (h1 : 1 ≤ p) (h8 : p ≤ 8) (w : World) : Calls Tryd.prog 100 #[.int .i64 (p : Int)] w fun e w' => e = .returned (.int .u8 ((2 ^ p - 1 : Nat) : Int)) ∧ w = w' := by
  have hp : p = 1 ∨ p = 2 ∨ p = 3 ∨ p = 4 ∨ p = 5 ∨ p = 6 ∨ p = 7 ∨ p = 8 := by omega
  rcases hp with rfl | rfl | rfl | rfl | rfl | rfl | rfl | rfl
  all_goals
    go_enter Tryd.func100, Tryd.ntmps100
    go_wp2
    go_ret
    exact ⟨by kernel_rfl, rfl⟩
theorem mustBe_ok (p : Nat) (h1 : 1 ≤ p) (h8 : p ≤ 8) (w : World) : Calls Tryd.prog 87 #[.int .i64 (p : Int)] w fun e w' => e = .returned (.tuple #[]) ∧ w = w' := by
  have k1 : ¬ (p : Int) < 1 := by omega
  have k2 : ¬ (8 : Int) < (p : Int) := by omega
  go_enter Tryd.func87, Tryd.ntmps87
  go_wp2
  go_end0
  exact ⟨rfl, rfl⟩
theorem mustBe_no (p : Int) (h : ¬ (1 ≤ p ∧ p ≤ 8)) (w : World) : Calls Tryd.prog 87 #[.int .i64 p] w fun e w' => e = .panicked [{ v := .iface 124 (.agg #[]), recovered := false }] ∧ w = w' := by
  by_cases k1 : p < 1
  · go_enter Tryd.func87, Tryd.ntmps87
    go_wp2
    exact ⟨rfl, rfl, rfl⟩
  · have k2 : (8 : Int) < p := by omega
    go_enter Tryd.func87, Tryd.ntmps87
    go_wp2
    exact ⟨rfl, rfl, rfl⟩
/-- the reader's struct, its place k -/
def RAt (w : World) (p : Nat) (A : Option Addr) (len cap k : Nat) : Prop := Blk w p 146 [.slice A len cap, .int .i64 (k : Int)]

set_option maxRecDepth 100000 in
theorem next_no {w : World} {p : Nat} {A : Option Addr} {len cap k n : Nat} (hw : RAt w p A len cap k) (hk : k ≤ len) (hn : len < k + n) (hcap : len ≤ 9223372036854775807) :
    Calls Tryd.prog 117 #[.pointer (some ⟨p, 0, none⟩), .int .i64 (n : Int)] w fun e w' => e = .panicked [{ v := .iface 143 (.agg #[]), recovered := false }] ∧ Fr (fun _ => False) w w' := by
  have c0 := hw.cell 0
  have c1 := hw.cell 1
  simp only [List.getElem?_cons_zero, List.getElem?_cons_succ] at c0 c1
  have h1 : (len : Int) - (k : Int) < (n : Int) := by omega
  have Hw := Lib.hid hw
  clear hw
  go_enter Tryd.func117, Tryd.ntmps117
  go_wp2
  go_quiet (fail)
  go_wp2
  exact ⟨rfl, rfl, (Fr.refl _ _).drewN _⟩
set_option maxRecDepth 100000 in
theorem next_ok {w : World} {p : Nat} {A : Option Addr} {len cap k n : Nat} (hw : RAt w p A len cap k) (hn : k + n ≤ len) (hlc : len ≤ cap) (hcap : cap ≤ 9223372036854775807) :
    Calls Tryd.prog 117 #[.pointer (some ⟨p, 0, none⟩), .int .i64 (n : Int)] w fun e w' => e = .returned (.slice (if cap = k then A else A.map (·.add (k * 1))) n (cap - k)) ∧ RAt w' p A len cap (k + n) ∧ Fr (· = p) w w' := by
  have c0 := hw.cell 0
  have c1 := hw.cell 1
  have f1 := hw.frozen 1
  simp only [List.getElem?_cons_zero, List.getElem?_cons_succ] at c0 c1
  have h1 : ¬ (len : Int) - (k : Int) < (n : Int) := by omega
  have Hw := Lib.hid hw
  clear hw
  go_enter Tryd.func117, Tryd.ntmps117
  go_wp2
  go_quiet (fail)
  go_wp2
  have hs : (k : Int) + (n : Int) = ((k + n : Nat) : Int) := by omega
  rw [hs]
  have hb : RAt ((w.drewN nq).setCell ⟨p, 1, none⟩ (.int .i64 ((k + n : Nat) : Int))) p A len cap (k + n) := by
    have := (Hw.out.drewN nq).set_ 1 (.int .i64 ((k + n : Nat) : Int))
    exact this
  have hf : Fr (· = p) w ((w.drewN nq).setCell ⟨p, 1, none⟩ (.int .i64 ((k + n : Nat) : Int))) := ((Fr.refl (· = p) w).drewN nq).setCell (p := ⟨p, 1, none⟩) (.inl rfl) _
  generalize (w.drewN nq).setCell ⟨p, 1, none⟩ (.int .i64 ((k + n : Nat) : Int)) = w5 at hb hf ⊢
  have d0 := hb.cell 0
  have d1 := hb.cell 1
  simp only [List.getElem?_cons_zero, List.getElem?_cons_succ] at d0 d1
  have Hb := Lib.hid hb
  have Hf := Lib.hid hf
  clear hb hf Hw c0 c1 f1 hs
  have b1 : (k : Int) ≤ ((k + n : Nat) : Int) := by omega
  have b2 : ((k + n : Nat) : Int) ≤ (cap : Int) := by omega
  go_quiet (fail)
  go_wp2
  · go_ret
    have hb2 := Hb.out.drewN nq
    rw [h] at hb2
    exact ⟨rfl, hb2, Hf.out.drewN _⟩
  · go_ret
    exact ⟨rfl, Hb.out.drewN _, Hf.out.drewN _⟩

/-- the reader as it stands: what lay in w0 is as it was; its struct is newer -/
structure RW (w0 : World) (p : Nat) (A : Option Addr) (len cap k : Nat) (w : World) : Prop where
  at_ : RAt w p A len cap k
  below : Below w0.heap.size w0 w
  ple : w0.heap.size ≤ p
  hk : k ≤ len
/-- what is read: the octets, in the first world -/
structure RS (w0 : World) (A : Option Addr) (len cap : Nat) (xs : List UInt8) : Prop where
  rd : Rd w0 1 A len (xs.map BV)
  hlc : len ≤ cap
  hcap : cap ≤ 9223372036854775807
theorem RS.len_ {w0 : World} {A : Option Addr} {len cap : Nat} {xs : List UInt8} (h : RS w0 A len cap xs) : xs.length = len := by simpa using h.rd.1
theorem RW.step {w0 : World} {p : Nat} {A : Option Addr} {len cap k k' : Nat} {w w' : World} (h : RW w0 p A len cap k w) (ha : RAt w' p A len cap k') (hf : Fr (· = p) w w') (hk : k' ≤ len) : RW w0 p A len cap k' w' :=
  ⟨ha, h.below.trans (hf.below h.below.size (fun i _ e => e ▸ h.ple)), h.ple, hk⟩
theorem next_rd {w0 w : World} {p : Nat} {A : Option Addr} {len cap k : Nat} {xs : List UInt8} (hs : RS w0 A len cap xs) (hw : RW w0 p A len cap k w) (n : Nat) (z : Int) (hz : z = (n : Int)) (hn : k + n ≤ len) :
    Calls Tryd.prog 117 #[.pointer (some ⟨p, 0, none⟩), .int .i64 z] w fun e w' => ∃ A' c', e = .returned (.slice A' n c') ∧ n ≤ c' ∧ c' ≤ cap ∧ Rd w' 1 A' n (((xs.drop k).take n).map BV) ∧ RW w0 p A len cap (k + n) w' := by
  subst hz
  refine (next_ok hw.at_ hn hs.hlc hs.hcap).mono ?_
  rintro e w' ⟨rfl, ha, hf⟩
  have hw' := hw.step ha hf hn
  have hl := hs.hlc
  refine ⟨_, _, rfl, by omega, by omega, ?_, hw'⟩
  have h1 := ((hs.rd.below hw'.below).drop (k := k) (cap := cap) (by omega) hs.hlc).take (k := n) (by omega)
  simpa [List.map_drop, List.map_take] using h1
theorem next_up {w0 w : World} {p : Nat} {A : Option Addr} {len cap k : Nat} {xs : List UInt8} (hs : RS w0 A len cap xs) (hw : RW w0 p A len cap k w) (n : Nat) (z : Int) (hz : z = (n : Int)) (hn : len < k + n) :
    Calls Tryd.prog 117 #[.pointer (some ⟨p, 0, none⟩), .int .i64 z] w fun e w' => e = .panicked [{ v := .iface 143 (.agg #[]), recovered := false }] ∧ Below w0.heap.size w0 w' := by
  subst hz
  have h1 := hs.hlc
  have h2 := hs.hcap
  refine (next_no hw.at_ hw.hk hn (by omega)).mono ?_
  rintro e w' ⟨rfl, hf⟩
  exact ⟨rfl, hw.below.trans (hf.below hw.below.size (fun _ _ h => h.elim))⟩
theorem next_1 {w0 w : World} {p : Nat} {A : Option Addr} {len cap k : Nat} {xs : List UInt8} (hs : RS w0 A len cap xs) (hw : RW w0 p A len cap k w) {x : UInt8} (hx : xs[k]? = some x) :
    Calls Tryd.prog 117 #[.pointer (some ⟨p, 0, none⟩), .int .i64 1] w fun e w' => ∃ b o c', e = .returned (.slice (some ⟨b, o, none⟩) 1 c') ∧ w'.cell? ⟨b, o, none⟩ = some (.int .u8 (x.toNat : Int)) ∧ RW w0 p A len cap (k + 1) w' := by
  have hk : k < len := by have := (List.getElem?_eq_some_iff.1 hx).1; have := hs.len_; omega
  refine (next_rd hs hw 1 1 rfl hk).mono ?_
  rintro e w4 ⟨A4, c4, rfl, hc1, hc2, hr, h4⟩
  obtain ⟨b, o, u, rfl, hu, hcu⟩ := hr.at_ (k := 0) (by omega)
  rw [List.map_take, List.map_drop] at hu
  rw [List.getElem?_take_of_lt (by omega), List.getElem?_drop, Nat.add_zero, List.getElem?_map, hx] at hu
  obtain rfl := (Option.some.inj hu)
  exact ⟨b, o, c4, rfl, hcu, h4⟩
theorem octet_ok {w0 w : World} {p : Nat} {A : Option Addr} {len cap k : Nat} {xs : List UInt8} (hs : RS w0 A len cap xs) (hw : RW w0 p A len cap k w) {x : UInt8} (hx : xs[k]? = some x) :
    Calls Tryd.prog 110 #[.pointer (some ⟨p, 0, none⟩)] w fun e w' => e = .returned (.int .u8 (x.toNat : Int)) ∧ RW w0 p A len cap (k + 1) w' := by
  have Hs := Lib.hid hs
  have Hw := Lib.hid hw
  have Hx := Lib.hid hx
  clear hs hw hx
  go_enter Tryd.func110, Tryd.ntmps110
  go_wp2_with (first
    | (go_at_call 117; (with_reducible refine (next_1 Hs.out Hw.out Hx.out).mono ?_); rintro e w4 ⟨b, o, c4, rfl, hc4, h4⟩; have H4 := Lib.hid h4; clear h4))
  go_ret
  exact ⟨rfl, H4.out⟩
theorem octet_up {w0 w : World} {p : Nat} {A : Option Addr} {len cap k : Nat} {xs : List UInt8} (hs : RS w0 A len cap xs) (hw : RW w0 p A len cap k w) (hk : len ≤ k) :
    Calls Tryd.prog 110 #[.pointer (some ⟨p, 0, none⟩)] w fun e w' => e = .panicked [{ v := .iface 143 (.agg #[]), recovered := false }] ∧ Below w0.heap.size w0 w' := by
  have hk1 : len < k + 1 := by omega
  have Hs := Lib.hid hs
  have Hw := Lib.hid hw
  clear hs hw
  go_enter Tryd.func110, Tryd.ntmps110
  go_wp2_with (first
    | (go_at_call 117; (with_reducible refine (next_up Hs.out Hw.out 1 1 rfl hk1).mono ?_); rintro e w4 ⟨rfl, h4⟩; have H4 := Lib.hid h4; clear h4))
  exact ⟨rfl, rfl, H4.out⟩

/-- what reading a number behind comes to -/
def NumPost (w0 : World) (p : Nat) (A : Option Addr) (len cap : Nat) : G → Ending → World → Prop
  | .ok v n, e, w' => e = .returned (.int .i64 (v : Int)) ∧ RW w0 p A len cap n w'
  | .more, e, w' => e = .panicked [{ v := .iface 143 (.agg #[]), recovered := false }] ∧ Below w0.heap.size w0 w'
  | .form, e, w' => e = .panicked [{ v := .iface 164 (.agg #[]), recovered := false }] ∧ Below w0.heap.size w0 w'
  | .arg, _, _ => False
theorem NumPost.of {w0 : World} {p : Nat} {A : Option Addr} {len cap : Nat} {g : G} {e : Ending} {w' : World} (h : NumPost w0 p A len cap g e w') {g' : G} (hg : g = g') : NumPost w0 p A len cap g' e w' := hg ▸ h
set_option maxRecDepth 100000 in
set_option maxHeartbeats 2000000 in
theorem behind_any {w0 w : World} {p : Nat} {A : Option Addr} {len cap : Nat} {xs : List UInt8} (hs : RS w0 A len cap xs) (hw : RW w0 p A len cap 1 w) (m : Nat) (hm : m ≤ 255) (R0 : G) (hR : gbeh 0 m (xs.drop 1) = R0) :
    Calls Tryd.prog 111 #[.pointer (some ⟨p, 0, none⟩), .int .i64 (m : Int)] w fun e w' => NumPost w0 p A len cap R0 e w' := by
  have Hs := Lib.hid hs
  have Hw := Lib.hid hw
  have HR := Lib.hid hR
  have Hl := Lib.hid hs.len_
  clear hs hw hR
  go_enter Tryd.func111, Tryd.ntmps111
  go_wp2
  go_loopg [1, 5] 6 (fun gh nm i w' => ∃ (j acc : Nat), gh + j = 6 ∧ i = .int .i64 j ∧ nm = .int .i64 acc ∧ acc ≤ 2147483647 ∧ j ≤ 5 ∧ gbeh j acc (xs.drop (1 + j)) = R0 ∧ RW w0 p A len cap (1 + j) w')
  case atStart => exact ⟨0, m, by omega, rfl, rfl, by omega, by omega, HR.out, Hw.out⟩
  case round =>
    obtain ⟨j, acc, hj, rfl, rfl, hacc, hj5, hg, hw⟩ := hrel
    have Hg := Lib.hid hg
    have HW := Lib.hid hw
    clear hg hw HR Hw
    cases gk with
    | zero => omega
    | succ g1 =>
      by_cases hlt : 1 + j < len
      · obtain ⟨x, hx⟩ : ∃ x, xs[1 + j]? = some x := ⟨_, List.getElem?_eq_getElem (by have := Hl.out; omega)⟩
        have hd : xs.drop (1 + j) = x :: xs.drop (1 + (j + 1)) := by
          obtain ⟨hi, rfl⟩ := List.getElem?_eq_some_iff.1 hx
          exact List.drop_eq_getElem_cons hi
        have hg := Hg.out
        rw [hd, gbeh] at hg
        have hxl := x.toNat_lt
        have Hx := Lib.hid hx
        have Hg2 := Lib.hid hg
        clear hg hx hd Hg
        by_cases h5 : j = 5
        · subst h5
          have hg := Hg2.out
          rw [if_pos rfl] at hg
          have Hg := Lib.hid hg
          clear hg Hg2
          go_wp2_with (first
            | (go_at_call 110; (with_reducible refine (octet_ok Hs.out HW.out Hx.out).mono ?_); rintro e w4 ⟨rfl, h4⟩; have H4 := Lib.hid h4; clear h4))
          exact ⟨rfl, NumPost.of (g := .form) ⟨rfl, H4.out.below⟩ Hg.out⟩
        · have h5b : ((j : Int) == 5) = false := by simp; omega
          have hg := Hg2.out
          rw [if_neg h5] at hg
          have Hg := Lib.hid hg
          clear hg Hg2
          obtain ⟨q, hq⟩ : ∃ q, x.toNat % 128 * 128 ^ j = q := ⟨_, rfl⟩
          obtain ⟨sm, hsm⟩ : ∃ sm, acc + q = sm := ⟨_, rfl⟩
          have hql : q ≤ 34091302912 := by
            have h1 : 128 ^ j ≤ 128 ^ 4 := Nat.pow_le_pow_right (by omega) (by omega)
            have h2 : x.toNat % 128 * 128 ^ j ≤ 127 * 128 ^ 4 := Nat.mul_le_mul (by omega) h1
            omega
          have hp : (2 : Int) ^ (j * 7) = ((128 ^ j : Nat) : Int) := by
            rw [Nat.mul_comm, Int.pow_mul]
            simp
          have e1 : wrap64 ((x.toNat : Int) % 128 * 2 ^ (j * 7)) = (q : Int) := by
            rw [hp, show (x.toNat : Int) % 128 * ((128 ^ j : Nat) : Int) = ((x.toNat % 128 * 128 ^ j : Nat) : Int) by simp, hq]
            exact IntWalk.wrap64_in _ (by omega)
          have e2 : (acc : Int) + (q : Int) = (sm : Int) := by omega
          have hg := Hg.out
          rw [hq, hsm] at hg
          have Hg2 := Lib.hid hg
          have Hsm := Lib.hid hsm
          clear hg Hg hq hsm hp
          by_cases hM : 2147483647 < sm
          · have hg := Hg2.out
            rw [if_pos hM] at hg
            have Hg := Lib.hid hg
            have k1 : (2147483647 : Int) < (sm : Int) := by omega
            clear hg Hg2 hM
            go_wp2_with (first
              | (go_at_call 110; (with_reducible refine (octet_ok Hs.out HW.out Hx.out).mono ?_); rintro e w4 ⟨rfl, h4⟩; have H4 := Lib.hid h4; clear h4))
            exact ⟨rfl, NumPost.of (g := .form) ⟨rfl, H4.out.below⟩ Hg.out⟩
          · have hg := Hg2.out
            rw [if_neg hM] at hg
            have Hg := Lib.hid hg
            have k1 : ¬ (2147483647 : Int) < (sm : Int) := by omega
            clear hg Hg2
            by_cases h128 : x.toNat < 128
            · have hg := Hg.out
              rw [if_pos h128] at hg
              have Hg2 := Lib.hid hg
              have k2 : (x.toNat : Int) < 128 := by omega
              clear hg Hg h128 hM
              go_wp2_with (first
                | (go_at_call 110; (with_reducible refine (octet_ok Hs.out HW.out Hx.out).mono ?_); rintro e w4 ⟨rfl, h4⟩; have H4 := Lib.hid h4; clear h4))
              go_ret
              exact NumPost.of (g := .ok sm (1 + j + 1)) ⟨rfl, H4.out⟩ (by rw [← Hg2.out]; congr 1; omega)
            · have hg := Hg.out
              rw [if_neg h128] at hg
              have Hg2 := Lib.hid hg
              have k2 : ¬ (x.toNat : Int) < 128 := by omega
              clear hg Hg h128
              go_wp2_with (first
                | (go_at_call 110; (with_reducible refine (octet_ok Hs.out HW.out Hx.out).mono ?_); rintro e w4 ⟨rfl, h4⟩; have H4 := Lib.hid h4; clear h4))
              go_roundg g1
              case measure => omega
              case rel => exact ⟨j + 1, sm, by omega, by go_num, rfl, by omega, by omega, Hg2.out, by rw [← Nat.add_assoc]; exact H4.out⟩
      · have hg := Hg.out
        rw [List.drop_eq_nil_of_le (by have := Hl.out; omega), gbeh] at hg
        have Hg2 := Lib.hid hg
        clear hg Hg
        go_wp2_with (first
          | (go_at_call 110; (with_reducible refine (octet_up Hs.out HW.out (by omega)).mono ?_); rintro e w4 ⟨rfl, h4⟩; have H4 := Lib.hid h4; clear h4))
        exact ⟨rfl, NumPost.of (g := .more) ⟨rfl, H4.out⟩ Hg2.out⟩
theorem and_full (x : UInt8) (p : Nat) (hp : p ≤ 8) : Go.bits BinOp.and IntKind.u8 (x.toNat : Int) ((2 ^ p - 1 : Nat) : Int) = ((x.toNat % 2 ^ p : Nat) : Int) := by
  have hx := x.toNat_lt
  have := two_pow_le p hp
  have h2 := Nat.two_pow_pos p
  rw [u8_and_nat _ _ (by omega) (by omega), Nat.and_two_pow_sub_one_eq_mod]
set_option maxRecDepth 100000 in
set_option maxHeartbeats 2000000 in
theorem number_any {w0 w : World} {p : Nat} {A : Option Addr} {len cap : Nat} {xs : List UInt8} (hs : RS w0 A len cap xs) (hw : RW w0 p A len cap 0 w) (m : Nat) (h1 : 1 ≤ m) (h8 : m ≤ 8) (z : Int) (hz : z = (m : Int)) (R0 : G) (hR : getN m xs = R0) :
    Calls Tryd.prog 104 #[.pointer (some ⟨p, 0, none⟩), .int .i64 z] w fun e w' => NumPost w0 p A len cap R0 e w' := by
  subst hz
  have Hs := Lib.hid hs
  have Hw := Lib.hid hw
  have hpl := two_pow_le m h8
  have hpp := Nat.two_pow_pos m
  obtain ⟨F, hF⟩ : ∃ F, 2 ^ m - 1 = F := ⟨_, rfl⟩
  have hF255 : F ≤ 255 := by omega
  have fullF : ∀ w, Calls Tryd.prog 100 #[.int .i64 (m : Int)] w fun e w' => e = .returned (.int .u8 (F : Int)) ∧ w = w' := by
    intro w
    have := fullP_any m h1 h8 w
    rwa [hF] at this
  match xs, hs, hR with
  | [], hs, hR =>
    have h0 : len = 0 := by have := hs.len_; simpa using this.symm
    rw [getN] at hR
    have HR := Lib.hid hR
    have Hfull := Lib.hid fullF
    clear hs hw hR fullF
    go_enter Tryd.func104, Tryd.ntmps104
    go_wp2_with (first
      | (go_at_call 100; (with_reducible refine (Hfull.out _).mono ?_); rintro e w4 ⟨rfl, rfl⟩)
      | (go_at_call 110; (with_reducible refine (octet_up Hs.out Hw.out (by omega)).mono ?_); rintro e w4 ⟨rfl, h4⟩; have H4 := Lib.hid h4; clear h4))
    exact ⟨rfl, NumPost.of (g := .more) ⟨rfl, H4.out⟩ HR.out⟩
  | x :: r, hs, hR =>
    have hl := hs.len_
    have hx : (x :: r)[0]? = some x := rfl
    have ha := and_full x m h8
    obtain ⟨H, hH⟩ : ∃ H, x.toNat % 2 ^ m = H := ⟨_, rfl⟩
    have hHl : H ≤ F := by have := Nat.mod_lt x.toNat hpp; omega
    rw [getN] at hR
    rw [hH, hF] at hR ha
    have HR := Lib.hid hR
    have Hx := Lib.hid hx
    have Hfull := Lib.hid fullF
    have Hl := Lib.hid hl
    clear hs hw hR hx fullF hF hH hl hpl hpp
    by_cases hc : H < F
    · have hR := HR.out
      rw [if_pos hc] at hR
      have HR2 := Lib.hid hR
      have k1 : (H : Int) < (F : Int) := by omega
      clear hR HR hc
      go_enter Tryd.func104, Tryd.ntmps104
      go_wp2_with (first
        | (go_at_call 100; (with_reducible refine (Hfull.out _).mono ?_); rintro e w4 ⟨rfl, rfl⟩)
        | (go_at_call 110; (with_reducible refine (octet_ok Hs.out Hw.out Hx.out).mono ?_); rintro e w4 ⟨rfl, h4⟩; have H4 := Lib.hid h4; clear h4))
      go_ret
      exact NumPost.of (g := .ok H 1) ⟨rfl, H4.out⟩ HR2.out
    · have hR := HR.out
      rw [if_neg hc] at hR
      have hR2 : gbeh 0 F ((x :: r).drop 1) = R0 := hR
      have HR2 := Lib.hid hR2
      clear hR2
      have k1 : ¬ (H : Int) < (F : Int) := by omega
      clear hR HR hc
      rcases R0 with ⟨v, n⟩ | _ | _ | _
      all_goals
        go_enter Tryd.func104, Tryd.ntmps104
        go_wp2_with (first
          | (go_at_call 100; (with_reducible refine (Hfull.out _).mono ?_); rintro e w4 ⟨rfl, rfl⟩)
          | (go_at_call 110; (with_reducible refine (octet_ok Hs.out Hw.out Hx.out).mono ?_); rintro e w4 ⟨rfl, h4⟩; have H4 := Lib.hid h4; clear h4)
          | (go_at_call 111; (with_reducible refine (behind_any Hs.out H4.out F hF255 _ HR2.out).mono ?_); intro e w5 h5; first | (exact h5.elim) | (obtain ⟨rfl, h5⟩ := h5; have H5 := Lib.hid h5; clear h5)))
      · go_ret
        exact ⟨rfl, H5.out⟩
      · exact ⟨rfl, rfl, H5.out⟩
      · exact ⟨rfl, rfl, H5.out⟩
end Go.Proofs.YtinieljgcenemaaDoor
namespace Go.Proofs.YtinieljgcenemaaDoor
open Go.RowKit Go.Own Go.Huf Go.Hin
set_option linter.unusedVariables false

/-- what may be given up, and its error -/
inductive Up where
  | wrong
  | short
  | sense
  | err (e : Int)
def Up.val : Up → Value
  | .wrong => .iface 124 (.agg #[])
  | .short => .iface 143 (.agg #[])
  | .sense => .iface 164 (.agg #[])
  | .err e => .iface 50 (.int .i64 e)
def Up.code : Up → Int
  | .wrong => 1
  | .short => 2
  | .sense => 3
  | .err e => e
theorem as_yes1 (v : Value) (w : World) : (Instr.typeAssert (.iface 124 v) 20 124 true).run Tryd.prog w = .ok (.tuple #[v, .bool true]) w := by kernel_rfl
theorem as_yes2 (v : Value) (w : World) : (Instr.typeAssert (.iface 143 v) 20 143 true).run Tryd.prog w = .ok (.tuple #[v, .bool true]) w := by kernel_rfl
theorem as_yes3 (v : Value) (w : World) : (Instr.typeAssert (.iface 50 v) 20 50 true).run Tryd.prog w = .ok (.tuple #[v, .bool true]) w := by kernel_rfl
theorem as_no21 (v : Value) (w : World) : (Instr.typeAssert (.iface 143 v) 20 124 true).run Tryd.prog w = .ok (.tuple #[.agg #[], .bool false]) w := by kernel_rfl
theorem as_no31 (v : Value) (w : World) : (Instr.typeAssert (.iface 50 v) 20 124 true).run Tryd.prog w = .ok (.tuple #[.agg #[], .bool false]) w := by kernel_rfl
theorem as_no32 (v : Value) (w : World) : (Instr.typeAssert (.iface 50 v) 20 143 true).run Tryd.prog w = .ok (.tuple #[.agg #[], .bool false]) w := by kernel_rfl
theorem as_no41 (v : Value) (w : World) : (Instr.typeAssert (.iface 164 v) 20 124 true).run Tryd.prog w = .ok (.tuple #[.agg #[], .bool false]) w := by kernel_rfl
theorem as_no42 (v : Value) (w : World) : (Instr.typeAssert (.iface 164 v) 20 143 true).run Tryd.prog w = .ok (.tuple #[.agg #[], .bool false]) w := by kernel_rfl
theorem as_no43 (v : Value) (w : World) : (Instr.typeAssert (.iface 164 v) 20 50 true).run Tryd.prog w = .ok (.tuple #[.int .i64 0, .bool false]) w := by kernel_rfl
theorem eql_nil (t : TypeId) (v : Value) (w : World) : (binOp .eql 20 (.iface t v) .nilIface).run Tryd.prog w = .ok (.bool false) w := by kernel_rfl
theorem eql_nn (w : World) : (binOp .eql 20 .nilIface .nilIface).run Tryd.prog w = .ok (.bool true) w := by kernel_rfl
theorem errno_nil (w : World) : Calls Tryd.prog 86 #[.nilIface] w fun e w' => e = .returned (.int .i64 0) ∧ w = w' := by
  have h1 := eql_nn
  go_enter Tryd.func86, Tryd.ntmps86
  go_wp2
  go_ret
  exact ⟨rfl, rfl⟩
theorem errno_up (u : Up) (w : World) : Calls Tryd.prog 86 #[u.val] w fun e w' => e = .returned (.int .i64 u.code) ∧ Below w.heap.size w w' := by
  have h1 := eql_nil
  have h2 := as_yes1
  have h3 := as_yes2
  have h4 := as_yes3
  have h5 := as_no21
  have h6 := as_no31
  have h7 := as_no32
  have h8 := as_no41
  have h9 := as_no42
  have h10 := as_no43
  cases u
  all_goals
    unfold Up.val Up.code
    go_enter Tryd.func86, Tryd.ntmps86
    go_wp2
  · go_ret
    exact ⟨rfl, (Below.refl _ _).alloc (Nat.le_refl _) _⟩
  · go_ret
    exact ⟨rfl, (Below.refl _ _).alloc (Nat.le_refl _) _⟩
  · go_ret
    exact ⟨rfl, Below.refl _ _⟩
  · go_ret
    exact ⟨rfl, Below.refl _ _⟩

theorem catchP_up (p : Addr) (u : Up) (x : Int) (w : World) (hc : w.cell? p = some (.int .i64 x)) (hz : w.frozen? p = false) :
    CallsD Tryd.prog 85 #[.pointer (some p)] (.panicking [{ v := u.val, recovered := false }]) w fun e u' w' =>
      e = .returned (.tuple #[]) ∧ u' = .panicking [{ v := u.val, recovered := true }] ∧ w'.cell? p = some (.int .i64 u.code) ∧ Fr (· = p.block) w w' := by
  refine callsD_of_wpS Tryd.func85 rfl fun c₀ cs hu => ?_
  apply wpS_region
  simp [wpOpsS, go_sem, recoverD, hu, Tryd.ntmps85]
  refine (errno_up u w).mono ?_
  rintro e w2 ⟨rfl, hb⟩
  have hlt := World.block_lt_of_cell? w p hc
  have hc2 := (hb.cell hlt).trans hc
  have hz2 := (hb.frozen hlt).trans hz
  simp [go_sem, hc2, hz2, bodyPostS, results, Tryd.results85]
  exact (Fr.of_below (S := fun i => i = p.block) hb (fun i h1 h2 => by omega)).setCell (p := p) (.inl rfl) _
theorem catchP_idle (p : Addr) (x : Int) (w : World) (hc : w.cell? p = some (.int .i64 x)) (hz : w.frozen? p = false) :
    CallsD Tryd.prog 85 #[.pointer (some p)] .returning w fun e u' w' =>
      e = .returned (.tuple #[]) ∧ u' = .returning ∧ w'.cell? p = some (.int .i64 0) ∧ Fr (· = p.block) w w' := by
  refine callsD_of_wpS Tryd.func85 rfl fun c₀ cs hu => ?_
  apply wpS_region
  simp [wpOpsS, go_sem, recoverD, hu, Tryd.ntmps85]
  refine (errno_nil w).mono ?_
  rintro e w2 ⟨rfl, rfl⟩
  have h0 : c₀ = { c₀ with mode := .returning } := by cases c₀; simp_all
  simp [go_sem, hc, hz, bodyPostS, results, Tryd.results85]
  exact ⟨_, h0, rfl, (Fr.refl (fun i => i = p.block) w).setCell (p := p) (.inl rfl) _⟩
theorem catchG_up (p : Addr) (u : Up) (x : Int) (w : World) (hc : w.cell? p = some (.int .i64 x)) (hz : w.frozen? p = false) :
    CallsD Tryd.prog 103 #[.pointer (some p)] (.panicking [{ v := u.val, recovered := false }]) w fun e u' w' =>
      e = .returned (.tuple #[]) ∧ u' = .panicking [{ v := u.val, recovered := true }] ∧ w'.cell? p = some (.int .i64 u.code) ∧ Fr (· = p.block) w w' := by
  refine callsD_of_wpS Tryd.func103 rfl fun c₀ cs hu => ?_
  apply wpS_region
  simp [wpOpsS, go_sem, recoverD, hu, Tryd.ntmps103]
  refine (errno_up u w).mono ?_
  rintro e w2 ⟨rfl, hb⟩
  have hlt := World.block_lt_of_cell? w p hc
  have hc2 := (hb.cell hlt).trans hc
  have hz2 := (hb.frozen hlt).trans hz
  simp [go_sem, hc2, hz2, bodyPostS, results, Tryd.results103]
  exact (Fr.of_below (S := fun i => i = p.block) hb (fun i h1 h2 => by omega)).setCell (p := p) (.inl rfl) _
theorem catchG_idle (p : Addr) (x : Int) (w : World) (hc : w.cell? p = some (.int .i64 x)) (hz : w.frozen? p = false) :
    CallsD Tryd.prog 103 #[.pointer (some p)] .returning w fun e u' w' =>
      e = .returned (.tuple #[]) ∧ u' = .returning ∧ w'.cell? p = some (.int .i64 0) ∧ Fr (· = p.block) w w' := by
  refine callsD_of_wpS Tryd.func103 rfl fun c₀ cs hu => ?_
  apply wpS_region
  simp [wpOpsS, go_sem, recoverD, hu, Tryd.ntmps103]
  refine (errno_nil w).mono ?_
  rintro e w2 ⟨rfl, rfl⟩
  have h0 : c₀ = { c₀ with mode := .returning } := by cases c₀; simp_all
  simp [go_sem, hc, hz, bodyPostS, results, Tryd.results103]
  exact ⟨_, h0, rfl, (Fr.refl (fun i => i = p.block) w).setCell (p := p) (.inl rfl) _⟩
theorem catchT_up (p : Addr) (u : Up) (x : Int) (w : World) (hc : w.cell? p = some (.int .i64 x)) (hz : w.frozen? p = false) :
    CallsD Tryd.prog 112 #[.pointer (some p)] (.panicking [{ v := u.val, recovered := false }]) w fun e u' w' =>
      e = .returned (.tuple #[]) ∧ u' = .panicking [{ v := u.val, recovered := true }] ∧ w'.cell? p = some (.int .i64 u.code) ∧ Fr (· = p.block) w w' := by
  refine callsD_of_wpS Tryd.func112 rfl fun c₀ cs hu => ?_
  apply wpS_region
  simp [wpOpsS, go_sem, recoverD, hu, Tryd.ntmps112]
  refine (errno_up u w).mono ?_
  rintro e w2 ⟨rfl, hb⟩
  have hlt := World.block_lt_of_cell? w p hc
  have hc2 := (hb.cell hlt).trans hc
  have hz2 := (hb.frozen hlt).trans hz
  simp [go_sem, hc2, hz2, bodyPostS, results, Tryd.results112]
  exact (Fr.of_below (S := fun i => i = p.block) hb (fun i h1 h2 => by omega)).setCell (p := p) (.inl rfl) _
theorem catchT_idle (p : Addr) (x : Int) (w : World) (hc : w.cell? p = some (.int .i64 x)) (hz : w.frozen? p = false) :
    CallsD Tryd.prog 112 #[.pointer (some p)] .returning w fun e u' w' =>
      e = .returned (.tuple #[]) ∧ u' = .returning ∧ w'.cell? p = some (.int .i64 0) ∧ Fr (· = p.block) w w' := by
  refine callsD_of_wpS Tryd.func112 rfl fun c₀ cs hu => ?_
  apply wpS_region
  simp [wpOpsS, go_sem, recoverD, hu, Tryd.ntmps112]
  refine (errno_nil w).mono ?_
  rintro e w2 ⟨rfl, rfl⟩
  have h0 : c₀ = { c₀ with mode := .returning } := by cases c₀; simp_all
  simp [go_sem, hc, hz, bodyPostS, results, Tryd.results112]
  exact ⟨_, h0, rfl, (Fr.refl (fun i => i = p.block) w).setCell (p := p) (.inl rfl) _⟩

theorem andNot_fin : ∀ x, x < 256 → ∀ m, m < 9 → x &&& (255 - (2 ^ m - 1)) = topOf x m := by decide +kernel
theorem andNot_top (x m : Nat) (hx : x < 256) (hm : m ≤ 8) : Go.bits BinOp.andNot IntKind.u8 (x : Int) ((2 ^ m - 1 : Nat) : Int) = ((topOf x m : Nat) : Int) := by
  have := two_pow_le m hm
  rw [u8_andNot_nat _ _ hx (by omega), andNot_fin x hx m (by omega)]
theorem or_top (x m v : Nat) (hx : x < 256) (hm : m ≤ 8) (hv : v < 2 ^ m) : Go.bits BinOp.or IntKind.u8 ((topOf x m : Nat) : Int) (v : Int) = ((topOf x m + v : Nat) : Int) := by
  have := two_pow_le m hm
  have h2 := topOf_lt x m hx hm
  rw [u8_or_nat _ _ (by omega) (by omega)]
  congr 1
  unfold topOf
  rw [Nat.mul_comm, Nat.two_pow_add_eq_or_of_lt hv]
theorem or_more (r : Nat) (hr : r < 128) : Go.bits BinOp.or IntKind.u8 (r : Int) 128 = ((r + 128 : Nat) : Int) := by
  rw [show (128 : Int) = ((128 : Nat) : Int) from rfl, u8_or_nat _ _ (by omega) (by omega)]
  congr 1
  have := Nat.two_pow_add_eq_or_of_lt (i := 7) hr 1
  rw [show 2 ^ 7 * 1 = 128 from rfl] at this
  rw [Nat.or_comm, ← this]
  omega
theorem own_lit (w : World) (x : UInt8) : (w.alloc (.cells #[.int .u8 (x.toNat : Int)] 5)).ownsRow w.heap.size 5 1 (.slice (some ⟨w.heap.size, 0, none⟩) 1 1) 1 [BV x] := by
  have := own_of_blk (n := 1) (size := 1) (cap := 1) (Blk.new w 5 [BV x]) rfl (by omega) (by simp [maxLen])
  exact own_base this (by intro g hg; simp [Value.ownBlock] at hg; omega)
set_option maxRecDepth 100000 in
set_option maxHeartbeats 2000000 in
theorem numOct_any (x m v : Nat) (hx : x < 256) (h1 : 1 ≤ m) (h8 : m ≤ 8) (hv : v ≤ 2147483647) (L : List UInt8) (hL : putB (2 ^ m - 1) (topOf x m) v = L) (z : Int) (hz : z = (m : Int)) (w : World) :
    Calls Tryd.prog 83 #[.int .u8 (x : Int), .int .i64 z, .int .i64 (v : Int)] w fun e w' => ∃ A c, e = .returned (.slice A L.length c) ∧ w'.ownsRow w.heap.size 5 1 (.slice A L.length c) L.length (L.map BV) ∧ Below w.heap.size w w' := by
  subst hz
  have hLl : L.length ≤ 6 := by rw [← hL]; exact putB_le _ _ _ hv
  have hpl := two_pow_le m h8
  have hpp := Nat.two_pow_pos m
  obtain ⟨F, hF⟩ : ∃ F, 2 ^ m - 1 = F := ⟨_, rfl⟩
  have hF255 : F ≤ 255 := by omega
  obtain ⟨T, hT⟩ : ∃ T, topOf x m = T := ⟨_, rfl⟩
  have Hfull : Hid (∀ w, Calls Tryd.prog 100 #[.int .i64 (m : Int)] w fun e w' => e = .returned (.int .u8 (F : Int)) ∧ w = w') := by
    intro w
    have := fullP_any m h1 h8 w
    rwa [hF] at this
  have ha := andNot_top x m hx h8
  have hTl := topOf_lt x m hx h8
  rw [hT, hF] at ha
  rw [hF, hT] at hL
  rw [hF, hT] at hTl
  by_cases hc : v < F
  · have ho := or_top x m v hx h8 (by omega)
    rw [hT] at ho
    obtain ⟨S, hS⟩ : ∃ S, T + v = S := ⟨_, rfl⟩
    rw [hS] at ho
    have k1 : (v : Int) < (F : Int) := by omega
    have hcv : (v : Int) % 256 = (v : Int) := by omega
    have hL2 : L = [UInt8.ofNat S] := by rw [← hL, putB, if_pos hc, hS]
    have hSl : S < 256 := by omega
    have HL := Lib.hid hL2
    have hbv : Value.int .u8 (S : Int) = BV (UInt8.ofNat S) := by rw [BV, ofn S hSl]
    have Hbv := Lib.hid hbv
    clear hL hL2 hT hF hS hc hbv
    go_enter Tryd.func83, Tryd.ntmps83
    go_wp2_with (first
      | (go_at_call 100; (with_reducible refine (Hfull.out _).mono ?_); rintro e w4 ⟨rfl, rfl⟩))
    go_ret
    refine ⟨some ⟨w.heap.size, 0, none⟩, 1, by rw [HL.out]; rfl, ?_, (Below.refl _ _).alloc (Nat.le_refl _) _⟩
    have := own_lit w (UInt8.ofNat S)
    rw [HL.out]
    rwa [show Value.int .u8 ((UInt8.ofNat S).toNat : Int) = .int .u8 (S : Int) from Hbv.out.symm] at this
  · have ho := or_top x m F hx h8 (by omega)
    rw [hT] at ho
    obtain ⟨S, hS⟩ : ∃ S, T + F = S := ⟨_, rfl⟩
    rw [hS] at ho
    have kb : decide (v < F) = false := decide_eq_false hc
    obtain ⟨d0, hd0⟩ : ∃ d0, v - F = d0 := ⟨_, rfl⟩
    have e0 : (v : Int) - (F : Int) = (d0 : Int) := by omega
    have hL2 : [UInt8.ofNat S] ++ grp d0 = L := by rw [← hL, putB, if_neg hc, hS, hd0]; rfl
    have hSl : S < 256 := by omega
    have hdl : d0 ≤ 2147483647 := by omega
    have HL := Lib.hid hL2
    have hbv : Value.int .u8 (S : Int) = BV (UInt8.ofNat S) := by rw [BV, ofn S hSl]
    have hcF : (F : Int) % 256 = (F : Int) := by omega
    have Hbv := Lib.hid hbv
    clear hL hL2 hT hF hS hc hbv hd0
    go_enter Tryd.func83, Tryd.ntmps83
    go_wp2_with (first
      | (go_at_call 100; (with_reducible refine (Hfull.out _).mono ?_); rintro e w4 ⟨rfl, rfl⟩))
    go_loopg [9, 10] d0 (fun gh o r w' => ∃ (d : Nat) (A : Option Addr) (n c : Nat) (acc : List UInt8), d ≤ gh ∧ o = .slice A n c ∧ r = .int .i64 d ∧ d ≤ 2147483647 ∧ acc ++ grp d = L ∧ w'.ownsRow w.heap.size 5 1 (.slice A n c) n (acc.map BV) ∧ Below w.heap.size w w')
    case atStart =>
      refine ⟨d0, _, _, _, [UInt8.ofNat S], Nat.le_refl _, rfl, rfl, hdl, HL.out, ?_, (Below.refl _ _).alloc (Nat.le_refl _) _⟩
      have := own_lit w (UInt8.ofNat S)
      rwa [show Value.int .u8 ((UInt8.ofNat S).toNat : Int) = .int .u8 (S : Int) from Hbv.out.symm] at this
    case round =>
      obtain ⟨d, A, n, c, acc, hdg, rfl, rfl, hd, hg, how, hb⟩ := hrel
      have hnl : acc.length = n := by have := how.1; simpa using this
      have hgl : acc.length + (grp d).length = L.length := by rw [← hg, List.length_append]
      have hn6 : n ≤ 6 := by omega
      have Hg := Lib.hid hg
      have Ho := Lib.hid how
      have Hb := Lib.hid hb
      have Hnl := Lib.hid hnl
      clear hg how hb HL hgl hnl
      by_cases h128 : d < 128
      · have k2 : ¬ (128 : Int) ≤ (d : Int) := by omega
        have hg := Hg.out
        rw [grp_small h128] at hg
        have Hg2 := Lib.hid hg
        have hcd : (d : Int) % 256 = (d : Int) := by omega
        have hbd : Value.int .u8 (d : Int) = BV (UInt8.ofNat d) := by rw [BV, ofn d (by omega)]
        have Hbd := Lib.hid hbd
        clear hg Hg hbd
        go_wp2_with (first
          | (at_builtin
             refine wpList_append_rd rfl (.tmp 44) (.tmp 47) 29 rfl E31 (.slice A n c) n (acc.map BV) rfl (own_alloc Ho.out _) (some ⟨wr.heap.size, 0, none⟩) 1 1 _ rfl (rd_lit1 wr 5 _) (one_lit1 _ _) (by omega) (by unfold maxLen; omega) (by have := Hb.out.size; simp; omega) ?_
             intro A' c' w6 ho6 hf6 ho2
             have H6 := Lib.hid ho6
             have HF6 := Lib.hid hf6
             clear ho6 hf6 ho2))
        go_ret
        have hl : L.length = n + 1 := by rw [← Hg2.out, List.length_append, Hnl.out]; rfl
        refine ⟨A', c', by rw [hl]; rfl, ?_, (Hb.out.alloc Hb.out.size _).trans (HF6.out.below (by have := Hb.out.size; simp; omega) (fun i _ e => (Ho.out.lt i e.symm).1))⟩
        rw [hl, ← Hg2.out, List.map_append]
        have := H6.out
        rwa [Hbd.out] at this
      · have k2 : (128 : Int) ≤ (d : Int) := by omega
        have hg := Hg.out
        rw [grp_big h128] at hg
        have Hg2 := Lib.hid hg
        obtain ⟨r, hr⟩ : ∃ r, d % 128 = r := ⟨_, rfl⟩
        have hrl : r < 128 := by omega
        have e1 : (d : Int) % 128 = (r : Int) := by omega
        have e2 := or_more r hrl
        obtain ⟨y, hy⟩ : ∃ y, r + 128 = y := ⟨_, rfl⟩
        rw [hy] at e2
        obtain ⟨d', hd'⟩ : ∃ d', d / 128 = d' := ⟨_, rfl⟩
        have e3 : (d : Int) / 128 = (d' : Int) := by omega
        have Hr := Lib.hid hr
        have Hy := Lib.hid hy
        have Hd' := Lib.hid hd'
        clear hg Hg hr hy hd'
        obtain ⟨g1, rfl⟩ : ∃ g1, gk = g1 + 1 := ⟨gk - 1, by omega⟩
        go_wp2_with (first
          | (at_builtin
             refine wpList_append_rd rfl (.tmp 35) (.tmp 40) 29 rfl E31 (.slice A n c) n (acc.map BV) rfl (own_alloc Ho.out _) (some ⟨wr.heap.size, 0, none⟩) 1 1 _ rfl (rd_lit1 wr 5 _) (one_lit1 _ _) (by omega) (by unfold maxLen; omega) (by have := Hb.out.size; simp; omega) ?_
             intro A' c' w6 ho6 hf6 ho2
             have H6 := Lib.hid ho6
             have HF6 := Lib.hid hf6
             clear ho6 hf6 ho2))
        go_roundg g1
        case measure => omega
        case rel =>
          refine ⟨d', A', n + 1, c', acc ++ [UInt8.ofNat y], by have := Hd'.out; omega, rfl, rfl, by have := Hd'.out; omega, ?_, ?_, (Hb.out.alloc Hb.out.size _).trans (HF6.out.below (by have := Hb.out.size; simp; omega) (fun i _ e => (Ho.out.lt i e.symm).1))⟩
          · rw [← Hg2.out, Hr.out, Hy.out, Hd'.out, List.append_assoc]; rfl
          · have := H6.out
            rw [List.map_append]
            rwa [show Value.int .u8 (y : Int) = BV (UInt8.ofNat y) by rw [BV, ofn y (by have := Hy.out; omega)]] at this

/-- the error's variable, newly made, in whatever world lies above it -/
theorem err_cell {w w5 : World} (hb : Below (w.alloc (.cells #[.int .i64 0] 50)).heap.size (w.alloc (.cells #[.int .i64 0] 50)) w5) :
    w5.cell? ⟨w.heap.size, 0, none⟩ = some (.int .i64 0) ∧ w5.frozen? ⟨w.heap.size, 0, none⟩ = false := by
  have h := Blk.new w 50 [.int .i64 0]
  have hlt : w.heap.size < (w.alloc (.cells #[.int .i64 0] 50)).heap.size := by simp
  exact ⟨(hb.cell (p := ⟨w.heap.size, 0, none⟩) hlt).trans (h.cell 0), (hb.frozen (p := ⟨w.heap.size, 0, none⟩) hlt).trans (h.frozen 0)⟩
theorem own_above {w w5 : World} {e : TypeId} {v : Value} {n : Nat} {xs : List Value} {o : Obj} (ho : w5.ownsRow (w.alloc o).heap.size e 1 v n xs) : w5.ownsRow (w.heap.size + 1) e 1 v n xs := by
  simpa using ho
set_option maxRecDepth 100000 in
set_option maxHeartbeats 2000000 in
theorem PutInt_ok (x m v : Nat) (hx : x < 256) (h1 : 1 ≤ m) (h8 : m ≤ 8) (hv : v ≤ 2147483647) (L : List UInt8) (hL : putB (2 ^ m - 1) (topOf x m) v = L) (z : Int) (hz : z = (m : Int)) (zv : Int) (hzv : zv = (v : Int)) (N : Nat) (hN : L.length = N) (w : World) :
    Calls Tryd.prog 69 #[.int .u8 (x : Int), .int .i64 z, .int .i64 zv] w fun e w' => ∃ A c, e = .returned (.tuple #[.slice A N c, .int .i64 0]) ∧ w'.ownsRow (w.heap.size + 1) 5 1 (.slice A N c) N (L.map BV) ∧ Below w.heap.size w w' := by
  subst hz hzv hN
  have hmf : ∀ (fn : Fn) (first cap : Array Value) (w : World), (Instr.makeFunc fn first cap).run Tryd.prog w = .ok (.func fn first cap) w := fun _ _ _ _ => rfl
  have k1 : ¬ (v : Int) < 0 := by omega
  have k2 : ¬ (2147483647 : Int) < (v : Int) := by omega
  have HL := Lib.hid hL
  clear hL
  go_enter_defers Tryd.func69, Tryd.ntmps69
  go_wp2_with (first
    | (go_at_call 87; (with_reducible refine (mustBe_ok m h1 h8 _).mono ?_); rintro e w4 ⟨rfl, rfl⟩)
    | (go_at_call 83; (with_reducible refine (numOct_any x m v hx h1 h8 hv L HL.out _ rfl _).mono ?_); rintro e w5 ⟨A, c, rfl, ho, hb⟩; obtain ⟨hc5, hz5⟩ := err_cell hb; have Ho := Lib.hid (own_above ho); have Hb := Lib.hid (((Below.refl _ _).alloc (Nat.le_refl _) _).trans (hb.mono (by simp))); clear ho hb))
  refine leaves_cons (f := 85) (args := #[.pointer (some ⟨w.heap.size, 0, none⟩)]) (by simp) (by simp [go_sem]) ?_
  refine (catchP_idle ⟨w.heap.size, 0, none⟩ 0 _ (World.cell?_setCell_same _ _ _ hc5) (by simp [hz5])).mono ?_
  rintro e u' w'' ⟨rfl, rfl, hc6, hf⟩
  have hf2 : Fr (· = w.heap.size) w5 w'' := ((Fr.refl (· = w.heap.size) w5).setCell (p := ⟨w.heap.size, 0, none⟩) (.inl rfl) _).trans hf (fun _ _ h => h)
  simp [Leaves, settle, results, Tryd.results69, go_sem, hc6]
  exact ⟨A, c, ⟨rfl, rfl⟩, own_fr Ho.out hf2 (fun g hg e => by have := (Ho.out.lt g hg).1; omega), Hb.out.trans (hf2.below Hb.out.size (fun i _ e => by omega))⟩
theorem PutInt_no (x m v : Int) (h : ¬ (1 ≤ m ∧ m ≤ 8) ∨ v < 0 ∨ 2147483647 < v) (w : World) :
    Calls Tryd.prog 69 #[.int .u8 x, .int .i64 m, .int .i64 v] w fun e w' => e = .returned (.tuple #[.slice none 0 0, .int .i64 1]) ∧ Below w.heap.size w w' := by
  have hmf : ∀ (fn : Fn) (first cap : Array Value) (w : World), (Instr.makeFunc fn first cap).run Tryd.prog w = .ok (.func fn first cap) w := fun _ _ _ _ => rfl
  obtain ⟨hc5, hz5⟩ := err_cell (w := w) (Below.refl _ _)
  have hend : ∀ w'', Fr (fun i => i = (⟨w.heap.size, 0, none⟩ : Addr).block) (w.alloc (.cells #[.int .i64 0] 50)) w'' → Below w.heap.size w w'' := fun w'' hf =>
    ((Below.refl _ _).alloc (Nat.le_refl _) _).trans (hf.below (by simp) (fun i _ e => by simp at e; omega))
  by_cases hm : 1 ≤ m ∧ m ≤ 8
  · obtain ⟨m', rfl⟩ := Int.eq_ofNat_of_zero_le (show 0 ≤ m by omega)
    have hm1 : 1 ≤ m' := by omega
    have hm8 : m' ≤ 8 := by omega
    by_cases hv : v < 0
    · go_enter_defers Tryd.func69, Tryd.ntmps69
      go_wp2_with (first
        | (go_at_call 87; (with_reducible refine (mustBe_ok m' hm1 hm8 _).mono ?_); rintro e w4 ⟨rfl, rfl⟩))
      refine leaves_cons (f := 85) (args := #[.pointer (some ⟨w.heap.size, 0, none⟩)]) (by simp) (by simp [go_sem]) ?_
      refine (catchP_up ⟨w.heap.size, 0, none⟩ .wrong 0 _ hc5 hz5).mono ?_
      rintro e u' w'' ⟨rfl, rfl, hc6, hf⟩
      simp [Leaves, settle, results, Tryd.results69, go_sem, hc6]
      exact ⟨rfl, hend _ hf⟩
    · have hv2 : (2147483647 : Int) < v := by omega
      go_enter_defers Tryd.func69, Tryd.ntmps69
      go_wp2_with (first
        | (go_at_call 87; (with_reducible refine (mustBe_ok m' hm1 hm8 _).mono ?_); rintro e w4 ⟨rfl, rfl⟩))
      refine leaves_cons (f := 85) (args := #[.pointer (some ⟨w.heap.size, 0, none⟩)]) (by simp) (by simp [go_sem]) ?_
      refine (catchP_up ⟨w.heap.size, 0, none⟩ .wrong 0 _ hc5 hz5).mono ?_
      rintro e u' w'' ⟨rfl, rfl, hc6, hf⟩
      simp [Leaves, settle, results, Tryd.results69, go_sem, hc6]
      exact ⟨rfl, hend _ hf⟩
  · go_enter_defers Tryd.func69, Tryd.ntmps69
    go_wp2_with (first
      | (go_at_call 87; (with_reducible refine (mustBe_no m hm _).mono ?_); rintro e w4 ⟨rfl, rfl⟩))
    refine leaves_cons (f := 85) (args := #[.pointer (some ⟨w.heap.size, 0, none⟩)]) (by simp) (by simp [go_sem]) ?_
    refine (catchP_up ⟨w.heap.size, 0, none⟩ .wrong 0 _ hc5 hz5).mono ?_
    rintro e u' w'' ⟨rfl, rfl, hc6, hf⟩
    simp [Leaves, settle, results, Tryd.results69, go_sem, hc6]
    exact ⟨rfl, hend _ hf⟩
end Go.Proofs.YtinieljgcenemaaDoor
namespace Go.Proofs.YtinieljgcenemaaDoor
open Go.RowKit Go.Own Go.Huf Go.Hin
set_option linter.unusedVariables false

/-- what GetInt answers -/
def getV : G → Value
  | .ok v n => .tuple #[.int .i64 (v : Int), .int .i64 (n : Int), .int .i64 0]
  | .arg => .tuple #[.int .i64 0, .int .i64 0, .int .i64 1]
  | .more => .tuple #[.int .i64 0, .int .i64 0, .int .i64 2]
  | .form => .tuple #[.int .i64 0, .int .i64 0, .int .i64 3]
/-- the world behind the error's variable -/
theorem end_err {w w'' : World} {w5 : World} (hb : Below (w.alloc (.cells #[.int .i64 0] 50)).heap.size (w.alloc (.cells #[.int .i64 0] 50)) w5) (hf : Fr (fun i => i = (⟨w.heap.size, 0, none⟩ : Addr).block) w5 w'') : Below w.heap.size w w'' :=
  (((Below.refl _ _).alloc (Nat.le_refl _) _).trans (hb.mono (by simp))).trans (hf.below (by have := hb.size; simp at this; omega) (fun i _ e => by simp at e; omega))
theorem rw_new (w : World) (o : Obj) (A : Option Addr) (len cap : Nat) : RW (w.alloc o) (w.heap.size + 1) A len cap 0 ((w.alloc o).alloc (.cells #[.slice A len cap, .int .i64 0] 146)) := by
  refine ⟨?_, (Below.refl _ _).alloc (Nat.le_refl _) _, by simp, by omega⟩
  have := Blk.new (w.alloc o) 146 [.slice A len cap, .int .i64 ((0 : Nat) : Int)]
  simpa [RAt] using this
set_option maxRecDepth 100000 in
set_option maxHeartbeats 2000000 in
theorem GetInt_any {w : World} {A : Option Addr} {len cap : Nat} {xs : List UInt8} (hr : Rd w 1 A len (xs.map BV)) (hlc : len ≤ cap) (hcap : cap ≤ 9223372036854775807) (m : Int) (R0 : G) (hR : getI xs m = R0) :
    Calls Tryd.prog 93 #[.slice A len cap, .int .i64 m] w fun e w' => e = .returned (getV R0) ∧ Below w.heap.size w w' := by
  have hmf : ∀ (fn : Fn) (first cap : Array Value) (w : World), (Instr.makeFunc fn first cap).run Tryd.prog w = .ok (.func fn first cap) w := fun _ _ _ _ => rfl
  have Hr := Lib.hid hr
  clear hr
  by_cases hm : 1 ≤ m ∧ m ≤ 8
  · obtain ⟨m', rfl⟩ := Int.eq_ofNat_of_zero_le (show 0 ≤ m by omega)
    have hm1 : 1 ≤ m' := by omega
    have hm8 : m' ≤ 8 := by omega
    rw [getI, if_pos hm] at hR
    have HR : Hid (getN m' xs = R0) := hR
    clear hR hm
    have Hs : Hid (RS (w.alloc (.cells #[.int .i64 0] 50)) A len cap xs) := ⟨rd_alloc Hr.out _, hlc, hcap⟩
    rcases R0 with ⟨v, n⟩ | _ | _ | _
    · go_enter_defers Tryd.func93, Tryd.ntmps93
      go_wp2_with (first
        | (go_at_call 87; (with_reducible refine (mustBe_ok m' hm1 hm8 _).mono ?_); rintro e w4 ⟨rfl, rfl⟩)
        | (go_at_call 104; (with_reducible refine (number_any Hs.out (rw_new w _ A len cap) m' hm1 hm8 _ rfl _ HR.out).mono ?_); rintro e w5 ⟨rfl, h5⟩; obtain ⟨hc5, hz5⟩ := err_cell h5.below; have d1 := h5.at_.cell 1; simp only [List.getElem?_cons_zero, List.getElem?_cons_succ] at d1; have H5 := Lib.hid h5; clear h5))
      go_still_tail 5, (by kernel_rfl)
      change wpList _ _ _ _ _ w5.drew
      go_wp2
      refine leaves_cons (f := 103) (args := #[.pointer (some ⟨w.heap.size, 0, none⟩)]) (by simp) (by simp [go_sem]) ?_
      refine (catchG_idle ⟨w.heap.size, 0, none⟩ 0 (w5.setCell ⟨w.heap.size, 0, none⟩ (.int .i64 0)).drew (World.cell?_setCell_same w5 ⟨w.heap.size, 0, none⟩ (.int .i64 0) hc5) (by simp [hz5])).mono ?_
      rintro e u' w'' ⟨rfl, rfl, hc6, hf⟩
      have hf2 : Fr (fun i => i = (⟨w.heap.size, 0, none⟩ : Addr).block) w5 w'' := (((Fr.refl (fun i => i = (⟨w.heap.size, 0, none⟩ : Addr).block) w5).setCell (p := ⟨w.heap.size, 0, none⟩) (.inl rfl) _).drew).trans hf (fun _ _ h => h)
      simp [Leaves, settle, results, Tryd.results93, go_sem, hc6]
      exact ⟨rfl, end_err H5.out.below hf2⟩
    · go_enter_defers Tryd.func93, Tryd.ntmps93
      go_wp2_with (first
        | (go_at_call 87; (with_reducible refine (mustBe_ok m' hm1 hm8 _).mono ?_); rintro e w4 ⟨rfl, rfl⟩)
        | (go_at_call 104; (with_reducible refine (number_any Hs.out (rw_new w _ A len cap) m' hm1 hm8 _ rfl _ HR.out).mono ?_); intro e w5 h5; exact h5.elim))
    · go_enter_defers Tryd.func93, Tryd.ntmps93
      go_wp2_with (first
        | (go_at_call 87; (with_reducible refine (mustBe_ok m' hm1 hm8 _).mono ?_); rintro e w4 ⟨rfl, rfl⟩)
        | (go_at_call 104; (with_reducible refine (number_any Hs.out (rw_new w _ A len cap) m' hm1 hm8 _ rfl _ HR.out).mono ?_); rintro e w5 ⟨rfl, h5⟩; obtain ⟨hc5, hz5⟩ := err_cell h5; have H5 := Lib.hid h5; clear h5))
      refine leaves_cons (f := 103) (args := #[.pointer (some ⟨w.heap.size, 0, none⟩)]) (by simp) (by simp [go_sem]) ?_
      refine (catchG_up ⟨w.heap.size, 0, none⟩ .short 0 _ hc5 hz5).mono ?_
      rintro e u' w'' ⟨rfl, rfl, hc6, hf⟩
      simp [Leaves, settle, results, Tryd.results93, go_sem, hc6]
      exact ⟨rfl, end_err H5.out hf⟩
    · go_enter_defers Tryd.func93, Tryd.ntmps93
      go_wp2_with (first
        | (go_at_call 87; (with_reducible refine (mustBe_ok m' hm1 hm8 _).mono ?_); rintro e w4 ⟨rfl, rfl⟩)
        | (go_at_call 104; (with_reducible refine (number_any Hs.out (rw_new w _ A len cap) m' hm1 hm8 _ rfl _ HR.out).mono ?_); rintro e w5 ⟨rfl, h5⟩; obtain ⟨hc5, hz5⟩ := err_cell h5; have H5 := Lib.hid h5; clear h5))
      refine leaves_cons (f := 103) (args := #[.pointer (some ⟨w.heap.size, 0, none⟩)]) (by simp) (by simp [go_sem]) ?_
      refine (catchG_up ⟨w.heap.size, 0, none⟩ .sense 0 _ hc5 hz5).mono ?_
      rintro e u' w'' ⟨rfl, rfl, hc6, hf⟩
      simp [Leaves, settle, results, Tryd.results93, go_sem, hc6]
      exact ⟨rfl, end_err H5.out hf⟩
  · rw [getI, if_neg hm] at hR
    subst hR
    obtain ⟨hc5, hz5⟩ := err_cell (w := w) (Below.refl _ _)
    go_enter_defers Tryd.func93, Tryd.ntmps93
    go_wp2_with (first
      | (go_at_call 87; (with_reducible refine (mustBe_no m hm _).mono ?_); rintro e w4 ⟨rfl, rfl⟩))
    refine leaves_cons (f := 103) (args := #[.pointer (some ⟨w.heap.size, 0, none⟩)]) (by simp) (by simp [go_sem]) ?_
    refine (catchG_up ⟨w.heap.size, 0, none⟩ .wrong 0 _ hc5 hz5).mono ?_
    rintro e u' w'' ⟨rfl, rfl, hc6, hf⟩
    simp [Leaves, settle, results, Tryd.results93, go_sem, hc6]
    exact ⟨rfl, end_err (Below.refl _ _) hf⟩
end Go.Proofs.YtinieljgcenemaaDoor
namespace Go.Proofs.YtinieljgcenemaaDoor
open Go.RowKit Go.Own Go.Huf Go.Hin
set_option linter.unusedVariables false

theorem str_nil : str [] = ⟨#[]⟩ := rfl
theorem gbeh_arg : ∀ (xs : List UInt8) (i acc : Nat), gbeh i acc xs ≠ .arg
  | [], _, _ => by simp [gbeh]
  | x :: r, i, acc => by
    rw [gbeh]
    split
    · simp
    · split
      · simp
      · split
        · simp
        · exact gbeh_arg r _ _
theorem getN_arg (m : Nat) (xs : List UInt8) : getN m xs ≠ .arg := by
  cases xs with
  | nil => simp [getN]
  | cons x r =>
    rw [getN]
    split
    · simp
    · exact gbeh_arg r _ _
theorem and128 : ∀ x, x < 256 → x &&& 128 = if x < 128 then 0 else 128 := by decide +kernel
theorem and128_lo (x : UInt8) (h : x.toNat < 128) : Go.bits BinOp.and IntKind.u8 (x.toNat : Int) 128 = 0 := by
  have hx := x.toNat_lt
  rw [show (128 : Int) = ((128 : Nat) : Int) from rfl, u8_and_nat _ _ (by omega) (by omega), and128 _ (by omega), if_pos h]
  rfl
theorem and128_hi (x : UInt8) (h : ¬ x.toNat < 128) : Go.bits BinOp.and IntKind.u8 (x.toNat : Int) 128 = 128 := by
  have hx := x.toNat_lt
  rw [show (128 : Int) = ((128 : Nat) : Int) from rfl, u8_and_nat _ _ (by omega) (by omega), and128 _ (by omega), if_neg h]
theorem RW.keep {w0 : World} {p : Nat} {A : Option Addr} {len cap k : Nat} {w w' : World} (h : RW w0 p A len cap k w) (hb : Below w.heap.size w w') : RW w0 p A len cap k w' :=
  ⟨h.at_.below hb (Blk.lt h.at_), h.below.trans (hb.mono h.below.size), h.ple, h.hk⟩
theorem numOct_n (x m v : Nat) (hx : x < 256) (h1 : 1 ≤ m) (h8 : m ≤ 8) (hv : v ≤ 2147483647) (L : List UInt8) (hL : putB (2 ^ m - 1) (topOf x m) v = L) (N : Nat) (hN : L.length = N) (zx : Int) (hzx : zx = (x : Int)) (z : Int) (hz : z = (m : Int)) (w : World) :
    Calls Tryd.prog 83 #[.int .u8 zx, .int .i64 z, .int .i64 (v : Int)] w fun e w' => ∃ A c, e = .returned (.slice A N c) ∧ w'.ownsRow w.heap.size 5 1 (.slice A N c) N (L.map BV) ∧ Below w.heap.size w w' := by
  subst hzx hN
  exact numOct_any x m v hx h1 h8 hv L hL z hz w
theorem own_base2 {w : World} {b B : Nat} {e : TypeId} {v : Value} {n : Nat} {xs : List Value} (h : w.ownsRow b e 1 v n xs) (hB : B ≤ b) : w.ownsRow B e 1 v n xs := own_base h (fun g hg => Nat.le_trans hB (h.lt g hg).1)
/-- what reading a text comes to -/
def TextPost (w0 : World) (p : Nat) (A : Option Addr) (len cap : Nat) : T → Ending → World → Prop
  | .ok t n, e, w' => e = .returned (.string (str t)) ∧ RW w0 p A len cap n w'
  | .err c, e, w' => ∃ u : Up, u.code = (c : Int) ∧ e = .panicked [{ v := u.val, recovered := false }] ∧ Below w0.heap.size w0 w'
theorem TextPost.of {w0 : World} {p : Nat} {A : Option Addr} {len cap : Nat} {g : T} {e : Ending} {w' : World} (h : TextPost w0 p A len cap g e w') {g' : T} (hg : g = g') : TextPost w0 p A len cap g' e w' := hg ▸ h
theorem Decode_v {w : World} {A : Option Addr} {len cap : Nat} {xs : List UInt8} {R0 : R} {v : Value} (hr : Rd w 1 A len (xs.map BV)) (hC : Cnt w) (hlc : len ≤ cap) (hcap : cap ≤ 9223372036854775807) (hlen : len ≤ 536870912) (most : Int) (hR : dec (bits8 xs) most = R0) (hv : resV R0 = v) :
    Calls Tryd.prog 118 #[.slice A len cap, .int .i64 most] w fun e w' => e = .returned v ∧ Below w.heap.size w w' := by
  subst hR hv
  exact Decode_any hr hC hlc hcap hlen most
set_option maxRecDepth 100000 in
set_option maxHeartbeats 4000000 in
theorem text_any {w0 w : World} {p : Nat} {A : Option Addr} {len cap : Nat} {xs : List UInt8} (hs : RS w0 A len cap xs) (hw : RW w0 p A len cap 0 w) (hC : Cnt w0) (hsz : ∀ size n, getN 7 xs = .ok size n → n + size ≤ len → size ≤ 536870912) (R0 : T) (hR : getT 9223372036854775807 xs = R0) :
    Calls Tryd.prog 113 #[.pointer (some ⟨p, 0, none⟩)] w fun e w' => TextPost w0 p A len cap R0 e w' := by
  have Hs := Lib.hid hs
  have Hw := Lib.hid hw
  have HC := Lib.hid hC
  have Hl := Lib.hid hs.len_
  obtain ⟨R1, hR1⟩ : ∃ R1, getN 7 xs = R1 := ⟨_, rfl⟩
  have HR1 := Lib.hid hR1
  clear hs hw hC
  rcases R1 with ⟨size, n⟩ | _ | _ | _
  · rw [getT_ok hR1] at hR
    have hn1 : 1 ≤ len := by
      obtain ⟨x, r, hx, h1, h2, _⟩ := getN_least hR1
      have := Hl.out
      omega
    have hnl : n ≤ len := by
      obtain ⟨x, r, hx, h1, h2, _⟩ := getN_least hR1
      have := Hl.out
      omega
    have hszl : size ≤ 2147483647 := by
      obtain ⟨x, r, hx, h1, h2, h3, h4⟩ := getN_least hR1
      exact h4
    by_cases hc : len < n + size
    · rw [if_pos (by rw [Hl.out]; exact hc)] at hR
      have HR := Lib.hid hR
      clear hR hR1 hsz
      go_enter Tryd.func113, Tryd.ntmps113
      go_wp2_with (first
        | (go_at_call 104; (with_reducible refine (number_any Hs.out Hw.out 7 (by omega) (by omega) 7 rfl _ HR1.out).mono ?_); rintro e w4 ⟨rfl, h4⟩; have H4 := Lib.hid h4; clear h4)
        | (go_at_call 117; (with_reducible refine (next_up Hs.out H4.out size _ rfl hc).mono ?_); rintro e w5 ⟨rfl, h5⟩; have H5 := Lib.hid h5; clear h5))
      exact ⟨rfl, TextPost.of (g := .err 2) ⟨.short, rfl, rfl, H5.out⟩ HR.out⟩
    · rw [if_neg (by rw [Hl.out]; exact hc)] at hR
      obtain ⟨x, hx, r, hxr⟩ : ∃ x, xs.headD 0 = x ∧ ∃ r, xs = x :: r := by
        obtain ⟨x, r, hx, _⟩ := getN_least hR1
        exact ⟨x, by rw [hx]; rfl, r, hx⟩
      rw [hx] at hR
      obtain ⟨b, o, u, rfl, hu, hcu⟩ := Hs.out.rd.at_ (k := 0) (by omega)
      have hux : u = .int .u8 (x.toNat : Int) := by
        rw [hxr] at hu
        exact (Option.some.inj hu).symm
      subst hux
      have hcu2 : w0.cell? ⟨b, o, none⟩ = some (.int .u8 (x.toNat : Int)) := hcu
      have hbl := World.block_lt_of_cell? w0 _ hcu2
      have Hcu := Lib.hid hcu2
      have hle : n + size ≤ len := by omega
      have hs5 := hsz size n hR1 hle
      obtain ⟨ys, hys⟩ : ∃ ys, (xs.drop n).take size = ys := ⟨_, rfl⟩
      rw [hys] at hR
      have Hys := Lib.hid hys
      clear hR1 hsz hu hcu hcu2 hx hxr hys hc
      by_cases h128 : x.toNat < 128
      · rw [if_pos h128] at hR
        have HR := Lib.hid hR
        have ha := and128_lo x h128
        have hab : ((0 : Int) == 0) = true := rfl
        clear hR h128
        go_enter Tryd.func113, Tryd.ntmps113
        go_wp2_with (first
          | (go_at_call 104; (with_reducible refine (number_any Hs.out Hw.out 7 (by omega) (by omega) 7 rfl _ HR1.out).mono ?_); rintro e w4 ⟨rfl, h4⟩; have H4 := Lib.hid h4; clear h4)
          | (go_at_call 117; (with_reducible refine (next_rd Hs.out H4.out size _ rfl hle).mono ?_); rintro e w5 ⟨A', c', rfl, hc1, hc2, hr5, h5⟩; rw [Hys.out] at hr5; have d0 := h5.at_.cell 0; simp only [List.getElem?_cons_zero] at d0; have hcx := (h5.below.cell (p := ⟨b, o, none⟩) hbl).trans Hcu.out; have H5 := Lib.hid h5; have hcv := conv_str (c := c') hr5; clear h5 hr5))
        go_ret
        exact TextPost.of (g := .ok ys (n + size)) ⟨rfl, H5.out⟩ HR.out
      · rw [if_neg h128] at hR
        have ha := and128_hi x h128
        obtain ⟨R2, hR2⟩ : ∃ R2, dec (bits8 ys) 9223372036854775807 = R2 := ⟨_, rfl⟩
        rw [hR2] at hR
        have HR2 := Lib.hid hR2
        clear hR2 h128
        have HR := Lib.hid hR
        clear hR
        rcases R2 with t | _ | _
        · go_enter Tryd.func113, Tryd.ntmps113
          go_wp2_with (first
            | (go_at_call 104; (with_reducible refine (number_any Hs.out Hw.out 7 (by omega) (by omega) 7 rfl _ HR1.out).mono ?_); rintro e w4 ⟨rfl, h4⟩; have H4 := Lib.hid h4; clear h4)
            | (go_at_call 117; (with_reducible refine (next_rd Hs.out H4.out size _ rfl hle).mono ?_); rintro e w5 ⟨A', c', rfl, hc1, hc2, hr5, h5⟩; rw [Hys.out] at hr5; have d0 := h5.at_.cell 0; simp only [List.getElem?_cons_zero] at d0; have hcx := (h5.below.cell (p := ⟨b, o, none⟩) hbl).trans Hcu.out; have hc3 : c' ≤ 9223372036854775807 := (by have := Hs.out.hcap; omega); have H5 := Lib.hid h5; have HC5 := Lib.hid (HC.out.below h5.below); have Hr5 := Lib.hid hr5; clear h5 hr5)
            | (go_at_call 118; (with_reducible refine (Decode_v Hr5.out HC5.out hc1 hc3 hs5 _ HR2.out (v := .tuple #[.string (str t), .int .i64 0]) rfl).mono ?_); rintro e w6 ⟨rfl, hb6⟩; have H6 := Lib.hid (H5.out.keep hb6); clear hb6))
          go_ret
          exact TextPost.of (g := .ok t (n + size)) ⟨rfl, H6.out⟩ HR.out
        · go_enter Tryd.func113, Tryd.ntmps113
          go_wp2_with (first
            | (go_at_call 104; (with_reducible refine (number_any Hs.out Hw.out 7 (by omega) (by omega) 7 rfl _ HR1.out).mono ?_); rintro e w4 ⟨rfl, h4⟩; have H4 := Lib.hid h4; clear h4)
            | (go_at_call 117; (with_reducible refine (next_rd Hs.out H4.out size _ rfl hle).mono ?_); rintro e w5 ⟨A', c', rfl, hc1, hc2, hr5, h5⟩; rw [Hys.out] at hr5; have d0 := h5.at_.cell 0; simp only [List.getElem?_cons_zero] at d0; have hcx := (h5.below.cell (p := ⟨b, o, none⟩) hbl).trans Hcu.out; have hc3 : c' ≤ 9223372036854775807 := (by have := Hs.out.hcap; omega); have H5 := Lib.hid h5; have HC5 := Lib.hid (HC.out.below h5.below); have Hr5 := Lib.hid hr5; clear h5 hr5)
            | (go_at_call 118; (with_reducible refine (Decode_v Hr5.out HC5.out hc1 hc3 hs5 _ HR2.out (v := .tuple #[.string ⟨#[]⟩, .int .i64 3]) rfl).mono ?_); rintro e w6 ⟨rfl, hb6⟩; have H6 := Lib.hid (H5.out.keep hb6); clear hb6))
          exact ⟨rfl, TextPost.of (g := .err 3) ⟨.err 3, rfl, rfl, H6.out.below⟩ HR.out⟩
        · go_enter Tryd.func113, Tryd.ntmps113
          go_wp2_with (first
            | (go_at_call 104; (with_reducible refine (number_any Hs.out Hw.out 7 (by omega) (by omega) 7 rfl _ HR1.out).mono ?_); rintro e w4 ⟨rfl, h4⟩; have H4 := Lib.hid h4; clear h4)
            | (go_at_call 117; (with_reducible refine (next_rd Hs.out H4.out size _ rfl hle).mono ?_); rintro e w5 ⟨A', c', rfl, hc1, hc2, hr5, h5⟩; rw [Hys.out] at hr5; have d0 := h5.at_.cell 0; simp only [List.getElem?_cons_zero] at d0; have hcx := (h5.below.cell (p := ⟨b, o, none⟩) hbl).trans Hcu.out; have hc3 : c' ≤ 9223372036854775807 := (by have := Hs.out.hcap; omega); have H5 := Lib.hid h5; have HC5 := Lib.hid (HC.out.below h5.below); have Hr5 := Lib.hid hr5; clear h5 hr5)
            | (go_at_call 118; (with_reducible refine (Decode_v Hr5.out HC5.out hc1 hc3 hs5 _ HR2.out (v := .tuple #[.string ⟨#[]⟩, .int .i64 4]) rfl).mono ?_); rintro e w6 ⟨rfl, hb6⟩; have H6 := Lib.hid (H5.out.keep hb6); clear hb6))
          exact ⟨rfl, TextPost.of (g := .err 4) ⟨.err 4, rfl, rfl, H6.out.below⟩ HR.out⟩
  · exact absurd HR1.out (getN_arg 7 xs)
  · have HR : Hid (.err 2 = R0) := by rw [getT_more hR1] at hR; exact hR
    clear hR hR1 hsz
    go_enter Tryd.func113, Tryd.ntmps113
    go_wp2_with (first
      | (go_at_call 104; (with_reducible refine (number_any Hs.out Hw.out 7 (by omega) (by omega) 7 rfl _ HR1.out).mono ?_); rintro e w4 ⟨rfl, h4⟩; have H4 := Lib.hid h4; clear h4))
    exact ⟨rfl, TextPost.of (g := .err 2) ⟨.short, rfl, rfl, H4.out⟩ HR.out⟩
  · have HR : Hid (.err 3 = R0) := by rw [getT_form hR1] at hR; exact hR
    clear hR hR1 hsz
    go_enter Tryd.func113, Tryd.ntmps113
    go_wp2_with (first
      | (go_at_call 104; (with_reducible refine (number_any Hs.out Hw.out 7 (by omega) (by omega) 7 rfl _ HR1.out).mono ?_); rintro e w4 ⟨rfl, h4⟩; have H4 := Lib.hid h4; clear h4))
    exact ⟨rfl, TextPost.of (g := .err 3) ⟨.sense, rfl, rfl, H4.out⟩ HR.out⟩

/-- what GetText answers -/
def textV : T → Value
  | .ok t n => .tuple #[.string (str t), .int .i64 (n : Int), .int .i64 0]
  | .err c => .tuple #[.string ⟨#[]⟩, .int .i64 0, .int .i64 (c : Int)]
set_option maxRecDepth 100000 in
set_option maxHeartbeats 2000000 in
theorem GetText_any {w : World} {A : Option Addr} {len cap : Nat} {xs : List UInt8} (hr : Rd w 1 A len (xs.map BV)) (hlc : len ≤ cap) (hcap : cap ≤ 9223372036854775807) (hC : Cnt w) (hsz : ∀ size n, getN 7 xs = .ok size n → n + size ≤ len → size ≤ 536870912) (R0 : T) (hR : getT 9223372036854775807 xs = R0) :
    Calls Tryd.prog 105 #[.slice A len cap] w fun e w' => e = .returned (textV R0) ∧ Below w.heap.size w w' := by
  have hmf : ∀ (fn : Fn) (first cap : Array Value) (w : World), (Instr.makeFunc fn first cap).run Tryd.prog w = .ok (.func fn first cap) w := fun _ _ _ _ => rfl
  have Hs : Hid (RS (w.alloc (.cells #[.int .i64 0] 50)) A len cap xs) := ⟨rd_alloc hr _, hlc, hcap⟩
  have HC : Hid (Cnt (w.alloc (.cells #[.int .i64 0] 50))) := hC.fr ((Fr.refl (fun _ => False) _).alloc _) (fun h => h)
  have Hsz := Lib.hid hsz
  have HR := Lib.hid hR
  clear hr hC hsz hR
  rcases R0 with ⟨t, n⟩ | c
  · go_enter_defers Tryd.func105, Tryd.ntmps105
    go_wp2_with (first
      | (go_at_call 113; (with_reducible refine (text_any Hs.out (rw_new w _ A len cap) HC.out Hsz.out _ HR.out).mono ?_); rintro e w5 ⟨rfl, h5⟩; obtain ⟨hc5, hz5⟩ := err_cell h5.below; have d1 := h5.at_.cell 1; simp only [List.getElem?_cons_zero, List.getElem?_cons_succ] at d1; have H5 := Lib.hid h5; clear h5))
    go_still_tail 5, (by kernel_rfl)
    change wpList _ _ _ _ _ w5.drew
    go_wp2
    refine leaves_cons (f := 112) (args := #[.pointer (some ⟨w.heap.size, 0, none⟩)]) (by simp) (by simp [go_sem]) ?_
    refine (catchT_idle ⟨w.heap.size, 0, none⟩ 0 (w5.setCell ⟨w.heap.size, 0, none⟩ (.int .i64 0)).drew (World.cell?_setCell_same w5 ⟨w.heap.size, 0, none⟩ (.int .i64 0) hc5) (by simp [hz5])).mono ?_
    rintro e u' w'' ⟨rfl, rfl, hc6, hf⟩
    have hf2 : Fr (fun i => i = (⟨w.heap.size, 0, none⟩ : Addr).block) w5 w'' := (((Fr.refl (fun i => i = (⟨w.heap.size, 0, none⟩ : Addr).block) w5).setCell (p := ⟨w.heap.size, 0, none⟩) (.inl rfl) _).drew).trans hf (fun _ _ h => h)
    simp [Leaves, settle, results, Tryd.results105, go_sem, hc6]
    exact ⟨rfl, end_err H5.out.below hf2⟩
  · go_enter_defers Tryd.func105, Tryd.ntmps105
    go_wp2_with (first
      | (go_at_call 113; (with_reducible refine (text_any Hs.out (rw_new w _ A len cap) HC.out Hsz.out _ HR.out).mono ?_); rintro e w5 ⟨u, hu, rfl, h5⟩; obtain ⟨hc5, hz5⟩ := err_cell h5; have Hu := Lib.hid hu; have H5 := Lib.hid h5; clear h5 hu))
    refine leaves_cons (f := 112) (args := #[.pointer (some ⟨w.heap.size, 0, none⟩)]) (by simp) (by simp [go_sem]) ?_
    refine (catchT_up ⟨w.heap.size, 0, none⟩ u 0 _ hc5 hz5).mono ?_
    rintro e u' w'' ⟨rfl, rfl, hc6, hf⟩
    rw [Hu.out] at hc6
    simp [Leaves, settle, results, Tryd.results105, go_sem, hc6]
    exact ⟨rfl, end_err H5.out hf⟩
set_option maxRecDepth 100000 in
set_option maxHeartbeats 2000000 in
theorem PutText_any (s : ByteArray) (ys : List UInt8) (hp : Pk (enc s.data.toList) ys) (hs : s.size ≤ 16777216) (L : List UInt8) (hL : putT s.data.toList ys = L) (N : Nat) (hN : L.length = N) (w : World) (hC : Cnt w) :
    Calls Tryd.prog 68 #[.string s] w fun e w' => ∃ A c, e = .returned (.slice A N c) ∧ w'.ownsRow w.heap.size 5 1 (.slice A N c) N (L.map BV) ∧ Below w.heap.size w w' := by
  have hsl : s.data.toList.length = s.size := by simp
  obtain ⟨K, hK⟩ : ∃ K, ys.length = K := ⟨_, rfl⟩
  have hK2 : ((enc s.data.toList).length + 7) / 8 = K := by rw [← hp.len, hK]
  have hst : str s.data.toList = s := str_self s
  have hs3 : s.size ≤ 140737488355328 := by omega
  unfold putT at hL
  rw [hK, hsl] at hL
  have HC := Lib.hid hC
  have HK := Lib.hid hK2
  have Hp := Lib.hid hp
  have Hsl := Lib.hid hsl
  have Hst := Lib.hid hst
  have Hyl := Lib.hid hK
  clear hC hK2 hp hsl hst
  by_cases hc : K < s.size
  · rw [if_pos hc] at hL
    have kb : decide (K < s.size) = true := decide_eq_true hc
    obtain ⟨P0, hP0⟩ : ∃ P0, putB (2 ^ 7 - 1) (topOf 128 7) K = P0 := ⟨_, rfl⟩
    rw [hP0] at hL
    have hKl : K ≤ 2147483647 := by omega
    have hpl : P0.length ≤ 6 := by rw [← hP0]; exact putB_le _ _ _ hKl
    obtain ⟨n0, hn0⟩ : ∃ n0, P0.length = n0 := ⟨_, rfl⟩
    have hNn : n0 + K = N := by rw [← hN, ← hL, List.length_append, hn0, hK]
    rw [hn0] at hpl
    have HP0 := Lib.hid hP0
    have Hn0 := Lib.hid hn0
    have HL := Lib.hid hL
    have HN := Lib.hid hNn
    clear hL hN hP0 hn0 hNn hK
    go_enter Tryd.func68, Tryd.ntmps68
    go_wp2_with (first
      | (go_at_call 82; (with_reducible refine (Size_n s K HK.out _ HC.out hs3).mono ?_); rintro e w1 ⟨rfl, hb1⟩; have H1 := Lib.hid hb1; clear hb1)
      | (go_at_call 83; (with_reducible refine (numOct_n 128 7 K (by omega) (by omega) (by omega) hKl P0 HP0.out n0 Hn0.out 128 rfl 7 rfl _).mono ?_); rintro e w2 ⟨A2, c2, rfl, ho2, hb2⟩; have H2 := Lib.hid (H1.out.trans (hb2.mono H1.out.size)); have Ho2 := Lib.hid (own_base2 ho2 H1.out.size); clear ho2 hb2)
      | (go_at_call 84; (with_reducible refine (Encode_is s ys K Hyl.out Hp.out _ (HC.out.below H2.out) hs).mono ?_); rintro e w3 ⟨A3, c3, rfl, ho3, hb3⟩; have H3 := Lib.hid (H2.out.trans (hb3.mono H2.out.size)); have Ho3 := Lib.hid (own_fr (S := fun i => w2.heap.size ≤ i) Ho2.out (Fr.of_below hb3 (fun i _ h => h)) (fun g hg h => by have := own_lt Ho2.out hg; omega)); have Hr3 := Lib.hid (Rd.of_own ho3); clear ho3 hb3)
      | (at_builtin
         refine wpList_append_rd rfl (.tmp 11) (.tmp 13) 29 rfl E31 (.slice A2 n0 c2) n0 (P0.map BV) rfl Ho3.out A3 K c3 (ys.map BV) rfl Hr3.out (BV_one _) (by omega) (by unfold maxLen; omega) H3.out.size ?_
         intro A4 c4 w4 ho4 hf4 ho2
         rw [HN.out, ← List.map_append, HL.out] at ho4
         have Ho4 := Lib.hid ho4
         have Hf4 := Lib.hid hf4
         clear ho4 hf4 ho2))
    go_ret
    exact ⟨A4, c4, by rw [← HN.out]; rfl, Ho4.out, H3.out.trans (Hf4.out.below H3.out.size (fun i _ e => (Ho3.out.lt i e.symm).1))⟩
  · rw [if_neg hc] at hL
    have kb : decide (K < s.size) = false := decide_eq_false hc
    obtain ⟨P0, hP0⟩ : ∃ P0, putB (2 ^ 7 - 1) (topOf 0 7) s.size = P0 := ⟨_, rfl⟩
    rw [hP0] at hL
    have hKl : s.size ≤ 2147483647 := by omega
    have hpl : P0.length ≤ 6 := by rw [← hP0]; exact putB_le _ _ _ hKl
    obtain ⟨n0, hn0⟩ : ∃ n0, P0.length = n0 := ⟨_, rfl⟩
    have hNn : n0 + s.size = N := by rw [← hN, ← hL, List.length_append, hn0, Hsl.out]
    rw [hn0] at hpl
    have HP0 := Lib.hid hP0
    have Hn0 := Lib.hid hn0
    have HL := Lib.hid hL
    have HN := Lib.hid hNn
    clear hL hN hP0 hn0 hNn hK hc
    go_enter Tryd.func68, Tryd.ntmps68
    go_wp2_with (first
      | (go_at_call 82; (with_reducible refine (Size_n s K HK.out _ HC.out hs3).mono ?_); rintro e w1 ⟨rfl, hb1⟩; have H1 := Lib.hid hb1; clear hb1)
      | (go_at_call 83; (with_reducible refine (numOct_n 0 7 s.size (by omega) (by omega) (by omega) hKl P0 HP0.out n0 Hn0.out 0 rfl 7 rfl _).mono ?_); rintro e w2 ⟨A2, c2, rfl, ho2, hb2⟩; have H2 := Lib.hid (H1.out.trans (hb2.mono H1.out.size)); have Ho2 := Lib.hid (own_base2 ho2 H1.out.size); clear ho2 hb2)
      | (at_builtin
         refine wpList_append_str rfl (.tmp 17) (.tmp 18) rfl (.slice A2 n0 c2) n0 P0 rfl Ho2.out s.data.toList s.size (by rw [Hst.out]; rfl) Hsl.out (by omega) H2.out.size ?_
         intro A4 c4 w4 ho4 hf4
         rw [HN.out, HL.out] at ho4
         have Ho4 := Lib.hid ho4
         have Hf4 := Lib.hid hf4
         clear ho4 hf4))
    go_ret
    exact ⟨A4, c4, by rw [← HN.out]; rfl, Ho4.out, H2.out.trans (Hf4.out.below H2.out.size (fun i _ e => (Ho2.out.lt i e.symm).1))⟩
end Go.Proofs.YtinieljgcenemaaDoor
namespace Go.Proofs.YtinieljgcenemaaDoor
open Go.RowKit Go.Own Go.Tbl
set_option linter.unusedVariables false

/-- a field's value, its cells -/
def fv (f : Fld) : Value := .agg #[.string f.n, .string f.v, .bool f.nv]
def fcells (f : Fld) : List Value := [.string f.n, .string f.v, .bool f.nv]
def fcellsL : List Fld → List Value
  | [] => []
  | f :: r => fcells f ++ fcellsL r
theorem fcellsL_length (l : List Fld) : (fcellsL l).length = l.length * 3 := by
  induction l with
  | nil => rfl
  | cons f r ih => rw [fcellsL, List.length_append, ih]; simp [fcells]; omega
theorem fcellsL_append (a b : List Fld) : fcellsL (a ++ b) = fcellsL a ++ fcellsL b := by
  induction a with
  | nil => rfl
  | cons f r ih => rw [List.cons_append, fcellsL, fcellsL, ih, List.append_assoc]
theorem fcellsL_take (l : List Fld) : ∀ k, (fcellsL l).take (k * 3) = fcellsL (l.take k) := by
  induction l with
  | nil => intro k; simp [fcellsL]
  | cons f r ih =>
    intro k
    cases k with
    | zero => simp [fcellsL]
    | succ k =>
      rw [List.take_succ_cons, fcellsL, fcellsL, ← ih k, show (k + 1) * 3 = (fcells f).length + k * 3 by simp [fcells]; omega, List.take_append, List.take_of_length_le (by omega)]
      congr 2
      omega
theorem fcellsL_at {l : List Fld} {k : Nat} {f : Fld} (h : l[k]? = some f) :
    (fcellsL l)[k * 3]? = some (.string f.n) ∧ (fcellsL l)[k * 3 + 1]? = some (.string f.v) ∧ (fcellsL l)[k * 3 + 2]? = some (.bool f.nv) := by
  induction l generalizing k with
  | nil => simp at h
  | cons g r ih =>
    cases k with
    | zero =>
      rw [List.getElem?_cons_zero] at h
      obtain rfl := Option.some.inj h
      simp [fcellsL, fcells]
    | succ k =>
      rw [List.getElem?_cons_succ] at h
      obtain ⟨h1, h2, h3⟩ := ih h
      have e : ∀ j, (fcellsL (g :: r))[(k + 1) * 3 + j]? = (fcellsL r)[k * 3 + j]? := by
        intro j
        rw [fcellsL, List.getElem?_append_right (by simp [fcells]; omega)]
        congr 1
        simp [fcells]
        omega
      exact ⟨(e 0).trans h1, (e 1).trans h2, (e 2).trans h3⟩
theorem fcells_one (l : List Fld) : ∀ v ∈ fcellsL l, v.oneCell' = true := by
  induction l with
  | nil => simp [fcellsL]
  | cons f r ih =>
    intro v hv
    rw [fcellsL] at hv
    rcases List.mem_append.1 hv with hv | hv
    · simp [fcells] at hv
      rcases hv with rfl | rfl | rfl <;> rfl
    · exact ih v hv
set_option maxRecDepth 100000 in
theorem EF : Elt Tryd.prog 28 38 (.agg #[.string ⟨#[]⟩, .string ⟨#[]⟩, .bool false]) 3 40 := ⟨Tryd.underlying28, by
  refine ⟨_, rfl, ?_, ?_, ?_⟩ <;> kernel_rfl, rfl, by omega⟩
/-- the cells of field k of a slice -/
theorem rd_fld {w : World} {A : Option Addr} {n k : Nat} {l : List Fld} {f : Fld} (h : Rd w 3 A n (fcellsL l)) (hk : l[k]? = some f) :
    ∃ b o, A = some ⟨b, o, none⟩ ∧ w.cell? ⟨b, o + k * 3, none⟩ = some (.string f.n) ∧ w.cell? ⟨b, o + k * 3 + 1, none⟩ = some (.string f.v) ∧ w.cell? ⟨b, o + k * 3 + 2, none⟩ = some (.bool f.nv) := by
  have hl : l.length = n := by have := h.1; rw [fcellsL_length] at this; omega
  have hkl : k < l.length := (List.getElem?_eq_some_iff.1 hk).1
  obtain ⟨b, o, rfl, hc⟩ := h.2 (by omega)
  obtain ⟨h1, h2, h3⟩ := fcellsL_at hk
  exact ⟨b, o, rfl, hc _ _ h1, by rw [Nat.add_assoc]; exact hc _ _ h2, by rw [Nat.add_assoc]; exact hc _ _ h3⟩

theorem own_up {w : World} {b B : Nat} {e : TypeId} {size : Nat} {v : Value} {n : Nat} {xs : List Value} (h : w.ownsRow b e size v n xs) (hB : ∀ g, v.ownBlock = some g → B ≤ g) : w.ownsRow B e size v n xs := by
  refine ⟨h.1, ?_⟩
  rcases h.2 with hn | ⟨g, cap, cur, rfl, _, rest⟩
  · exact .inl hn
  · exact .inr ⟨g, cap, cur, rfl, hB g rfl, rest⟩
/-- texts of a field that real machines hold -/
def fok (f : Fld) : Prop := f.n.size ≤ 140737488355328 ∧ f.v.size ≤ 140737488355328
set_option maxRecDepth 100000 in
theorem rFSize_any (f : Fld) (hf : fok f) (w : World) : Calls Tryd.prog 33 #[fv f] w fun e w' => e = .returned (.int .i64 ((sz f : Nat) : Int)) ∧ Below w.heap.size w w' := by
  obtain ⟨h1, h2⟩ := hf
  unfold fv
  obtain ⟨a, ha⟩ : ∃ a, f.n.size = a := ⟨_, rfl⟩
  obtain ⟨b, hb⟩ : ∃ b, f.v.size = b := ⟨_, rfl⟩
  have hs : sz f = a + b + 32 := by unfold sz; rw [ha, hb]
  rw [hs]
  rw [ha] at h1
  rw [hb] at h2
  go_enter Tryd.func33, Tryd.ntmps33
  go_wp2
  go_ret
  exact ⟨by simp, (Below.refl _ _).alloc (Nat.le_refl _) _⟩
theorem rFSize_n (f : Fld) (hf : fok f) (N : Nat) (hN : sz f = N) (w : World) : Calls Tryd.prog 33 #[.agg #[.string f.n, .string f.v, .bool f.nv]] w fun e w' => e = .returned (.int .i64 (N : Int)) ∧ Below w.heap.size w w' := by
  subst hN
  exact rFSize_any f hf w

/-- the document's table: its block, its slice, its Max, its entries -/
structure RT (w : World) (p : Nat) (A : Option Addr) (n c h : Nat) (l : List Fld) : Prop where
  at_ : Blk w p 80 [.slice A n c, .int .i64 (h : Int)]
  rd : Rd w 3 A n (fcellsL l)
  nc : n ≤ c
  cm : c ≤ 9223372036854775807
  ok : ∀ f ∈ l, fok f
theorem RT.len {w : World} {p : Nat} {A : Option Addr} {n c h : Nat} {l : List Fld} (t : RT w p A n c h l) : l.length = n := by
  have := t.rd.1
  rw [fcellsL_length] at this
  omega
theorem RT.below {w w' : World} {p : Nat} {A : Option Addr} {n c h : Nat} {l : List Fld} (t : RT w p A n c h l) (hb : Below w.heap.size w w') : RT w' p A n c h l :=
  ⟨t.at_.below hb (Blk.lt t.at_), t.rd.below hb, t.nc, t.cm, t.ok⟩
theorem RT.drewN {w : World} {p : Nat} {A : Option Addr} {n c h : Nat} {l : List Fld} (t : RT w p A n c h l) (q : Nat) : RT (w.drewN q) p A n c h l :=
  ⟨t.at_.drewN q, t.rd.fr ((Fr.refl (fun _ => False) w).drewN q) (fun _ _ h => h), t.nc, t.cm, t.ok⟩
theorem szs_mem {l : List Fld} : ∀ f ∈ l, sz f ≤ szs l := by
  induction l with
  | nil => simp
  | cons g r ih =>
    intro f hf
    rw [szs]
    rcases List.mem_cons.1 hf with rfl | hf
    · omega
    · have := ih f hf; omega
set_option maxRecDepth 100000 in
set_option maxHeartbeats 2000000 in
theorem rTSize_any {w : World} {p : Nat} {A : Option Addr} {n c h : Nat} {l : List Fld} (t : RT w p A n c h l) (S : Nat) (hS : szs l = S) (hb : S ≤ 4611686018427387904) :
    Calls Tryd.prog 44 #[.pointer (some ⟨p, 0, none⟩)] w fun e w' => e = .returned (.int .i64 (S : Int)) ∧ Below w.heap.size w w' := by
  have Ht := Lib.hid t
  have HS := Lib.hid hS
  have hp := Blk.lt t.at_
  have hl := t.len
  have Hl := Lib.hid hl
  have hncm := Nat.le_trans t.nc t.cm
  clear t hS
  go_enter Tryd.func44, Tryd.ntmps44
  go_wp2
  go_loopg [4, 3] n (fun gh i s w' => ∃ k, gh + k = n ∧ i = .int .i64 (k : Int) ∧ s = .int .i64 ((szs (l.take k) : Nat) : Int) ∧ Below w.heap.size w w')
  case atStart => exact ⟨0, by omega, rfl, rfl, Below.refl _ _⟩
  case round =>
    obtain ⟨k, hk, rfl, rfl, hbw⟩ := hrel
    have Ht2 := Lib.hid (Ht.out.below hbw)
    have Hb := Lib.hid hbw
    have c0 := Ht2.out.at_.cell 0
    have c1 := Ht2.out.at_.cell 1
    simp only [List.getElem?_cons_zero, List.getElem?_cons_succ] at c0 c1
    have hmono := szs_take_mono l k n (by omega)
    rw [show l.take n = l from List.take_of_length_le (by omega), HS.out] at hmono
    obtain ⟨q, hq⟩ : ∃ q, szs (l.take k) = q := ⟨_, rfl⟩
    rw [hq] at hmono ⊢
    have Hq := Lib.hid hq
    clear hq hbw
    cases gk with
    | zero =>
      obtain rfl : k = n := by omega
      have e1 : (q : Int) = (S : Int) := by
        have h1 := Hq.out
        rw [List.take_of_length_le (by omega), HS.out] at h1
        omega
      go_wp2
      go_ret
      exact ⟨by rw [← e1]; rfl, Hb.out⟩
    | succ g1 =>
      have hlt : k < n := by omega
      obtain ⟨f, hf⟩ : ∃ f, l[k]? = some f := ⟨_, List.getElem?_eq_getElem (by omega)⟩
      have hfo := Ht2.out.ok f (List.mem_of_getElem? hf)
      obtain ⟨b, o, rfl, d0, d1, d2⟩ := rd_fld Ht2.out.rd hf
      obtain ⟨N, hN⟩ : ∃ N, sz f = N := ⟨_, rfl⟩
      have hs1 := szs_take_succ l k f hf
      rw [Hq.out, hN] at hs1
      have hm2 := szs_take_mono l (k + 1) n (by omega)
      rw [show l.take n = l from List.take_of_length_le (by omega), HS.out, hs1] at hm2
      have Hs1 := Lib.hid hs1
      have HN := Lib.hid hN
      have Hfo := Lib.hid hfo
      have k1 : (k : Int) < (n : Int) := by omega
      clear hf hfo hs1 hN
      go_wp2_with (first
        | (go_at_call 33; (with_reducible refine (rFSize_n f Hfo.out N HN.out _).mono ?_); rintro e w2 ⟨rfl, hb2⟩; have H2 := Lib.hid (Hb.out.trans (hb2.mono Hb.out.size)); clear hb2))
      go_roundg g1
      case measure => omega
      case rel => exact ⟨k + 1, by omega, by go_num, by rw [Hs1.out]; go_num, H2.out⟩
end Go.Proofs.YtinieljgcenemaaDoor
