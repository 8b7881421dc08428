/- The contracts of the document's answer: Spelt, Size, Encode. -/
import Derived.Test.YtdmheinepkeglaaDoorRefS
import Derived.Lib.AppendStr
namespace Go.Proofs.YtdmheinepkeglaaDoor
open Go.RowKit Go.Own Go.Huf
set_option linter.unusedVariables false

theorem strCells_str (t : List UInt8) : Lib.strCells (str t) = t.map BV := by rw [Lib.strCells, str_data]; rfl
/-- append of a text's bytes -/
theorem wpList_append_str {w : World} {ops : Array Oper} {rest : List Oper} {o : Oper} {a : Act} {Q : Exit → Act → World → Prop} (hgd : o.guard = none) (sl x : Operand)
    (ho : o.op = .call { callee := .builtin .append, args := #[sl, x], argTypes := #[23, 9] }) {base : Nat}
    (v : Value) (n : Nat) (xs : List UInt8) (hs : a.eval sl = v) (hown : w.ownsRow base 5 1 v n (xs.map BV)) (t : List UInt8) (k : Nat) (hx : a.eval x = .string (str t)) (hk : t.length = k)
    (hb : n + k ≤ 140737488355328) (hbase : base ≤ w.heap.size)
    (h : ∀ A' c' w', w'.ownsRow base 5 1 (.slice A' (n + k) c') (n + k) ((xs ++ t).map BV) → Fr (fun i => some i = v.ownBlock) w w' → wpList Tryd.prog ops Q rest (a.put o.dst (.slice A' (n + k) c')) w') : wpList Tryd.prog ops Q (o :: rest) a w := by
  obtain ⟨ht, ⟨i, hi, hz0, hsize, hby⟩, hzs, hsz⟩ := E31
  have hsk : (str t).size = k := by rw [str_size, hk]
  refine Lib.wpList_append_own_string (P := Tryd.prog) w hgd sl x 23 9 ho base 5 i ht Tryd.underlying9 hi hz0 hsize hby v n (xs.map BV) hs hown (str t) hx (by rw [hsk]; unfold maxLen; omega) (by rw [hsk]; exact hb) hbase ?_
  intro v' w' ho2 hg _
  rw [hsk, strCells_str, ← List.map_append] at ho2
  obtain ⟨A', c', rfl, _⟩ := own_shape ho2
  exact h A' c' w' ho2 (Fr.of_grown hg (fun i _ e => e))

theorem str_inj {a b : List UInt8} (h : str a = str b) : a = b := by
  have := congrArg (fun s : ByteArray => s.data.toList) h
  simpa [str_data] using this
theorem chs_append (a b : List Bool) : chs (a ++ b) = chs a ++ chs b := by simp [chs]
theorem conv_str {W : World} {A : Option Addr} {n c : Nat} {xs : List UInt8} (h : Rd W 1 A n (xs.map BV)) : (convert 23 9 (.slice A n c)).run Tryd.prog W = .ok (.string (str xs)) W := conv_rd h
theorem own_empty_b (w : World) : (w.alloc (.cells #[] 5)).ownsRow w.heap.size 5 1 (.slice (some ⟨w.heap.size, 0, none⟩) 0 0) 0 [] := by
  have h2 := own_of_blk (size := 1) (n := 0) (cap := 0) (Blk.new w 5 []) (by simp) (by omega) (by unfold maxLen; omega)
  have h3 := own_base (B := w.heap.size) h2 (fun g hg => by simp [Value.ownBlock] at hg; omega)
  simpa using h3

set_option maxRecDepth 100000 in
set_option maxHeartbeats 4000000 in
theorem rSpelt_any (s : ByteArray) (w : World) (hs : s.size ≤ 1048576) : Calls Tryd.prog 43 #[.string s] w fun e w' => e = .returned (.string (bstr (enc s.data.toList))) ∧ Below w.heap.size w w' := by
  go_enter Tryd.func43, Tryd.ntmps43
  go_wp2_with (first
    | (go_at_call 39; (with_reducible refine (rCodes_any _).mono ?_); rintro e w1 ⟨g, c, rfl, hc257, hC, hge, hb1⟩; have HC := Lib.hid hC; have Hb1 := Lib.hid hb1; clear hC hb1))
  go_loopg [4, 5] s.size (fun gh o i w' => ∃ (k : Nat) (A : Option Addr) (n c' : Nat), gh + k = s.size ∧ o = .slice A n c' ∧ i = .int .i64 k ∧ n = (enc (s.data.toList.take k)).length ∧ w'.ownsRow w1.heap.size 5 1 (.slice A n c') n ((chs (enc (s.data.toList.take k))).map BV) ∧ CodesAt w' g ∧ Below w.heap.size w w' ∧ w1.heap.size ≤ w'.heap.size)
  case atStart => exact ⟨0, _, 0, 0, by omega, rfl, rfl, rfl, own_empty_b w1, HC.out.fr (S := fun _ => False) ((Fr.refl _ _).alloc _) (fun h => h), Hb1.out.alloc Hb1.out.size _, by simp⟩
  case round =>
    obtain ⟨k, A, n, c', hk, rfl, rfl, hn, ho, hC, hb, hsz⟩ := hrel
    have HC2 := Lib.hid hC
    have Hb := Lib.hid hb
    have Ho := Lib.hid ho
    have hle := enc_le (s.data.toList.take k)
    have hkl : (s.data.toList.take k).length ≤ k := List.length_take_le _ _
    have hnb : n ≤ 30 * 1048576 := by omega
    have Hn := Lib.hid hn
    clear hC hb ho hn hle hkl
    cases gk with
    | succ g1 =>
      have hlt : k < s.size := by omega
      obtain ⟨x, hx⟩ : ∃ x : UInt8, s[k] = x := ⟨_, rfl⟩
      have hxl := x.toNat_lt
      have he := enc_take s k hlt
      rw [hx] at he
      have He := Lib.hid he
      have hcell := HC2.out x.toNat (by omega)
      have hx1 : (0 : Int) ≤ (x.toNat : Int) := by omega
      have hx2 : (x.toNat : Int) < 257 := by omega
      obtain ⟨m, hm⟩ : ∃ m, (cbits x.toNat).length = m := ⟨_, rfl⟩
      have hm30 : m ≤ 30 := by rw [← hm, cbits_length]; exact (code_bd x).2.1
      have hml : (chs (cbits x.toNat)).length = m := by rw [chs_length, hm]
      have Hml := Lib.hid hml
      have Hm := Lib.hid hm
      clear he hm hml
      go_wp2_with (first
        | (at_builtin
           refine wpList_append_str rfl (.tmp 14) (.tmp 20) rfl (.slice A n c') n (chs (enc (s.data.toList.take k))) rfl Ho.out (chs (cbits x.toNat)) m rfl Hml.out (by omega) hsz ?_
           intro A4 c4 w4 ho4 hf4
           have Ho4 := Lib.hid ho4
           have Hf4 := Lib.hid hf4
           clear ho4 hf4))
      go_roundg g1
      case measure => omega
      case rel =>
        have hge1 : ∀ i, some i = (Value.slice A n c').ownBlock → w1.heap.size ≤ i := fun i e => (Ho.out.lt i e.symm).1
        have hgl := HC.out.lt
        have hw1 := Hb1.out.size
        refine ⟨k + 1, A4, n + m, c4, by omega, rfl, by go_num, by rw [He.out, List.length_append, ← Hn.out, Hm.out], ?_, HC2.out.fr Hf4.out (fun e => by have := hge1 _ e; omega), Hb.out.trans (Hf4.out.below Hb.out.size (fun i _ e => by have := hge1 _ e; omega)), Nat.le_trans hsz Hf4.out.size⟩
        rw [He.out, chs_append]
        exact Ho4.out
    | zero =>
      obtain rfl : k = s.size := by omega
      have HL2 : Hid (s.data.toList.take s.size = s.data.toList) := List.take_of_length_le (by simp)
      rw [HL2.out] at Ho Hn
      have hcv := conv_str (c := c') (Rd.of_own Ho.out)
      go_wp2
      go_ret
      exact ⟨rfl, Hb.out⟩
/-- Spelt, its answer named -/
theorem rSpelt_t (s : ByteArray) (T : ByteArray) (hT : bstr (enc s.data.toList) = T) (w : World) (hs : s.size ≤ 1048576) : Calls Tryd.prog 43 #[.string s] w fun e w' => e = .returned (.string T) ∧ Below w.heap.size w w' := by
  subst hT
  exact rSpelt_any s w hs

end Go.Proofs.YtdmheinepkeglaaDoor
