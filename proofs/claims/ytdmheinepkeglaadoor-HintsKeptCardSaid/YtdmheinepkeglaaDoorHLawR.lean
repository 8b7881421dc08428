/- HintsReads' walk: whatever the octets and the prefix, true. -/
import Derived.Test.YtdmheinepkeglaaDoorHLawW
namespace Go.Proofs.YtdmheinepkeglaaDoor
open Go.RowKit Go.Own Go.Huf Go.Hin
set_option linter.unusedVariables false

theorem getV_shape (R0 : G) : ∃ a b c, getV R0 = .tuple #[.int .i64 a, .int .i64 b, .int .i64 c] := by cases R0 <;> exact ⟨_, _, _, rfl⟩
theorem GetInt_v {w : World} {A : Option Addr} {len cap : Nat} {xs : List UInt8} (hr : Rd w 1 A len (xs.map BV)) (hlc : len ≤ cap) (hcap : cap ≤ 9223372036854775807) (m : Int) (R0 : G) (hR : getI xs m = R0) (v : Value) (hv : getV R0 = v) :
    Calls Tryd.prog 12 #[.slice A len cap, .int .i64 m] w fun e w' => e = .returned v ∧ Below w.heap.size w w' := by
  subst hv
  exact GetInt_any hr hlc hcap m R0 hR
theorem rGetInt_v (xs : List UInt8) (n0 : Nat) (hn0 : xs.length = n0) (hn : n0 ≤ 4611686018427387904) (m : Int) (R0 : G) (hR : getI xs m = R0) (v : Value) (hv : getV R0 = v) (w : World) :
    Calls Tryd.prog 13 #[.string (str xs), .int .i64 m] w fun e w' => e = .returned v ∧ w = w' := by
  subst hv
  exact rGetInt_any xs n0 hn0 hn m R0 hR w
/-- what an append to an empty literal leaves: the capacity is not past the greatest -/
theorem own_cap {w : World} {base : Nat} {e : TypeId} {A : Option Addr} {n c : Nat} {xs : List Value} (h : w.ownsRow base e 1 (.slice A n c) n xs) : n ≤ c ∧ c ≤ 9223372036854775807 := by
  obtain ⟨A', c', he, h1, h2, _⟩ := own_shape h
  simp only [Value.slice.injEq] at he
  obtain ⟨_, _, rfl⟩ := he
  exact ⟨h1, h2⟩
set_option maxRecDepth 100000 in
set_option maxHeartbeats 4000000 in
theorem hreads_walk {W : World} {A : Option Addr} {len cap : Nat} {xs : List UInt8} (hr : Rd W 1 A len (xs.map BV)) (hlc : len ≤ cap) (hcap : cap ≤ 140737488351232) {m : Int} (wm : (Lit.int .i64 m).wf = true) (hC : Cnt W) :
    Calls Tryd.prog 4 #[.slice A len cap, .int .i64 m] W fun e w' => e = .returned (.bool true) ∧ Below W.heap.size W w' := by
  clear wm
  have hxl : xs.length = len := by simpa using hr.1
  have HC := Lib.hid hC
  have Hr := Lib.hid hr
  have Hxl := Lib.hid hxl
  obtain ⟨R0, hR⟩ : ∃ R0, getI xs m = R0 := ⟨_, rfl⟩
  obtain ⟨a, b, c, hv⟩ := getV_shape R0
  have HR := Lib.hid hR
  have Hv := Lib.hid hv
  clear hC hr hxl hR hv
  go_enter Tryd.func4, Tryd.ntmps4
  go_wp2_with (first
    | (go_at_call 9; (with_reducible refine (shown_any _ HC.out).mono ?_); rintro e w1 ⟨rfl, hb1⟩; have H1 := Lib.hid hb1; clear hb1)
    | (at_builtin
       refine wpList_append_rd rfl (.tmp 14) (.tmp 15) 23 rfl E31 (.slice (some ⟨w1.heap.size, 0, none⟩) 0 0) 0 [] rfl (own_base (own_empty_b w1) (fun _ _ => Nat.zero_le _)) A len cap (xs.map BV) rfl (rd_alloc (Hr.out.below H1.out) _) (BV_one _) (by omega) (by unfold maxLen; omega) (Nat.zero_le _) ?_
       intro A3 c3 w3 ho hf ho2
       simp only [Nat.zero_add, List.nil_append] at ho ho2
       have H3 := Lib.hid (H1.out.trans (below_empty hf H1.out.size))
       have Hr3 := Lib.hid (Rd.of_own ho)
       obtain ⟨h1, h2⟩ := own_cap ho
       clear ho hf ho2)
    | (go_at_call 12; (with_reducible refine (GetInt_v Hr3.out h1 h2 m _ HR.out _ Hv.out).mono ?_); rintro e w4 ⟨rfl, hb4⟩; have H4 := Lib.hid (H3.out.trans (hb4.mono H3.out.size)); have hcB := conv_str (c := c3) (Hr3.out.below hb4); have hcA := conv_str (c := cap) (Hr.out.below H4.out); clear hb4)
    | (go_at_call 13; (with_reducible refine (rGetInt_v xs len Hxl.out (by omega) m _ HR.out _ Hv.out _).mono ?_); rintro e w5 ⟨rfl, rfl⟩))
  go_ret
  exact ⟨rfl, H4.out⟩
end Go.Proofs.YtdmheinepkeglaaDoor
