/- HintsTexts' walk: whatever the text and the octets, true. -/
import Derived.Test.YtdmheinepkeglaaDoorHRef2
import Derived.Deep.RegionHeld
import Derived.Deep.DrawnRows
namespace Go.Proofs.YtdmheinepkeglaaDoor
open Go.RowKit Go.Own Go.Huf Go.Hin
set_option linter.unusedVariables false
attribute [local go_sem ↓] Go.wp_at_zero Go.wp_at_succ

theorem textV_shape (R0 : T) : ∃ S a c, textV R0 = .tuple #[.string S, .int .i64 a, .int .i64 c] := by cases R0 <;> exact ⟨_, _, _, rfl⟩
theorem GetText_v {w : World} {A : Option Addr} {len cap : Nat} {xs : List UInt8} (hr : Rd w 1 A len (xs.map BV)) (hlc : len ≤ cap) (hcap : cap ≤ 9223372036854775807) (hC : Cnt w) (hsz : ∀ size n, getN 7 xs = .ok size n → n + size ≤ len → size ≤ 536870912) (R0 : T) (hR : getT 9223372036854775807 xs = R0) (v : Value) (hv : textV R0 = v) :
    Calls Tryd.prog 14 #[.slice A len cap] w fun e w' => e = .returned v ∧ Below w.heap.size w w' := by
  subst hv
  exact GetText_any hr hlc hcap hC hsz R0 hR
theorem rGetText_v (xs : List UInt8) (n0 : Nat) (hn0 : xs.length = n0) (hn : n0 ≤ 1000) (R0 : T) (hR : getT 2147483647 xs = R0) (v : Value) (hv : textV R0 = v) (w : World) :
    Calls Tryd.prog 15 #[.string (str xs)] w fun e w' => e = .returned v ∧ Below w.heap.size w w' := by
  subst hv
  exact rGetText_any xs n0 hn0 hn R0 hR (str xs) rfl w
theorem PutText_s (s : ByteArray) (ys : List UInt8) (hp : Pk (enc s.data.toList) ys) (hs : s.size ≤ 16777216) (L : List UInt8) (hL : putT s.data.toList ys = L) (N : Nat) (hN : L.length = N) (T : ByteArray) (hT : str L = T) (w : World) (hC : Cnt w) :
    Calls Tryd.prog 16 #[.string s] w fun e w' => ∃ A c, e = .returned (.slice A N c) ∧ Below w.heap.size w w' ∧ Rd w' 1 A N (L.map BV) := by
  refine (PutText_any s ys hp hs L hL N hN w hC).mono ?_
  rintro e w' ⟨A, c, rfl, ho, hb⟩
  exact ⟨A, c, rfl, hb, Rd.of_own ho⟩
theorem conv_T {W : World} {A : Option Addr} {n c : Nat} {xs : List UInt8} {T : ByteArray} (hT : str xs = T) (h : Rd W 1 A n (xs.map BV)) : (convert 23 9 (.slice A n c)).run Tryd.prog W = .ok (.string T) W := hT ▸ conv_str h
set_option maxRecDepth 100000 in
set_option maxHeartbeats 4000000 in
theorem texts_walk {s : ByteArray} {W : World} {A : Option Addr} {len cap : Nat} {xs : List UInt8} (hs : s.size ≤ maxLen) (hr : Rd W 1 A len (xs.map BV)) (hlc : len ≤ cap) (hcap : cap ≤ 140737488351232) (hC : Cnt W) :
    Calls Tryd.prog 5 #[.string s, .slice A len cap] W fun e w' => e = .returned (.bool true) ∧ Below W.heap.size W w' := by
  unfold maxLen at hs
  have hxl : xs.length = len := by simpa using hr.1
  have HC := Lib.hid hC
  have Hr := Lib.hid hr
  have Hxl := Lib.hid hxl
  clear hC hr hxl
  by_cases hbig : 400 < s.size ∨ (s.size ≤ 400 ∧ 200 < len)
  · rcases hbig with h1 | ⟨h1, h2⟩
    all_goals
      go_enter Tryd.func5, Tryd.ntmps5
      go_wp2_with (first
        | (go_at_call 9; (with_reducible refine (shown_any _ HC.out).mono ?_); rintro e w1 ⟨rfl, hb1⟩; have H1 := Lib.hid hb1; clear hb1))
      go_ret
      exact ⟨rfl, H1.out⟩
  · have hs4 : s.size ≤ 400 := by omega
    have hl2 : len ≤ 200 := by omega
    obtain ⟨ys, hys⟩ := pk_exists _ (enc s.data.toList) (Nat.le_refl _)
    obtain ⟨L, hL⟩ : ∃ L, putT s.data.toList ys = L := ⟨_, rfl⟩
    obtain ⟨N, hN⟩ : ∃ N, L.length = N := ⟨_, rfl⟩
    obtain ⟨T, hT⟩ : ∃ T, str L = T := ⟨_, rfl⟩
    obtain ⟨R0, hR⟩ : ∃ R0, getT 9223372036854775807 xs = R0 := ⟨_, rfl⟩
    have hR2 : getT 2147483647 xs = R0 := by rw [← hR]; exact getT_most _ _ _ (by rw [Hxl.out]; omega) (by rw [Hxl.out]; omega)
    obtain ⟨S, a, c, hv⟩ := textV_shape R0
    have hsz : ∀ size n, getN 7 xs = .ok size n → n + size ≤ len → size ≤ 536870912 := fun size n _ h => by omega
    have HR := Lib.hid hR
    have HR2 := Lib.hid hR2
    have Hv := Lib.hid hv
    have Hys := Lib.hid hys
    have HL := Lib.hid hL
    have HN := Lib.hid hN
    have HT := Lib.hid hT
    have Hsz := Lib.hid hsz
    have hs1 : s.size ≤ 16777216 := by omega
    have hs2 : s.size ≤ 1048576 := by omega
    clear hs hbig hys hL hN hT hR hR2 hv hsz
    go_enter Tryd.func5, Tryd.ntmps5
    go_upto_region 7 with (first
      | (go_at_call 9; (with_reducible refine (shown_any _ HC.out).mono ?_); rintro e w1 ⟨rfl, hb1⟩; have H1 := Lib.hid hb1; clear hb1)
      | (at_builtin
         refine wpList_append_rd rfl (.tmp 23) (.tmp 24) 23 rfl E31 (.slice (some ⟨w1.heap.size, 0, none⟩) 0 0) 0 [] rfl (own_base (own_empty_b w1) (fun _ _ => Nat.zero_le _)) A len cap (xs.map BV) rfl (rd_alloc (Hr.out.below H1.out) _) (BV_one _) (by omega) (by unfold maxLen; omega) (Nat.zero_le _) ?_
         intro A3 c3 w3 ho hf ho2
         simp only [Nat.zero_add, List.nil_append] at ho ho2
         have H3 := Lib.hid (H1.out.trans (below_empty hf H1.out.size))
         have Hr3 := Lib.hid (Rd.of_own ho)
         obtain ⟨g1, g2⟩ := own_cap ho
         clear ho hf ho2)
      | (go_at_call 14; (with_reducible refine (GetText_v Hr3.out g1 g2 (HC.out.below H3.out) Hsz.out _ HR.out _ Hv.out).mono ?_); rintro e w4 ⟨rfl, hb4⟩; have H4 := Lib.hid (H3.out.trans (hb4.mono H3.out.size)); have Hr4 := Lib.hid (Hr3.out.below hb4); have hcA := conv_str (c := cap) (Hr.out.below H4.out); clear hb4)
      | (go_at_call 15; (with_reducible refine (rGetText_v xs len Hxl.out (by omega) _ HR2.out _ Hv.out _).mono ?_); rintro e w5 ⟨rfl, hb5⟩; have H5 := Lib.hid (H4.out.trans (hb5.mono H4.out.size)); have Hr5 := Lib.hid (Hr4.out.below hb5); clear hb5 hcA))
    have HI := Lib.hid (below_drew H5.out)
    have HrD : Hid (Rd w5.drew 1 A3 len (xs.map BV)) := Hr5.out.fr ((Fr.refl (fun _ => False) _).drew) (fun _ _ h => h)
    have hA0 := conv_str (c := cap) (Hr.out.below H5.out)
    have hB0 := conv_str (c := c3) Hr5.out
    have hA1 := conv_str (c := cap) (Hr.out.below HI.out)
    have hB1 := conv_str (c := c3) HrD.out
    clear H1 H3 H4 Hr3 Hr4
    go_region_held (fun w' => (convert 23 9 (.slice A3 len c3)).run Tryd.prog w' = .ok (.string (str xs)) w' ∧ (convert 23 9 (.slice A len cap)).run Tryd.prog w' = .ok (.string (str xs)) w')
      (first | exact ⟨hB0, hA0⟩ | exact ⟨hB1, hA1⟩ | exact ⟨hB, hA⟩ | exact ⟨hB2, hA2⟩)
      (first
      | (go_at_call 16; (with_reducible refine (PutText_s s ys Hys.out hs1 L HL.out N HN.out T HT.out _ (HC.out.below HI.out)).mono ?_); rintro e w6 ⟨A6, c6, rfl, hb6, hr6⟩
         have HJ := Lib.hid (HI.out.trans (hb6.mono HI.out.size))
         have HR6 := Lib.hid hr6
         have hcP := conv_T (c := c6) HT.out hr6
         have HrE := Lib.hid (HrD.out.below hb6)
         have hA := conv_str (c := cap) (Hr.out.below HJ.out)
         have hB := conv_str (c := c3) HrE.out
         clear hb6 hr6 HI HrD
         have HI := HJ
         clear HJ)
      | (go_at_call 17; (with_reducible refine (rPutText_any s ys Hys.out hs2 L HL.out T HT.out _).mono ?_); rintro e w7 ⟨rfl, hb7⟩
         have HJ := Lib.hid (HI.out.trans (hb7.mono HI.out.size))
         have hcP2 := conv_T (c := c6) HT.out (HR6.out.below hb7)
         have hA2 := conv_str (c := cap) (Hr.out.below HJ.out)
         have hB2 := conv_str (c := c3) (HrE.out.below hb7)
         clear hb7 HI
         have HI := HJ
         clear HJ))
    all_goals
      simp only [Exit.then]
      refine ‹∀ (a : Act) (w : World), Code.wp Tryd.prog Code.ret _ a w → _› _ _ ?_
      refine ret_true (p := 4) rfl ?_ ?_ ⟨rfl, HI.out⟩
      · kernel_rfl
      · kernel_rfl
end Go.Proofs.YtdmheinepkeglaaDoor
