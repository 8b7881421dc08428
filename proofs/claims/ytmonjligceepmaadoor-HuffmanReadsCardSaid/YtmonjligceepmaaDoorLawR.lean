/- HuffmanReads' walk: whatever the octets and the number, true. -/
import Derived.Test.YtmonjligceepmaaDoorRDec2
namespace Go.Proofs.YtmonjligceepmaaDoor
open Go.RowKit Go.Own Go.Huf
set_option linter.unusedVariables false

theorem Decode_v {w : World} {A : Option Addr} {len cap : Nat} {xs : List UInt8} {R0 : R} {v : Value} (hr : Rd w 1 A len (xs.map BV)) (hC : Cnt w) (hlc : len ≤ cap) (hcap : cap ≤ 9223372036854775807) (hlen : len ≤ 536870912) (most : Int) (hR : dec (bits8 xs) most = R0) (hv : resV R0 = v) :
    Calls Tryd.prog 19 #[.slice A len cap, .int .i64 most] w fun e w' => e = .returned v ∧ Below w.heap.size w w' := by
  subst hR hv
  exact Decode_any hr hC hlc hcap hlen most
theorem rDecode_v (xs : List UInt8) (n0 : Nat) (hn0 : xs.length = n0) (hn : n0 ≤ 1000) (most : Int) {R0 : R} {v : Value} (hR0 : dec (bits8 xs) most = R0) (hv : resV R0 = v) (w : World) :
    Calls Tryd.prog 20 #[.string (str xs), .int .i64 most] w fun e w' => e = .returned v ∧ Below w.heap.size w w' := by
  subst hv
  exact rDecode_any xs n0 hn0 hn most R0 hR0 w
theorem resV_shape (R0 : R) : ∃ S E, resV R0 = .tuple #[.string S, .int .i64 E] := by cases R0 <;> exact ⟨_, _, rfl⟩
theorem rd_alloc {w : World} {size n : Nat} {A : Option Addr} {vs : List Value} (h : Rd w size A n vs) (o : Obj) : Rd (w.alloc o) size A n vs := h.fr (S := fun _ => False) ((Fr.refl _ _).alloc o) (fun _ _ h => h)
theorem below_empty {w2 w3 : World} {B : Nat} {o : Obj} (hf : Fr (fun i => some i = (Value.slice (some ⟨w2.heap.size, 0, none⟩) 0 0).ownBlock) (w2.alloc o) w3) (hB : B ≤ w2.heap.size) : Below B w2 w3 :=
  ((Below.refl _ _).alloc hB o).trans (hf.below (by simp; omega) (fun i _ e => by simp [Value.ownBlock] at e; omega))

set_option maxRecDepth 100000 in
set_option maxHeartbeats 4000000 in
theorem reads_walk {W : World} {A : Option Addr} {len cap : Nat} {xs : List UInt8} (hr : Rd W 1 A len (xs.map BV)) (hlc : len ≤ cap) (hcap : cap ≤ 140737488351232) {most : Int} (wm : (Lit.int .i64 most).wf = true) (hC : Cnt W) :
    Calls Tryd.prog 5 #[.slice A len cap, .int .i64 most] W fun e w' => e = .returned (.bool true) ∧ Below W.heap.size W w' := by
  clear wm
  have hxl : xs.length = len := by simpa using hr.1
  have HC := Lib.hid hC
  have Hr := Lib.hid hr
  have Hxl := Lib.hid hxl
  clear hC hr hxl
  by_cases hbig : 200 < len
  · go_enter Tryd.func5, Tryd.ntmps5
    go_wp2_with (first
      | (go_at_call 11; (with_reducible refine (shown_any _ HC.out).mono ?_); rintro e w1 ⟨rfl, hb1⟩; have H1 := Lib.hid hb1; clear hb1))
    go_ret
    exact ⟨rfl, H1.out⟩
  · obtain ⟨R0, hR⟩ : ∃ R0, dec (bits8 xs) most = R0 := ⟨_, rfl⟩
    obtain ⟨S, E, hv⟩ := resV_shape R0
    have HR := Lib.hid hR
    have Hv := Lib.hid hv
    clear hR hv
    go_enter Tryd.func5, Tryd.ntmps5
    go_wp2_with (first
      | (go_at_call 11; (with_reducible refine (shown_any _ HC.out).mono ?_); rintro e w1 ⟨rfl, hb1⟩; have H1 := Lib.hid hb1; clear hb1)
      | (at_builtin
         refine wpList_append_rd rfl (.tmp 16) (.tmp 17) 31 rfl E31 (.slice (some ⟨w1.heap.size, 0, none⟩) 0 0) 0 [] rfl (own_base (own_empty_b w1) (fun _ _ => Nat.zero_le _)) A len cap (xs.map BV) rfl (rd_alloc (Hr.out.below H1.out) _) (BV_one _) (by omega) (by unfold maxLen; omega) (Nat.zero_le _) ?_
         intro A3 c3 w3 ho hf ho2
         simp only [Nat.zero_add, List.nil_append] at ho ho2
         have H3 := Lib.hid (H1.out.trans (below_empty hf H1.out.size))
         have Hr3 := Lib.hid (Rd.of_own ho)
         obtain ⟨A', c', he, h1, h2, hz1, hz2⟩ := own_shape ho
         simp only [Value.slice.injEq] at he
         obtain ⟨rfl, _, rfl⟩ := he
         have h2 : c3 ≤ 9223372036854775807 := by unfold maxLen at h2; omega
         clear ho hf ho2 hz1 hz2)
      | (go_at_call 19; (with_reducible refine (Decode_v Hr3.out (HC.out.below H3.out) h1 h2 (by omega) most HR.out Hv.out).mono ?_); rintro e w4 ⟨rfl, hb4⟩; have H4 := Lib.hid (H3.out.trans (hb4.mono H3.out.size)); have Hr4 := Lib.hid (Hr3.out.below hb4); have hcA := conv_str (c := cap) (Hr.out.below H4.out); clear hb4)
      | (go_at_call 20; (with_reducible refine (rDecode_v xs len Hxl.out (by omega) most HR.out Hv.out _).mono ?_); rintro e w5 ⟨rfl, hb5⟩; have H5 := Lib.hid (H4.out.trans (hb5.mono H4.out.size)); have hcB := conv_str (c := c3) (Hr4.out.below hb5); clear hcA; have hcA := conv_str (c := cap) (Hr.out.below H5.out); clear hb5))
    go_ret
    exact ⟨rfl, H5.out⟩
end Go.Proofs.YtmonjligceepmaaDoor
