/- HuffmanOne's walk: whatever the octets, true. -/
import Derived.Test.YtmonjligceepmaaDoorLawB
import Derived.Deep.RegionWith
namespace Go.Proofs.YtmonjligceepmaaDoor
open Go.RowKit Go.Own Go.Huf
set_option linter.unusedVariables false

theorem decP_not_long (most : Int) : ∀ (bs : List Bool) (n v : Nat) (acc : List UInt8), ((acc.length + bs.length : Nat) : Int) ≤ most → decP most bs n v acc ≠ .long
  | [], n, v, acc, _ => by
    rw [decP]
    split <;> (intro h; cases h)
  | b :: r, n, v, acc, h => by
    simp only [List.length_cons] at h
    rw [decP]
    split
    · split
      · intro h; cases h
      · rw [if_neg (by omega)]
        exact decP_not_long most r 0 0 _ (by simp; omega)
    · exact decP_not_long most r _ _ acc (by omega)
/-- what Decode takes, in words -/
theorem dec_ok {xs t : List UInt8} {most : Int} (h : dec (bits8 xs) most = .ok t) : Pk (enc t) xs := by
  obtain ⟨t', k, ht, hk, hb⟩ := decP_ok most _ 0 0 [] t WS.zero h
  simp only [List.nil_append] at ht
  subst ht
  exact ⟨k, hk, by simpa [bitsN] using hb⟩
theorem dec_more {xs t : List UInt8} {most : Int} (h : Pk (enc t) xs) (hm : (t.length : Int) ≤ most) : dec (bits8 (xs ++ [255])) most = .form := by
  obtain ⟨k, hk, e⟩ := h
  have e8 : bits8 [255] = List.replicate 8 true := by decide +kernel
  rw [dec, bits8_append, e, e8, List.append_assoc, List.replicate_append_replicate, decP_enc most t _ [] (by simpa using hm), decP_ones most (k + 8) (by omega), if_neg (by omega)]
theorem ok_len {xs t : List UInt8} (h : Pk (enc t) xs) : 5 * t.length ≤ 8 * xs.length := by
  have h1 := h.len
  have h2 := enc_ge t
  obtain ⟨k, hk, e⟩ := h
  have := congrArg List.length e
  rw [bits8_length, List.length_append] at this
  omega
def str (t : List UInt8) : ByteArray := ⟨t.toArray⟩
theorem str_data (t : List UInt8) : (str t).data.toList = t := by simp [str]
theorem str_size (t : List UInt8) : (str t).size = t.length := by
  have : (str t).data.toList.length = (str t).size := by simp
  rw [← this, str_data]
theorem Decode_r {w : World} {A : Option Addr} {len cap : Nat} {xs : List UInt8} {R0 : R} {v : Value} (hr : Rd w 1 A len (xs.map BV)) (hC : Cnt w) (hlc : len ≤ cap) (hcap : cap ≤ 9223372036854775807) (hlen : len ≤ 536870912) (most : Int) (hR : dec (bits8 xs) most = R0) (hv : resV R0 = v) :
    Calls Tryd.prog 19 #[.slice A len cap, .int .i64 most] w fun e w' => e = .returned v ∧ Below w.heap.size w w' := by
  subst hR hv
  exact Decode_any hr hC hlc hcap hlen most
theorem Encode_o {t xs : List UInt8} {len : Nat} (hp : Pk (enc t) xs) (hl : xs.length = len) (w : World) (hC : Cnt w) (hs : t.length ≤ 16777216) :
    Calls Tryd.prog 17 #[.string (str t)] w fun e w' => ∃ A c, e = .returned (.slice A len c) ∧ Below w.heap.size w w' ∧ Rd w' 1 A len (xs.map BV) := by
  refine (Encode_is (str t) xs len hl (by rw [str_data]; exact hp) w hC (by rw [str_size]; exact hs)).mono ?_
  rintro e w' ⟨A, c, rfl, ho, hb⟩
  exact ⟨A, c, rfl, hb, Rd.of_own ho⟩
/-- the empty slice that the text lays -/
theorem own_empty (w : World) : (w.alloc (.cells #[] 5)).ownsRow 0 5 1 (.slice (some ⟨w.heap.size, 0, none⟩) 0 0) 0 [] := by
  have h2 := own_of_blk (size := 1) (n := 0) (cap := 0) (Blk.new w 5 []) (by simp) (by omega) (by unfold maxLen; omega)
  simpa using h2
theorem rd_alloc {w : World} {size n : Nat} {A : Option Addr} {vs : List Value} (h : Rd w size A n vs) (o : Obj) : Rd (w.alloc o) size A n vs := h.fr (S := fun _ => False) ((Fr.refl _ _).alloc o) (fun _ _ h => h)
theorem below_empty {w2 w3 : World} {B : Nat} {o : Obj} (hf : Fr (fun i => some i = (Value.slice (some ⟨w2.heap.size, 0, none⟩) 0 0).ownBlock) (w2.alloc o) w3) (hB : B ≤ w2.heap.size) : Below B w2 w3 :=
  ((Below.refl _ _).alloc hB o).trans (hf.below (by simp; omega) (fun i _ e => by simp [Value.ownBlock] at e; omega))

/-- the end of a law: its slot holds true -/
theorem ret_true {f : Func} {p : Nat} (hf : f.results = #[.tmp p]) {Q0 : Ending → World → Prop} {a : Act} {w : World} (h2 : a.tmps.getD p undef = .bool true) (hd : a.defers = []) (h : Q0 (.returned (.bool true)) w) : Code.wp Tryd.prog Code.ret (bodyPost Tryd.prog f Q0) a w :=
  wp_ret (bodyPost_ret (v := .bool true) (by rw [results_tmp hf, h2]) hd h)
theorem below_drew {B : Nat} {a w : World} (h : Below B a w) : Below B a w.drew := ⟨h.os, h.tape, h.output, h.size, h.block⟩
theorem ge_empty {w2 : World} {B len c3 : Nat} {A3 : Option Addr} {o : Obj} (hB : B ≤ w2.heap.size)
    (ho : (Value.slice A3 len c3).ownBlock = (Value.slice (some ⟨w2.heap.size, 0, none⟩) 0 0).ownBlock ∨ (Value.slice A3 len c3).ownBlock = some (w2.alloc o).heap.size) : ∀ g, (Value.slice A3 len c3).ownBlock = some g → B ≤ g := by
  intro g hg
  rcases ho with ho | ho
  · rw [hg] at ho; simp [Value.ownBlock] at ho; omega
  · rw [hg] at ho; simp at ho; omega
theorem more_rd {w : World} {A : Option Addr} {n c base : Nat} {xs : List UInt8} (h : w.ownsRow base 5 1 (.slice A (n + 1) c) (n + 1) (xs.map BV ++ [.int .u8 255])) : Rd w 1 A (n + 1) ((xs ++ [255]).map BV) := by
  have e : (xs ++ [255]).map BV = xs.map BV ++ [.int .u8 255] := by rw [List.map_append]; rfl
  rw [e]
  exact Rd.of_own h

set_option maxRecDepth 100000 in
set_option maxHeartbeats 4000000 in
theorem one_walk {W : World} {A : Option Addr} {len cap : Nat} {xs : List UInt8} (hr : Rd W 1 A len (xs.map BV)) (hlc : len ≤ cap) (hcap : cap ≤ 140737488351232) (hC : Cnt W) :
    Calls Tryd.prog 7 #[.slice A len cap] W fun e w' => e = .returned (.bool true) ∧ Below W.heap.size W w' := by
  have hxl : xs.length = len := by simpa using hr.1
  have HC := Lib.hid hC
  have Hr := Lib.hid hr
  have Hxl := Lib.hid hxl
  clear hC hr
  by_cases hbig : 1048576 < len
  · clear hxl
    go_enter Tryd.func7, Tryd.ntmps7
    go_wp2_with (first
      | (go_at_call 11; (with_reducible refine (shown_any _ HC.out).mono ?_); rintro e w1 ⟨rfl, hb1⟩; have H1 := Lib.hid hb1; clear hb1))
    go_ret
    exact ⟨rfl, H1.out⟩
  · obtain ⟨R0, hR⟩ : ∃ R0, dec (bits8 xs) 1073741824 = R0 := ⟨_, rfl⟩
    have HR := Lib.hid hR
    have hnl : R0 ≠ .long := by
      rw [← hR]
      exact decP_not_long _ _ 0 0 [] (by rw [bits8_length]; simp; omega)
    cases R0 with
    | long => exact absurd rfl hnl
    | form =>
      have Hrf : Hid (resV .form = .tuple #[.string ⟨#[]⟩, .int .i64 3]) := rfl
      clear hxl hR hnl
      go_enter Tryd.func7, Tryd.ntmps7
      go_wp2_with (first
        | (go_at_call 11; (with_reducible refine (shown_any _ HC.out).mono ?_); rintro e w1 ⟨rfl, hb1⟩; have H1 := Lib.hid hb1; clear hb1)
        | (go_at_call 19; (with_reducible refine (Decode_r (Hr.out.below H1.out) (HC.out.below H1.out) hlc (by omega) (by omega) 1073741824 HR.out Hrf.out).mono ?_); rintro e w2 ⟨rfl, hb2⟩; have H2 := Lib.hid (H1.out.trans (hb2.mono H1.out.size)); clear hb2))
      go_ret
      exact ⟨rfl, H2.out⟩
    | ok t =>
      have hp := dec_ok hR
      have hl := ok_len hp
      have htl : t.length ≤ 16777216 := by omega
      have hm := dec_more (most := 1073741824) hp (by omega)
      have Hp := Lib.hid hp
      have Hm := Lib.hid hm
      have hrv : resV (.ok t) = .tuple #[.string (str t), .int .i64 0] := rfl
      have Hrv := Lib.hid hrv
      have Hrf : Hid (resV .form = .tuple #[.string ⟨#[]⟩, .int .i64 3]) := rfl
      clear hR hnl hp hl hm hrv hxl
      go_enter Tryd.func7, Tryd.ntmps7
      go_upto_region 8 with (first
        | (go_at_call 11; (with_reducible refine (shown_any _ HC.out).mono ?_); rintro e w1 ⟨rfl, hb1⟩; have H1 := Lib.hid hb1; clear hb1)
        | (go_at_call 19; (with_reducible refine (Decode_r (Hr.out.below H1.out) (HC.out.below H1.out) hlc (by omega) (by omega) 1073741824 HR.out Hrv.out).mono ?_); rintro e w2 ⟨rfl, hb2⟩; have H2 := Lib.hid (H1.out.trans (hb2.mono H1.out.size)); clear hb2)
        | (at_builtin
           refine wpList_append_rd rfl (.tmp 30) (.tmp 31) 31 rfl E31 (.slice (some ⟨w2.heap.size, 0, none⟩) 0 0) 0 [] rfl (own_empty w2) A len cap (xs.map BV) rfl (rd_alloc (Hr.out.below H2.out) _) (BV_one _) (by omega) (by unfold maxLen; omega) (Nat.zero_le _) ?_
           intro A3 c3 w3 ho hf ho2
           simp only [Nat.zero_add, List.nil_append] at ho ho2
           have H3 := Lib.hid (H2.out.trans (below_empty hf H2.out.size))
           have Ge3 := Lib.hid (ge_empty H2.out.size ho2)
           have Ho := Lib.hid ho
           clear ho hf ho2))
      iterate 7 go_step
      at_builtin
      refine wpList_append_rd rfl (.tmp 33) (.tmp 34) 31 rfl E31 (.slice A3 len c3) len (xs.map BV) rfl (own_alloc Ho.out _) (some ⟨w3.heap.size, 0, none⟩) 1 1 _ rfl (rd_lit1 w3 5 _) (one_lit1 _ _) (by omega) (by unfold maxLen; omega) (Nat.zero_le _) ?_
      intro A4 c4 w4 ho hf ho2
      have hge : ∀ g, (Value.slice A3 len c3).ownBlock = some g → W.heap.size ≤ g := Ge3.out
      have H4 := Lib.hid (H3.out.trans ((((Below.refl _ _).alloc H3.out.size _).trans (hf.below (by simp; have := H3.out.size; omega) (fun i _ e => hge i e.symm)))))
      have hr4 := more_rd ho
      obtain ⟨A', c', he, h1, h2, hz1, hz2⟩ := own_shape ho
      simp only [Value.slice.injEq] at he
      obtain ⟨rfl, _, rfl⟩ := he
      have h2 : c4 ≤ 9223372036854775807 := by unfold maxLen at h2; omega
      have Hr4 := Lib.hid hr4
      clear ho hf ho2 hge hr4 hz1 hz2
      go_wp2_with (first
        | (go_at_call 19; (with_reducible refine (Decode_r Hr4.out (HC.out.below H4.out) h1 h2 (by omega) 1073741824 Hm.out Hrf.out).mono ?_); rintro e w5 ⟨rfl, hb5⟩; have H5 := Lib.hid (H4.out.trans (hb5.mono H4.out.size)); clear hb5))
      have H5' := Lib.hid (below_drew H5.out)
      have hcA := conv_rd (c := cap) (Hr.out.below H5'.out)
      go_region_with ((go_at_call 17; (with_reducible refine (Encode_o Hp.out Hxl.out w5.drew (HC.out.below H5'.out) htl).mono ?_); rintro e w6 ⟨A6, c6, rfl, hb6, hr6⟩; have hc6 := conv_rd (c := c6) hr6; have hcA6 := conv_rd (c := cap) ((Hr.out.below H5'.out).below hb6); have H6 := Lib.hid (H5'.out.trans (hb6.mono H5'.out.size)); clear hb6 hr6))
      all_goals
        simp only [Exit.then]
        refine ‹∀ (a : Act) (w : World), Code.wp Tryd.prog Code.ret _ a w → _› _ _ ?_
        refine ret_true (p := 2) rfl ?_ ?_ ⟨rfl, H6.out⟩
        · kernel_rfl
        · kernel_rfl
end Go.Proofs.YtmonjligceepmaaDoor
