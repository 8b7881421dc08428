/- Several texts in one: RnA, RnB, RnF. -/
import Derived.Test.YtokbdkbljgdcpaaDoorYRA
import Derived.Deep.DeepCutAuto
/- The document's Next: what is common; nothing whole is held. -/
namespace Go.Proofs.YtokbdkbljgdcpaaDoor
open Go.RowKit Go.Own Go.Frm
set_option linter.unusedVariables false
set_option linter.unusedSimpArgs false
set_option maxRecDepth 100000
/-- a parser that holds a head -/
structure NxIn (w : World) (p m : Nat) (xs : List UInt8) (n k fl s : Nat) : Prop where
  b : Blk w p 55 [.string ⟨xs.toArray⟩, .int .i64 (m : Int), .bool false]
  hx : xs.length ≤ 16777224
  hm : m ≤ 16777215
  h9 : 9 ≤ xs.length
  hn : hdN xs = n
  hk : hdK xs = k
  hf : hdF xs = fl
  hs : hdS xs = s
/-- what Next answers -/
def RNx (p m : Nat) (f : Fm) (x : Flt) (ok : Bool) (xs : List UInt8) (d : Bool) (w : World) (e : Ending) (w' : World) : Prop :=
  ∃ A c B dd, e = .returned (.tuple #[frV f (.slice A f.pay.length c) (.slice B f.list.length dd), ftV x, .bool ok]) ∧ Rd w' 1 A f.pay.length (f.pay.map BV) ∧ Rd w' 2 B f.list.length (scells f.list) ∧
    Blk w' p 55 [.string ⟨xs.toArray⟩, .int .i64 (m : Int), .bool d] ∧ Fr (· = p) w w'
theorem nx_k (xs : List UInt8) (j : Nat) (x : UInt8) (h : xs[j]? = some x) : num ((xs.drop j).take 1) = x.toNat := by
  obtain ⟨h1, h2⟩ := List.getElem?_eq_some_iff.1 h
  rw [List.drop_eq_getElem_cons h1, h2]
  simp [num]

theorem broken_w {w : World} {p : Nat} {s m d : Value} (hb : Blk w p 55 [s, m, d]) (c : Nat) (z : Int) (hz : z = (c : Int)) :
    Calls Tryd.prog 44 #[.pointer (some ⟨p, 0, none⟩), .int .u32 z] w fun e w' => e = .returned (.tuple #[.agg #[.int .i64 0, .int .i64 0, .bool false, .bool false, .bool false, .bool false, .slice none 0 0, .int .i64 0, .int .i64 0, .int .i64 0, .bool false, .int .i64 0, .int .u32 0, .slice none 0 0, .int .i64 0, .int .i64 0], .agg #[.bool true, .int .u32 z, .int .i64 0], .bool true]) ∧ Blk w' p 55 [.string ⟨#[]⟩, m, .bool true] ∧ Fr (· = p) w w' := by
  subst hz
  exact broken_c hb c
theorem stray_w (k s : Nat) (b : Bool) (h : stray k (s : Int) = b) (w : World) : Calls Tryd.prog 45 #[.int .i64 (k : Int), .int .i64 (s : Int)] w fun e w' => e = .returned (.bool b) ∧ w' = w := by
  subst h
  exact stray_c k s w
theorem least_w (k fl : Nat) (hk : k < 256) (hfl : fl < 256) (M : Nat) (J : Bool) (hM : must k fl = M) (hJ : just k = J) (w : World) : Calls Tryd.prog 46 #[.int .i64 (k : Int), .int .i64 (fl : Int)] w fun e w' => e = .returned (.tuple #[.int .i64 (M : Int), .bool J]) ∧ Below w.heap.size w w' := by
  subst hM hJ
  exact least_c k fl hk hfl w
set_option maxHeartbeats 8000000 in
theorem rnx_part {w : World} {p m n k fl s : Nat} {xs : List UInt8} (hin : NxIn w p m xs n k fl s) (h1 : ¬ m < n) (h2 : xs.length < 9 + n) : Calls Tryd.prog 22 #[.pointer (some ⟨p, 0, none⟩)] w (RNx p m zeroF noF false xs false w) := by
  obtain ⟨hb, hx, hm, h9, hn, hk, hf, hs⟩ := hin
  have hlx : xs.length ≤ 140737488355328 := by omega
  obtain ⟨x3, h3⟩ : ∃ x, xs[3]? = some x := ⟨_, List.getElem?_eq_getElem (by omega)⟩
  obtain ⟨x4, h4⟩ : ∃ x, xs[4]? = some x := ⟨_, List.getElem?_eq_getElem (by omega)⟩
  have E3 : x3.toNat = k := by rw [← hk]; exact (nx_k xs 3 x3 h3).symm
  have E4 : x4.toNat = fl := by rw [← hf]; exact (nx_k xs 4 x4 h4).symm
  have k8 : k < 256 := by rw [← E3]; exact x3.toNat_lt
  have f8 : fl < 256 := by rw [← E4]; exact x4.toNat_lt
  have i3 := ba_el xs 3 x3 h3
  have i4 := ba_el xs 4 x4 h4
  have n24 : n < 16777216 := by rw [← hn]; exact num_take_lt _ 3
  obtain ⟨v, hv⟩ : ∃ v, num ((xs.drop 5).take 4) = v := ⟨_, rfl⟩
  have v32 : v < 4294967296 := by rw [← hv]; exact num_take_lt _ 4
  have hsv : low v = s := by rw [← hv]; exact hs
  have G1 : Hid (num ((xs.drop 0).take 3) = n) := hn
  have G2 := Lib.hid hv
  have G3 := Lib.hid hsv
  have HLX := Lib.hid hlx
  have N0 : Hid ((0 : Int) = ((0 : Nat) : Int)) := rfl
  have N3 : Hid ((3 : Int) = ((3 : Nat) : Int)) := rfl
  have N4 : Hid ((4 : Int) = ((4 : Nat) : Int)) := rfl
  have N5 : Hid ((5 : Int) = ((5 : Nat) : Int)) := rfl
  have H9 := Lib.hid h9
  have HX24 := Lib.hid hx
  have V64 : Hid (v < 18446744073709551616) := (by omega : v < 18446744073709551616)
  have w1 : IntKind.i64.wrap (n : Int) = (n : Int) := i64w (by omega)
  have w2 : IntKind.i64.wrap (k : Int) = (k : Int) := i64w (by omega)
  have w3 : IntKind.i64.wrap (fl : Int) = (fl : Int) := i64w (by omega)
  have w4 : IntKind.i64.wrap (9 + (n : Int)) = ((9 + n : Nat) : Int) := by rw [i64w (by omega)]; omega
  have t9 : ¬ xs.length < 9 := by omega
  have t3 : 3 < xs.length := by omega
  have t4 : 4 < xs.length := by omega
  have X2 := Lib.hid (blk_new1 w (.cells #[.bool false, .int .u32 0, .int .i64 0] 46) 27 [.int .i64 0, .int .i64 0, .bool false, .bool false, .bool false, .bool false, .slice none 0 0, .int .i64 0, .int .i64 0, .int .i64 0, .bool false, .int .i64 0, .int .u32 0, .slice none 0 0, .int .i64 0, .int .i64 0])
  have Y2 := Lib.hid (blk_new2 w (.cells #[.int .i64 0, .int .i64 0, .bool false, .bool false, .bool false, .bool false, .slice none 0 0, .int .i64 0, .int .i64 0, .int .i64 0, .bool false, .int .i64 0, .int .u32 0, .slice none 0 0, .int .i64 0, .int .i64 0] 27) 46 [.bool false, .int .u32 0, .int .i64 0])
  have K2 := Lib.hid ((hb.alloc (.cells #[.int .i64 0, .int .i64 0, .bool false, .bool false, .bool false, .bool false, .slice none 0 0, .int .i64 0, .int .i64 0, .int .i64 0, .bool false, .int .i64 0, .int .u32 0, .slice none 0 0, .int .i64 0, .int .i64 0] 27)).alloc (.cells #[.bool false, .int .u32 0, .int .i64 0] 46))
  have B2 := Lib.hid (((Below.refl _ w).alloc (Nat.le_refl _) (.cells #[.int .i64 0, .int .i64 0, .bool false, .bool false, .bool false, .bool false, .slice none 0 0, .int .i64 0, .int .i64 0, .int .i64 0, .bool false, .int .i64 0, .int .u32 0, .slice none 0 0, .int .i64 0, .int .i64 0] 27)).alloc (by simp) (.cells #[.bool false, .int .u32 0, .int .i64 0] 46))
  have hpl := Lib.hid hb.lt
  clear hb hn hk hf hs hv hsv h3 h4 hlx hx h9 hm
  go_enter Tryd.func22, Tryd.ntmps22
  go_upto_region 1 with (fail)
  generalize ((w.alloc (.cells #[.int .i64 0, .int .i64 0, .bool false, .bool false, .bool false, .bool false, .slice none 0 0, .int .i64 0, .int .i64 0, .int .i64 0, .bool false, .int .i64 0, .int .u32 0, .slice none 0 0, .int .i64 0, .int .i64 0] 27)).alloc (.cells #[.bool false, .int .u32 0, .int .i64 0] 46)) = u at K2 X2 Y2 B2 ⊢
  have HK := Lib.hid K2.out
  have HX := Lib.hid X2.out
  have HY := Lib.hid Y2.out
  have HF : Hid (Fr (· = p) w u) := Fr.of_below B2.out (fun i h1 h2 => absurd h1 (by omega))
  have z0 := HK.out.cell 0
  have z1 := HK.out.cell 1
  have z2 := HK.out.cell 2
  have hlu := HK.out.lt
  simp only [List.getElem?_cons_zero, List.getElem?_cons_succ] at z0 z1 z2
  clear K2 X2 Y2 B2
  have h3 : (xs.length : Int) < ((9 + n : Nat) : Int) := by omega
  go_upto_region 10 with (first
    | (go_at_call 42; (with_reducible refine (get_w xs 0 3 _ _ N0.out N3.out (by have := H9.out; omega) HLX.out (by omega) n G1.out _).mono ?_); rintro e w9 ⟨rfl, hw9⟩; rw [hw9]; clear hw9)
    | (go_at_call 42; (with_reducible refine (get_w xs 5 4 _ _ N5.out N4.out (by have := H9.out; omega) HLX.out (by omega) v G2.out _).mono ?_); rintro e w9 ⟨rfl, hw9⟩; rw [hw9]; clear hw9)
    | (go_at_call 43; (with_reducible refine (low_w v s G3.out V64.out _).mono ?_); rintro e w9 ⟨rfl, hw9⟩; rw [hw9]; clear hw9))
  obtain ⟨r0, r1, r2, r3, r4, r5, r6, r7, r8, r9, r10, r11, r12, r13, r14, r15⟩ := cells16 (HX.out : Blk _ _ _ zero16)
  have q0 := HY.out.cell 0
  have q1 := HY.out.cell 1
  have q2 := HY.out.cell 2
  simp only [List.getElem?_cons_zero, List.getElem?_cons_succ] at q0 q1 q2
  have yf := fun i => HX.out.frozen i
  have yg := fun i => HY.out.frozen i
  have l1 := HX.out.lt
  have l2 := HY.out.lt
  go_wp2
  obtain ⟨S1, S2⟩ := store16 (HX.out : Blk _ _ _ zero16) (.int .i64 0) (.int .i64 0) (.bool false) (.bool false) (.bool false) (.bool false) (.slice none 0 0) (.int .i64 0) (.int .i64 0) (.int .i64 0) (.bool false) (.int .i64 0) (.int .u32 0) (.slice none 0 0) (.int .i64 0) (.int .i64 0)
  obtain ⟨S3, S4⟩ := store3 (HY.out.fr S2 (fun e => by omega)) (.bool false) (.int .u32 0) (.int .i64 0)
  have s2 := S2.mono (S' := fun i => i = w.heap.size ∨ i = w.heap.size + 1) (fun i _ h => .inl h)
  have s4 := S4.mono (S' := fun i => i = w.heap.size ∨ i = w.heap.size + 1) (fun i _ h => .inr h)
  have hpl' := hpl.out
  exact bodyPost_ret (res_ffb (p := 2) (q := 3) (r := 4) rfl rfl rfl rfl rfl (S1.fr S4 (fun e => by omega)) S3) rfl ⟨none, 0, none, 0, rfl, Rd.nil _ _ _, Rd.nil _ _ _, (HK.out.fr S2 (fun e => by omega)).fr S4 (fun e => by omega), HF.out.trans (s2.trans s4 (fun _ _ h => h)) (fun i hi h => by rcases h with h | h <;> omega)⟩
set_option maxHeartbeats 8000000 in
theorem rnx_long {w : World} {p m n k fl s : Nat} {xs : List UInt8} (hin : NxIn w p m xs n k fl s) (h1 : m < n) : Calls Tryd.prog 22 #[.pointer (some ⟨p, 0, none⟩)] w (RNx p m zeroF (conF 6) true [] true w) := by
  obtain ⟨hb, hx, hm, h9, hn, hk, hf, hs⟩ := hin
  have hlx : xs.length ≤ 140737488355328 := by omega
  obtain ⟨x3, h3⟩ : ∃ x, xs[3]? = some x := ⟨_, List.getElem?_eq_getElem (by omega)⟩
  obtain ⟨x4, h4⟩ : ∃ x, xs[4]? = some x := ⟨_, List.getElem?_eq_getElem (by omega)⟩
  have E3 : x3.toNat = k := by rw [← hk]; exact (nx_k xs 3 x3 h3).symm
  have E4 : x4.toNat = fl := by rw [← hf]; exact (nx_k xs 4 x4 h4).symm
  have k8 : k < 256 := by rw [← E3]; exact x3.toNat_lt
  have f8 : fl < 256 := by rw [← E4]; exact x4.toNat_lt
  have i3 := ba_el xs 3 x3 h3
  have i4 := ba_el xs 4 x4 h4
  have n24 : n < 16777216 := by rw [← hn]; exact num_take_lt _ 3
  obtain ⟨v, hv⟩ : ∃ v, num ((xs.drop 5).take 4) = v := ⟨_, rfl⟩
  have v32 : v < 4294967296 := by rw [← hv]; exact num_take_lt _ 4
  have hsv : low v = s := by rw [← hv]; exact hs
  have G1 : Hid (num ((xs.drop 0).take 3) = n) := hn
  have G2 := Lib.hid hv
  have G3 := Lib.hid hsv
  have HLX := Lib.hid hlx
  have N0 : Hid ((0 : Int) = ((0 : Nat) : Int)) := rfl
  have N3 : Hid ((3 : Int) = ((3 : Nat) : Int)) := rfl
  have N4 : Hid ((4 : Int) = ((4 : Nat) : Int)) := rfl
  have N5 : Hid ((5 : Int) = ((5 : Nat) : Int)) := rfl
  have H9 := Lib.hid h9
  have HX24 := Lib.hid hx
  have V64 : Hid (v < 18446744073709551616) := (by omega : v < 18446744073709551616)
  have w1 : IntKind.i64.wrap (n : Int) = (n : Int) := i64w (by omega)
  have w2 : IntKind.i64.wrap (k : Int) = (k : Int) := i64w (by omega)
  have w3 : IntKind.i64.wrap (fl : Int) = (fl : Int) := i64w (by omega)
  have w4 : IntKind.i64.wrap (9 + (n : Int)) = ((9 + n : Nat) : Int) := by rw [i64w (by omega)]; omega
  have t9 : ¬ xs.length < 9 := by omega
  have t3 : 3 < xs.length := by omega
  have t4 : 4 < xs.length := by omega
  have X2 := Lib.hid (blk_new1 w (.cells #[.bool false, .int .u32 0, .int .i64 0] 46) 27 [.int .i64 0, .int .i64 0, .bool false, .bool false, .bool false, .bool false, .slice none 0 0, .int .i64 0, .int .i64 0, .int .i64 0, .bool false, .int .i64 0, .int .u32 0, .slice none 0 0, .int .i64 0, .int .i64 0])
  have Y2 := Lib.hid (blk_new2 w (.cells #[.int .i64 0, .int .i64 0, .bool false, .bool false, .bool false, .bool false, .slice none 0 0, .int .i64 0, .int .i64 0, .int .i64 0, .bool false, .int .i64 0, .int .u32 0, .slice none 0 0, .int .i64 0, .int .i64 0] 27) 46 [.bool false, .int .u32 0, .int .i64 0])
  have K2 := Lib.hid ((hb.alloc (.cells #[.int .i64 0, .int .i64 0, .bool false, .bool false, .bool false, .bool false, .slice none 0 0, .int .i64 0, .int .i64 0, .int .i64 0, .bool false, .int .i64 0, .int .u32 0, .slice none 0 0, .int .i64 0, .int .i64 0] 27)).alloc (.cells #[.bool false, .int .u32 0, .int .i64 0] 46))
  have B2 := Lib.hid (((Below.refl _ w).alloc (Nat.le_refl _) (.cells #[.int .i64 0, .int .i64 0, .bool false, .bool false, .bool false, .bool false, .slice none 0 0, .int .i64 0, .int .i64 0, .int .i64 0, .bool false, .int .i64 0, .int .u32 0, .slice none 0 0, .int .i64 0, .int .i64 0] 27)).alloc (by simp) (.cells #[.bool false, .int .u32 0, .int .i64 0] 46))
  have hpl := Lib.hid hb.lt
  clear hb hn hk hf hs hv hsv h3 h4 hlx hx h9 hm
  go_enter Tryd.func22, Tryd.ntmps22
  go_upto_region 1 with (fail)
  generalize ((w.alloc (.cells #[.int .i64 0, .int .i64 0, .bool false, .bool false, .bool false, .bool false, .slice none 0 0, .int .i64 0, .int .i64 0, .int .i64 0, .bool false, .int .i64 0, .int .u32 0, .slice none 0 0, .int .i64 0, .int .i64 0] 27)).alloc (.cells #[.bool false, .int .u32 0, .int .i64 0] 46)) = u at K2 X2 Y2 B2 ⊢
  have HK := Lib.hid K2.out
  have HX := Lib.hid X2.out
  have HY := Lib.hid Y2.out
  have HF : Hid (Fr (· = p) w u) := Fr.of_below B2.out (fun i h1 h2 => absurd h1 (by omega))
  have z0 := HK.out.cell 0
  have z1 := HK.out.cell 1
  have z2 := HK.out.cell 2
  have hlu := HK.out.lt
  simp only [List.getElem?_cons_zero, List.getElem?_cons_succ] at z0 z1 z2
  clear K2 X2 Y2 B2
  go_wp2_with (first
    | (go_at_call 42; (with_reducible refine (get_w xs 0 3 _ _ N0.out N3.out (by have := H9.out; omega) HLX.out (by omega) n G1.out _).mono ?_); rintro e w9 ⟨rfl, hw9⟩; rw [hw9]; clear hw9)
    | (go_at_call 42; (with_reducible refine (get_w xs 5 4 _ _ N5.out N4.out (by have := H9.out; omega) HLX.out (by omega) v G2.out _).mono ?_); rintro e w9 ⟨rfl, hw9⟩; rw [hw9]; clear hw9)
    | (go_at_call 43; (with_reducible refine (low_w v s G3.out V64.out _).mono ?_); rintro e w9 ⟨rfl, hw9⟩; rw [hw9]; clear hw9)
    | (go_at_call 44; (with_reducible refine (broken_w HK.out 6 6 rfl).mono ?_); rintro e w8 ⟨rfl, hb8, hf8⟩
       have hX' := HX.out.fr hf8 (fun e => by have := hpl.out; omega)
       have hY' := HY.out.fr hf8 (fun e => by have := hpl.out; omega)
       have hF' : Fr (· = p) w w8 := HF.out.trans hf8 (fun _ _ h => h)
       clear HK HX HY HF z0 z1 z2 hlu hf8
       have HK := Lib.hid hb8
       have HX := Lib.hid hX'
       have HY := Lib.hid hY'
       have HF := Lib.hid hF'
       clear hb8 hX' hY' hF'
       obtain ⟨r0, r1, r2, r3, r4, r5, r6, r7, r8, r9, r10, r11, r12, r13, r14, r15⟩ := cells16 (HX.out : Blk _ _ _ zero16)
       have q0 := HY.out.cell 0
       have q1 := HY.out.cell 1
       have q2 := HY.out.cell 2
       simp only [List.getElem?_cons_zero, List.getElem?_cons_succ] at q0 q1 q2
       have yf := fun i => HX.out.frozen i
       have yg := fun i => HY.out.frozen i
       have l1 := HX.out.lt
       have l2 := HY.out.lt))
  obtain ⟨S1, S2⟩ := store16 (HX.out : Blk _ _ _ zero16) (.int .i64 0) (.int .i64 0) (.bool false) (.bool false) (.bool false) (.bool false) (.slice none 0 0) (.int .i64 0) (.int .i64 0) (.int .i64 0) (.bool false) (.int .i64 0) (.int .u32 0) (.slice none 0 0) (.int .i64 0) (.int .i64 0)
  obtain ⟨S3, S4⟩ := store3 (HY.out.fr S2 (fun e => by omega)) (.bool true) (.int .u32 6) (.int .i64 0)
  have s2 := S2.mono (S' := fun i => i = w.heap.size ∨ i = w.heap.size + 1) (fun i _ h => .inl h)
  have s4 := S4.mono (S' := fun i => i = w.heap.size ∨ i = w.heap.size + 1) (fun i _ h => .inr h)
  have hpl' := hpl.out
  exact bodyPost_ret (res_ffb (p := 2) (q := 3) (r := 4) rfl rfl rfl rfl rfl (S1.fr S4 (fun e => by omega)) S3) rfl ⟨none, 0, none, 0, rfl, Rd.nil _ _ _, Rd.nil _ _ _, (HK.out.fr S2 (fun e => by omega)).fr S4 (fun e => by omega), HF.out.trans (s2.trans s4 (fun _ _ h => h)) (fun i hi h => by rcases h with h | h <;> omega)⟩
set_option maxHeartbeats 8000000 in
theorem rnx_stray {w : World} {p m n k fl s : Nat} {xs : List UInt8} (hin : NxIn w p m xs n k fl s) (h1 : ¬ m < n) (h2 : ¬ xs.length < 9 + n) (h3 : stray k (s : Int) = true) : Calls Tryd.prog 22 #[.pointer (some ⟨p, 0, none⟩)] w (RNx p m zeroF (conF 1) true [] true w) := by
  obtain ⟨hb, hx, hm, h9, hn, hk, hf, hs⟩ := hin
  have hlx : xs.length ≤ 140737488355328 := by omega
  obtain ⟨x3, h3⟩ : ∃ x, xs[3]? = some x := ⟨_, List.getElem?_eq_getElem (by omega)⟩
  obtain ⟨x4, h4⟩ : ∃ x, xs[4]? = some x := ⟨_, List.getElem?_eq_getElem (by omega)⟩
  have E3 : x3.toNat = k := by rw [← hk]; exact (nx_k xs 3 x3 h3).symm
  have E4 : x4.toNat = fl := by rw [← hf]; exact (nx_k xs 4 x4 h4).symm
  have k8 : k < 256 := by rw [← E3]; exact x3.toNat_lt
  have f8 : fl < 256 := by rw [← E4]; exact x4.toNat_lt
  have i3 := ba_el xs 3 x3 h3
  have i4 := ba_el xs 4 x4 h4
  have n24 : n < 16777216 := by rw [← hn]; exact num_take_lt _ 3
  obtain ⟨v, hv⟩ : ∃ v, num ((xs.drop 5).take 4) = v := ⟨_, rfl⟩
  have v32 : v < 4294967296 := by rw [← hv]; exact num_take_lt _ 4
  have hsv : low v = s := by rw [← hv]; exact hs
  have G1 : Hid (num ((xs.drop 0).take 3) = n) := hn
  have G2 := Lib.hid hv
  have G3 := Lib.hid hsv
  have HLX := Lib.hid hlx
  have N0 : Hid ((0 : Int) = ((0 : Nat) : Int)) := rfl
  have N3 : Hid ((3 : Int) = ((3 : Nat) : Int)) := rfl
  have N4 : Hid ((4 : Int) = ((4 : Nat) : Int)) := rfl
  have N5 : Hid ((5 : Int) = ((5 : Nat) : Int)) := rfl
  have H9 := Lib.hid h9
  have HX24 := Lib.hid hx
  have V64 : Hid (v < 18446744073709551616) := (by omega : v < 18446744073709551616)
  have w1 : IntKind.i64.wrap (n : Int) = (n : Int) := i64w (by omega)
  have w2 : IntKind.i64.wrap (k : Int) = (k : Int) := i64w (by omega)
  have w3 : IntKind.i64.wrap (fl : Int) = (fl : Int) := i64w (by omega)
  have w4 : IntKind.i64.wrap (9 + (n : Int)) = ((9 + n : Nat) : Int) := by rw [i64w (by omega)]; omega
  have t9 : ¬ xs.length < 9 := by omega
  have t3 : 3 < xs.length := by omega
  have t4 : 4 < xs.length := by omega
  have X2 := Lib.hid (blk_new1 w (.cells #[.bool false, .int .u32 0, .int .i64 0] 46) 27 [.int .i64 0, .int .i64 0, .bool false, .bool false, .bool false, .bool false, .slice none 0 0, .int .i64 0, .int .i64 0, .int .i64 0, .bool false, .int .i64 0, .int .u32 0, .slice none 0 0, .int .i64 0, .int .i64 0])
  have Y2 := Lib.hid (blk_new2 w (.cells #[.int .i64 0, .int .i64 0, .bool false, .bool false, .bool false, .bool false, .slice none 0 0, .int .i64 0, .int .i64 0, .int .i64 0, .bool false, .int .i64 0, .int .u32 0, .slice none 0 0, .int .i64 0, .int .i64 0] 27) 46 [.bool false, .int .u32 0, .int .i64 0])
  have K2 := Lib.hid ((hb.alloc (.cells #[.int .i64 0, .int .i64 0, .bool false, .bool false, .bool false, .bool false, .slice none 0 0, .int .i64 0, .int .i64 0, .int .i64 0, .bool false, .int .i64 0, .int .u32 0, .slice none 0 0, .int .i64 0, .int .i64 0] 27)).alloc (.cells #[.bool false, .int .u32 0, .int .i64 0] 46))
  have B2 := Lib.hid (((Below.refl _ w).alloc (Nat.le_refl _) (.cells #[.int .i64 0, .int .i64 0, .bool false, .bool false, .bool false, .bool false, .slice none 0 0, .int .i64 0, .int .i64 0, .int .i64 0, .bool false, .int .i64 0, .int .u32 0, .slice none 0 0, .int .i64 0, .int .i64 0] 27)).alloc (by simp) (.cells #[.bool false, .int .u32 0, .int .i64 0] 46))
  have hpl := Lib.hid hb.lt
  clear hb hn hk hf hs hv hsv h3 h4 hlx hx h9 hm
  go_enter Tryd.func22, Tryd.ntmps22
  go_upto_region 1 with (fail)
  generalize ((w.alloc (.cells #[.int .i64 0, .int .i64 0, .bool false, .bool false, .bool false, .bool false, .slice none 0 0, .int .i64 0, .int .i64 0, .int .i64 0, .bool false, .int .i64 0, .int .u32 0, .slice none 0 0, .int .i64 0, .int .i64 0] 27)).alloc (.cells #[.bool false, .int .u32 0, .int .i64 0] 46)) = u at K2 X2 Y2 B2 ⊢
  have HK := Lib.hid K2.out
  have HX := Lib.hid X2.out
  have HY := Lib.hid Y2.out
  have HF : Hid (Fr (· = p) w u) := Fr.of_below B2.out (fun i h1 h2 => absurd h1 (by omega))
  have z0 := HK.out.cell 0
  have z1 := HK.out.cell 1
  have z2 := HK.out.cell 2
  have hlu := HK.out.lt
  simp only [List.getElem?_cons_zero, List.getElem?_cons_succ] at z0 z1 z2
  clear K2 X2 Y2 B2
  have HSt := Lib.hid h3
  clear h3
  go_wp2_with (first
    | (go_at_call 42; (with_reducible refine (get_w xs 0 3 _ _ N0.out N3.out (by have := H9.out; omega) HLX.out (by omega) n G1.out _).mono ?_); rintro e w9 ⟨rfl, hw9⟩; rw [hw9]; clear hw9)
    | (go_at_call 42; (with_reducible refine (get_w xs 5 4 _ _ N5.out N4.out (by have := H9.out; omega) HLX.out (by omega) v G2.out _).mono ?_); rintro e w9 ⟨rfl, hw9⟩; rw [hw9]; clear hw9)
    | (go_at_call 43; (with_reducible refine (low_w v s G3.out V64.out _).mono ?_); rintro e w9 ⟨rfl, hw9⟩; rw [hw9]; clear hw9)
    | (go_at_call 44; (with_reducible refine (broken_w HK.out 1 1 rfl).mono ?_); rintro e w8 ⟨rfl, hb8, hf8⟩
       have hX' := HX.out.fr hf8 (fun e => by have := hpl.out; omega)
       have hY' := HY.out.fr hf8 (fun e => by have := hpl.out; omega)
       have hF' : Fr (· = p) w w8 := HF.out.trans hf8 (fun _ _ h => h)
       clear HK HX HY HF z0 z1 z2 hlu hf8
       have HK := Lib.hid hb8
       have HX := Lib.hid hX'
       have HY := Lib.hid hY'
       have HF := Lib.hid hF'
       clear hb8 hX' hY' hF'
       obtain ⟨r0, r1, r2, r3, r4, r5, r6, r7, r8, r9, r10, r11, r12, r13, r14, r15⟩ := cells16 (HX.out : Blk _ _ _ zero16)
       have q0 := HY.out.cell 0
       have q1 := HY.out.cell 1
       have q2 := HY.out.cell 2
       simp only [List.getElem?_cons_zero, List.getElem?_cons_succ] at q0 q1 q2
       have yf := fun i => HX.out.frozen i
       have yg := fun i => HY.out.frozen i
       have l1 := HX.out.lt
       have l2 := HY.out.lt)
    | (go_at_call 45; (with_reducible refine (stray_w k s _ HSt.out _).mono ?_); rintro e w9 ⟨rfl, hw9⟩; rw [hw9]; clear hw9))
  obtain ⟨S1, S2⟩ := store16 (HX.out : Blk _ _ _ zero16) (.int .i64 0) (.int .i64 0) (.bool false) (.bool false) (.bool false) (.bool false) (.slice none 0 0) (.int .i64 0) (.int .i64 0) (.int .i64 0) (.bool false) (.int .i64 0) (.int .u32 0) (.slice none 0 0) (.int .i64 0) (.int .i64 0)
  obtain ⟨S3, S4⟩ := store3 (HY.out.fr S2 (fun e => by omega)) (.bool true) (.int .u32 1) (.int .i64 0)
  have s2 := S2.mono (S' := fun i => i = w.heap.size ∨ i = w.heap.size + 1) (fun i _ h => .inl h)
  have s4 := S4.mono (S' := fun i => i = w.heap.size ∨ i = w.heap.size + 1) (fun i _ h => .inr h)
  have hpl' := hpl.out
  exact bodyPost_ret (res_ffb (p := 2) (q := 3) (r := 4) rfl rfl rfl rfl rfl (S1.fr S4 (fun e => by omega)) S3) rfl ⟨none, 0, none, 0, rfl, Rd.nil _ _ _, Rd.nil _ _ _, (HK.out.fr S2 (fun e => by omega)).fr S4 (fun e => by omega), HF.out.trans (s2.trans s4 (fun _ _ h => h)) (fun i hi h => by rcases h with h | h <;> omega)⟩
end Go.Proofs.YtokbdkbljgdcpaaDoor

/- The document's Next: a payload of a wrong size. -/
namespace Go.Proofs.YtokbdkbljgdcpaaDoor
open Go.RowKit Go.Own Go.Frm
set_option linter.unusedVariables false
set_option linter.unusedSimpArgs false
set_option maxRecDepth 100000
/-- what read answers -/
def ReadQ (F : Fm) (w : World) (e : Ending) (w' : World) : Prop :=
  ∃ A c B d, e = .returned (frV F (.slice A F.pay.length c) (.slice B F.list.length d)) ∧ Rd w' 1 A F.pay.length (F.pay.map BV) ∧ Rd w' 2 B F.list.length (scells F.list) ∧ Below w.heap.size w w' ∧ (∀ a, A = some a → w.heap.size ≤ a.block) ∧ ∀ a, B = some a → w.heap.size ≤ a.block
/-- the padding is not too much -/
def PadOk (k fl : Nat) (ss : List UInt8) : Prop := padded k fl = true → (ss.headD 0).toNat ≤ ss.length - must k fl
theorem bad_ways {k fl n M : Nat} {J t0 b : Bool} (hM : must k fl = M) (hJ : just k = J) (hT : fl.testBit 0 = t0) (h : badSize k fl n = b) :
    (n < M ∧ b = true) ∨ (¬ n < M ∧ J = true ∧ n ≠ M ∧ b = true) ∨ (¬ n < M ∧ (J = false ∨ (J = true ∧ n = M)) ∧ k ≠ 4 ∧ b = false) ∨
    (¬ n < M ∧ J = false ∧ k = 4 ∧ n % 6 ≠ 0 ∧ b = true) ∨ (¬ n < M ∧ J = false ∧ k = 4 ∧ n % 6 = 0 ∧ t0 = true ∧ 0 < n ∧ b = true) ∨ (¬ n < M ∧ J = false ∧ k = 4 ∧ n % 6 = 0 ∧ t0 = true ∧ n = 0 ∧ b = false) ∨
    (¬ n < M ∧ J = false ∧ k = 4 ∧ n % 6 = 0 ∧ t0 = false ∧ b = false) := by
  unfold badSize at h
  rw [hM, hJ] at h
  by_cases h1 : n < M
  · left; exact ⟨h1, by rw [← h]; simp [h1]⟩
  · right
    by_cases h4 : k = 4
    · have hj : J = false := by rw [← hJ, h4]; rfl
      have ha : withA k fl = t0 := by rw [h4]; unfold withA; rw [hT]; rfl
      rw [ha] at h
      by_cases h6 : n % 6 = 0
      · cases t0
        · exact .inr (.inr (.inr (.inr (.inr ⟨h1, hj, h4, h6, rfl, by rw [← h]; simp [h1, hj, h6]⟩))))
        · by_cases h0 : 0 < n
          · exact .inr (.inr (.inr (.inl ⟨h1, hj, h4, h6, rfl, h0, by rw [← h]; simp [h4, h0]⟩)))
          · exact .inr (.inr (.inr (.inr (.inl ⟨h1, hj, h4, h6, rfl, by omega, by rw [← h]; simp [h1, hj, h6, h0]⟩))))
      · exact .inr (.inr (.inl ⟨h1, hj, h4, h6, by rw [← h]; simp [h4, h6]⟩))
    · cases hj : J
      · exact .inr (.inl ⟨h1, .inl rfl, h4, by rw [← h]; simp [h1, hj, h4]⟩)
      · by_cases hm : n = M
        · exact .inr (.inl ⟨h1, .inr ⟨rfl, hm⟩, h4, by rw [← h]; simp [h1, hj, h4, hm]⟩)
        · exact .inl ⟨h1, rfl, hm, by rw [← h]; simp [hj, hm]⟩
set_option maxHeartbeats 16000000 in
theorem rnx_bad {w : World} {p m n k fl s : Nat} {xs : List UInt8} (hin : NxIn w p m xs n k fl s) (h1 : ¬ m < n) (h2 : ¬ xs.length < 9 + n) (h3 : stray k (s : Int) = false) (h4 : badSize k fl n = true) (h5 : ((k : Int) == 2) = false) : Calls Tryd.prog 22 #[.pointer (some ⟨p, 0, none⟩)] w (RNx p m zeroF (conF 6) true [] true w) := by
  obtain ⟨hb, hx, hm, h9, hn, hk, hf, hs⟩ := hin
  have hlx : xs.length ≤ 140737488355328 := by omega
  obtain ⟨x3, h3⟩ : ∃ x, xs[3]? = some x := ⟨_, List.getElem?_eq_getElem (by omega)⟩
  obtain ⟨x4, h4⟩ : ∃ x, xs[4]? = some x := ⟨_, List.getElem?_eq_getElem (by omega)⟩
  have E3 : x3.toNat = k := by rw [← hk]; exact (nx_k xs 3 x3 h3).symm
  have E4 : x4.toNat = fl := by rw [← hf]; exact (nx_k xs 4 x4 h4).symm
  have k8 : k < 256 := by rw [← E3]; exact x3.toNat_lt
  have f8 : fl < 256 := by rw [← E4]; exact x4.toNat_lt
  have i3 := ba_el xs 3 x3 h3
  have i4 := ba_el xs 4 x4 h4
  have n24 : n < 16777216 := by rw [← hn]; exact num_take_lt _ 3
  obtain ⟨v, hv⟩ : ∃ v, num ((xs.drop 5).take 4) = v := ⟨_, rfl⟩
  have v32 : v < 4294967296 := by rw [← hv]; exact num_take_lt _ 4
  have hsv : low v = s := by rw [← hv]; exact hs
  have G1 : Hid (num ((xs.drop 0).take 3) = n) := hn
  have G2 := Lib.hid hv
  have G3 := Lib.hid hsv
  have HLX := Lib.hid hlx
  have N0 : Hid ((0 : Int) = ((0 : Nat) : Int)) := rfl
  have N3 : Hid ((3 : Int) = ((3 : Nat) : Int)) := rfl
  have N4 : Hid ((4 : Int) = ((4 : Nat) : Int)) := rfl
  have N5 : Hid ((5 : Int) = ((5 : Nat) : Int)) := rfl
  have H9 := Lib.hid h9
  have HX24 := Lib.hid hx
  have V64 : Hid (v < 18446744073709551616) := (by omega : v < 18446744073709551616)
  have w1 : IntKind.i64.wrap (n : Int) = (n : Int) := i64w (by omega)
  have w2 : IntKind.i64.wrap (k : Int) = (k : Int) := i64w (by omega)
  have w3 : IntKind.i64.wrap (fl : Int) = (fl : Int) := i64w (by omega)
  have w4 : IntKind.i64.wrap (9 + (n : Int)) = ((9 + n : Nat) : Int) := by rw [i64w (by omega)]; omega
  have t9 : ¬ xs.length < 9 := by omega
  have t3 : 3 < xs.length := by omega
  have t4 : 4 < xs.length := by omega
  have X2 := Lib.hid (blk_new1 w (.cells #[.bool false, .int .u32 0, .int .i64 0] 46) 27 [.int .i64 0, .int .i64 0, .bool false, .bool false, .bool false, .bool false, .slice none 0 0, .int .i64 0, .int .i64 0, .int .i64 0, .bool false, .int .i64 0, .int .u32 0, .slice none 0 0, .int .i64 0, .int .i64 0])
  have Y2 := Lib.hid (blk_new2 w (.cells #[.int .i64 0, .int .i64 0, .bool false, .bool false, .bool false, .bool false, .slice none 0 0, .int .i64 0, .int .i64 0, .int .i64 0, .bool false, .int .i64 0, .int .u32 0, .slice none 0 0, .int .i64 0, .int .i64 0] 27) 46 [.bool false, .int .u32 0, .int .i64 0])
  have K2 := Lib.hid ((hb.alloc (.cells #[.int .i64 0, .int .i64 0, .bool false, .bool false, .bool false, .bool false, .slice none 0 0, .int .i64 0, .int .i64 0, .int .i64 0, .bool false, .int .i64 0, .int .u32 0, .slice none 0 0, .int .i64 0, .int .i64 0] 27)).alloc (.cells #[.bool false, .int .u32 0, .int .i64 0] 46))
  have B2 := Lib.hid (((Below.refl _ w).alloc (Nat.le_refl _) (.cells #[.int .i64 0, .int .i64 0, .bool false, .bool false, .bool false, .bool false, .slice none 0 0, .int .i64 0, .int .i64 0, .int .i64 0, .bool false, .int .i64 0, .int .u32 0, .slice none 0 0, .int .i64 0, .int .i64 0] 27)).alloc (by simp) (.cells #[.bool false, .int .u32 0, .int .i64 0] 46))
  have hpl := Lib.hid hb.lt
  clear hb hn hk hf hs hv hsv h3 h4 hlx hx h9 hm
  go_enter Tryd.func22, Tryd.ntmps22
  go_upto_region 1 with (fail)
  generalize ((w.alloc (.cells #[.int .i64 0, .int .i64 0, .bool false, .bool false, .bool false, .bool false, .slice none 0 0, .int .i64 0, .int .i64 0, .int .i64 0, .bool false, .int .i64 0, .int .u32 0, .slice none 0 0, .int .i64 0, .int .i64 0] 27)).alloc (.cells #[.bool false, .int .u32 0, .int .i64 0] 46)) = u at K2 X2 Y2 B2 ⊢
  have HK := Lib.hid K2.out
  have HX := Lib.hid X2.out
  have HY := Lib.hid Y2.out
  have HF : Hid (Fr (· = p) w u) := Fr.of_below B2.out (fun i h1 h2 => absurd h1 (by omega))
  have z0 := HK.out.cell 0
  have z1 := HK.out.cell 1
  have z2 := HK.out.cell 2
  have hlu := HK.out.lt
  simp only [List.getElem?_cons_zero, List.getElem?_cons_succ] at z0 z1 z2
  clear K2 X2 Y2 B2
  have HSt := Lib.hid h3
  have hbad := Lib.hid h4
  clear h3 h4
  have h9n : 9 + n ≤ xs.length := by omega
  have h99 : 9 ≤ 9 + n := by omega
  obtain ⟨ss, hss⟩ : ∃ ss, (xs.drop 9).take n = ss := ⟨_, rfl⟩
  have esl : ({ data := xs.toArray } : ByteArray).extract 9 (9 + n) = ⟨ss.toArray⟩ := by rw [ba_ext, show 9 + n - 9 = n by omega, hss]
  have lss : ss.length = n := by rw [← hss, List.length_take, List.length_drop]; omega
  obtain ⟨M, hM⟩ : ∃ M, must k fl = M := ⟨_, rfl⟩
  obtain ⟨J, hJ⟩ : ∃ J, just k = J := ⟨_, rfl⟩
  obtain ⟨t0, ht0⟩ : ∃ t, fl.testBit 0 = t := ⟨_, rfl⟩
  have b0 : (bits .and .i64 (fl : Int) 1 != 0) = t0 := by rw [← ht0]; exact and_pow fl 0 (by omega) (by omega)
  have HM := Lib.hid hM
  have HJ := Lib.hid hJ
  have HT0 := Lib.hid ht0
  have HSS := Lib.hid hss
  clear hM hJ ht0 hss
  go_upto_region 15 with (first
    | (go_at_call 42; (with_reducible refine (get_w xs 0 3 _ _ N0.out N3.out (by have := H9.out; omega) HLX.out (by omega) n G1.out _).mono ?_); rintro e w9 ⟨rfl, hw9⟩; rw [hw9]; clear hw9)
    | (go_at_call 42; (with_reducible refine (get_w xs 5 4 _ _ N5.out N4.out (by have := H9.out; omega) HLX.out (by omega) v G2.out _).mono ?_); rintro e w9 ⟨rfl, hw9⟩; rw [hw9]; clear hw9)
    | (go_at_call 43; (with_reducible refine (low_w v s G3.out V64.out _).mono ?_); rintro e w9 ⟨rfl, hw9⟩; rw [hw9]; clear hw9)
    | (go_at_call 45; (with_reducible refine (stray_w k s _ HSt.out _).mono ?_); rintro e w9 ⟨rfl, hw9⟩; rw [hw9]; clear hw9)
    | (go_at_call 46; (with_reducible refine (least_w k fl k8 f8 M J HM.out HJ.out _).mono ?_); rintro e w7 ⟨rfl, hb⟩
       have hK' := blk_below HK.out hb
       have hX' := blk_below HX.out hb
       have hY' := blk_below HY.out hb
       have hF' : Fr (· = p) w w7 := HF.out.trans (Fr.of_below (S := (· = p)) hb (fun i h1 h2 => absurd h1 (by omega))) (fun _ _ h => h)
       clear HK HX HY HF z0 z1 z2 hlu hb
       have HK := Lib.hid hK'
       have HX := Lib.hid hX'
       have HY := Lib.hid hY'
       have HF := Lib.hid hF'
       clear hK' hX' hY' hF'
       have z0 := HK.out.cell 0
       have z1 := HK.out.cell 1
       have z2 := HK.out.cell 2
       have hlu := HK.out.lt
       simp only [List.getElem?_cons_zero, List.getElem?_cons_succ] at z0 z1 z2))
  go_cut [122] (fun s wx => s = .bool true ∧ wx = w7)
  case first =>
    have r6 : (n : Int).tmod 6 = ((n % 6 : Nat) : Int) := by rw [Int.tmod_eq_emod_of_nonneg (by omega)]; omega
    have ways := bad_ways HM.out HJ.out HT0.out hbad.out
    clear HM HJ HT0 hbad HF HK HX HY z0 z1 z2 hlu HSt HSS esl lss h99 h9n i3 i4 E3 E4 w1 w2 w3 w4 t9 t3 t4 h1 h2
    rcases ways with ⟨c1, c2⟩ | ⟨c1, rfl, c2, c3⟩ | ⟨c1, rfl | ⟨rfl, rfl⟩, c3, c4⟩ | ⟨c1, rfl, c3, c4, c5⟩ | ⟨c1, rfl, c3, c4, rfl, c5, c6⟩ | ⟨c1, rfl, c3, c4, rfl, c5, c6⟩ | ⟨c1, rfl, c3, c4, rfl, c5⟩
    · go_wp2
      go_meet
      case rel => first | exact ⟨rfl, rfl⟩ | cases c2
    · have e1 : (n != M) = true := by simpa using c2
      have e2 : ((n : Int) != (M : Int)) = true := by simp; omega
      clear r6 c2
      go_wp2
      go_meet
      case rel => first | exact ⟨rfl, rfl⟩ | cases c3
    · have e1 : ((k : Int) == 4) = false := by simp; omega
      clear r6 c3
      go_wp2
      go_meet
      case rel => first | exact ⟨rfl, rfl⟩ | cases c4
    · have e1 : ((k : Int) == 4) = false := by simp; omega
      clear r6 c3
      go_wp2
      go_meet
      case rel => first | exact ⟨rfl, rfl⟩ | cases c4
    · have e1 : ((k : Int) == 4) = true := by simp; omega
      obtain ⟨q6, hq6⟩ : ∃ q, n % 6 = q := ⟨_, rfl⟩
      rw [hq6] at c4 r6
      have r7 : (n : Int) % 6 = (q6 : Int) := by omega
      have e2 : ((q6 : Int) != 0) = true := by simp; omega
      have e3 : (q6 != 0) = true := by simpa using c4
      clear c3 hq6
      go_wp2
      go_meet
      case rel => first | exact ⟨rfl, rfl⟩ | cases c5
    · have e1 : ((k : Int) == 4) = true := by simp; omega
      have e2 : (n : Int).tmod 6 = 0 := by rw [r6, c4]; rfl
      have r7 : (n : Int) % 6 = 0 := by omega
      have e4 : (0 : Int) < (n : Int) := by omega
      have e5 : decide (0 < n) = true := decide_eq_true c5
      clear c3 c4 r6
      go_wp2
      go_meet
      case rel => first | exact ⟨rfl, rfl⟩ | exact ⟨by rw [e5], rfl⟩ | cases c6
    · have e1 : ((k : Int) == 4) = true := by simp; omega
      have e2 : (n : Int).tmod 6 = 0 := by rw [r6, c4]; rfl
      have r7 : (n : Int) % 6 = 0 := by omega
      have e3 : ¬ 0 < n := by omega
      clear c3 c4 r6 c5
      go_wp2
      go_meet
      case rel => first | exact ⟨rfl, rfl⟩ | cases c6
    · have e1 : ((k : Int) == 4) = true := by simp; omega
      have e2 : (n : Int).tmod 6 = 0 := by rw [r6, c4]; rfl
      have r7 : (n : Int) % 6 = 0 := by omega
      clear c3 c4 r6
      go_wp2
      go_meet
      case rel => first | exact ⟨rfl, rfl⟩ | cases c5
  case' rest => obtain ⟨rfl, hw⟩ := hcut; rw [hw]; clear hw
  go_wp2_with (first
    | (go_at_call 44; (with_reducible refine (broken_w HK.out 6 6 rfl).mono ?_); rintro e w8 ⟨rfl, hb8, hf8⟩
       have hX' := HX.out.fr hf8 (fun e => by have := hpl.out; omega)
       have hY' := HY.out.fr hf8 (fun e => by have := hpl.out; omega)
       have hF' : Fr (· = p) w w8 := HF.out.trans hf8 (fun _ _ h => h)
       clear HK HX HY HF z0 z1 z2 hlu hf8
       have HK := Lib.hid hb8
       have HX := Lib.hid hX'
       have HY := Lib.hid hY'
       have HF := Lib.hid hF'
       clear hb8 hX' hY' hF'
       obtain ⟨r0, r1, r2, r3, r4, r5, r6, r7, r8, r9, r10, r11, r12, r13, r14, r15⟩ := cells16 (HX.out : Blk _ _ _ zero16)
       have q0 := HY.out.cell 0
       have q1 := HY.out.cell 1
       have q2 := HY.out.cell 2
       simp only [List.getElem?_cons_zero, List.getElem?_cons_succ] at q0 q1 q2
       have yf := fun i => HX.out.frozen i
       have yg := fun i => HY.out.frozen i
       have l1 := HX.out.lt
       have l2 := HY.out.lt))
  obtain ⟨S1, S2⟩ := store16 (HX.out : Blk _ _ _ zero16) (.int .i64 0) (.int .i64 0) (.bool false) (.bool false) (.bool false) (.bool false) (.slice none 0 0) (.int .i64 0) (.int .i64 0) (.int .i64 0) (.bool false) (.int .i64 0) (.int .u32 0) (.slice none 0 0) (.int .i64 0) (.int .i64 0)
  obtain ⟨S3, S4⟩ := store3 (HY.out.fr S2 (fun e => by omega)) (.bool true) (.int .u32 6) (.int .i64 0)
  have s2 := S2.mono (S' := fun i => i = w.heap.size ∨ i = w.heap.size + 1) (fun i _ h => .inl h)
  have s4 := S4.mono (S' := fun i => i = w.heap.size ∨ i = w.heap.size + 1) (fun i _ h => .inr h)
  have hpl' := hpl.out
  exact bodyPost_ret (res_ffb (p := 2) (q := 3) (r := 4) rfl rfl rfl rfl rfl (S1.fr S4 (fun e => by omega)) S3) rfl ⟨none, 0, none, 0, rfl, Rd.nil _ _ _, Rd.nil _ _ _, (HK.out.fr S2 (fun e => by omega)).fr S4 (fun e => by omega), HF.out.trans (s2.trans s4 (fun _ _ h => h)) (fun i hi h => by rcases h with h | h <;> omega)⟩
end Go.Proofs.YtokbdkbljgdcpaaDoor

/- The document's Next: not even a head is held. -/
namespace Go.Proofs.YtokbdkbljgdcpaaDoor
open Go.RowKit Go.Own Go.Frm
set_option linter.unusedVariables false
set_option linter.unusedSimpArgs false
set_option maxRecDepth 100000
set_option maxHeartbeats 8000000 in
theorem rnx_short {w : World} {p m : Nat} {xs : List UInt8} {dn : Bool} (hb : Blk w p 55 [.string ⟨xs.toArray⟩, .int .i64 (m : Int), .bool dn]) (hx : xs.length ≤ 16777224) (h : dn = true ∨ dn = false ∧ xs.length < 9) : Calls Tryd.prog 22 #[.pointer (some ⟨p, 0, none⟩)] w (RNx p m zeroF noF false xs dn w) := by
  have X2 := Lib.hid (blk_new1 w (.cells #[.bool false, .int .u32 0, .int .i64 0] 46) 27 [.int .i64 0, .int .i64 0, .bool false, .bool false, .bool false, .bool false, .slice none 0 0, .int .i64 0, .int .i64 0, .int .i64 0, .bool false, .int .i64 0, .int .u32 0, .slice none 0 0, .int .i64 0, .int .i64 0])
  have Y2 := Lib.hid (blk_new2 w (.cells #[.int .i64 0, .int .i64 0, .bool false, .bool false, .bool false, .bool false, .slice none 0 0, .int .i64 0, .int .i64 0, .int .i64 0, .bool false, .int .i64 0, .int .u32 0, .slice none 0 0, .int .i64 0, .int .i64 0] 27) 46 [.bool false, .int .u32 0, .int .i64 0])
  have K2 := Lib.hid ((hb.alloc (.cells #[.int .i64 0, .int .i64 0, .bool false, .bool false, .bool false, .bool false, .slice none 0 0, .int .i64 0, .int .i64 0, .int .i64 0, .bool false, .int .i64 0, .int .u32 0, .slice none 0 0, .int .i64 0, .int .i64 0] 27)).alloc (.cells #[.bool false, .int .u32 0, .int .i64 0] 46))
  have B2 := Lib.hid (((Below.refl _ w).alloc (Nat.le_refl _) (.cells #[.int .i64 0, .int .i64 0, .bool false, .bool false, .bool false, .bool false, .slice none 0 0, .int .i64 0, .int .i64 0, .int .i64 0, .bool false, .int .i64 0, .int .u32 0, .slice none 0 0, .int .i64 0, .int .i64 0] 27)).alloc (by simp) (.cells #[.bool false, .int .u32 0, .int .i64 0] 46))
  have hpl := Lib.hid hb.lt
  clear hb
  go_enter Tryd.func22, Tryd.ntmps22
  go_upto_region 1 with (fail)
  generalize ((w.alloc (.cells #[.int .i64 0, .int .i64 0, .bool false, .bool false, .bool false, .bool false, .slice none 0 0, .int .i64 0, .int .i64 0, .int .i64 0, .bool false, .int .i64 0, .int .u32 0, .slice none 0 0, .int .i64 0, .int .i64 0] 27)).alloc (.cells #[.bool false, .int .u32 0, .int .i64 0] 46)) = u at K2 X2 Y2 B2 ⊢
  have HK := Lib.hid K2.out
  have HX := Lib.hid X2.out
  have HY := Lib.hid Y2.out
  have HF : Hid (Fr (· = p) w u) := Fr.of_below B2.out (fun i h1 h2 => absurd h1 (by omega))
  have z0 := HK.out.cell 0
  have z2 := HK.out.cell 2
  have hlu := HK.out.lt
  simp only [List.getElem?_cons_zero, List.getElem?_cons_succ] at z0 z2
  clear K2 X2 Y2 B2
  obtain ⟨r0, r1, r2, r3, r4, r5, r6, r7, r8, r9, r10, r11, r12, r13, r14, r15⟩ := cells16 (HX.out : Blk _ _ _ zero16)
  have q0 := HY.out.cell 0
  have q1 := HY.out.cell 1
  have q2 := HY.out.cell 2
  simp only [List.getElem?_cons_zero, List.getElem?_cons_succ] at q0 q1 q2
  have yf := fun i => HX.out.frozen i
  have yg := fun i => HY.out.frozen i
  have l1 := HX.out.lt
  have l2 := HY.out.lt
  rcases h with rfl | ⟨rfl, h9⟩
  · go_wp2
    obtain ⟨S1, S2⟩ := store16 (HX.out : Blk _ _ _ zero16) (.int .i64 0) (.int .i64 0) (.bool false) (.bool false) (.bool false) (.bool false) (.slice none 0 0) (.int .i64 0) (.int .i64 0) (.int .i64 0) (.bool false) (.int .i64 0) (.int .u32 0) (.slice none 0 0) (.int .i64 0) (.int .i64 0)
    obtain ⟨S3, S4⟩ := store3 (HY.out.fr S2 (fun e => by omega)) (.bool false) (.int .u32 0) (.int .i64 0)
    have s2 := S2.mono (S' := fun i => i = w.heap.size ∨ i = w.heap.size + 1) (fun i _ h => .inl h)
    have s4 := S4.mono (S' := fun i => i = w.heap.size ∨ i = w.heap.size + 1) (fun i _ h => .inr h)
    have hpl' := hpl.out
    exact bodyPost_ret (res_ffb (p := 2) (q := 3) (r := 4) rfl rfl rfl rfl rfl (S1.fr S4 (fun e => by omega)) S3) rfl ⟨none, 0, none, 0, rfl, Rd.nil _ _ _, Rd.nil _ _ _, (HK.out.fr S2 (fun e => by omega)).fr S4 (fun e => by omega), HF.out.trans (s2.trans s4 (fun _ _ h => h)) (fun i hi h => by rcases h with h | h <;> omega)⟩
  · go_wp2
    obtain ⟨S1, S2⟩ := store16 (HX.out : Blk _ _ _ zero16) (.int .i64 0) (.int .i64 0) (.bool false) (.bool false) (.bool false) (.bool false) (.slice none 0 0) (.int .i64 0) (.int .i64 0) (.int .i64 0) (.bool false) (.int .i64 0) (.int .u32 0) (.slice none 0 0) (.int .i64 0) (.int .i64 0)
    obtain ⟨S3, S4⟩ := store3 (HY.out.fr S2 (fun e => by omega)) (.bool false) (.int .u32 0) (.int .i64 0)
    have s2 := S2.mono (S' := fun i => i = w.heap.size ∨ i = w.heap.size + 1) (fun i _ h => .inl h)
    have s4 := S4.mono (S' := fun i => i = w.heap.size ∨ i = w.heap.size + 1) (fun i _ h => .inr h)
    have hpl' := hpl.out
    exact bodyPost_ret (res_ffb (p := 2) (q := 3) (r := 4) rfl rfl rfl rfl rfl (S1.fr S4 (fun e => by omega)) S3) rfl ⟨none, 0, none, 0, rfl, Rd.nil _ _ _, Rd.nil _ _ _, (HK.out.fr S2 (fun e => by omega)).fr S4 (fun e => by omega), HF.out.trans (s2.trans s4 (fun _ _ h => h)) (fun i hi h => by rcases h with h | h <;> omega)⟩
end Go.Proofs.YtokbdkbljgdcpaaDoor
