/- The contracts of hints' texts: reading.text, GetText, PutText. -/
import Derived.Test.YtdmheinepkeglaaDoorHGet
import Derived.Test.YtdmheinepkeglaaDoorHint2
namespace Go.Proofs.YtdmheinepkeglaaDoor
open Go.RowKit Go.Own Go.Huf Go.Hin
set_option linter.unusedVariables false

theorem str_nil : str [] = ⟨#[]⟩ := rfl
theorem gbeh_arg : ∀ (xs : List UInt8) (i acc : Nat), gbeh i acc xs ≠ .arg
  | [], _, _ => by simp [gbeh]
  | x :: r, i, acc => by
    rw [gbeh]
    split
    · simp
    · split
      · simp
      · split
        · simp
        · exact gbeh_arg r _ _
theorem getN_arg (m : Nat) (xs : List UInt8) : getN m xs ≠ .arg := by
  cases xs with
  | nil => simp [getN]
  | cons x r =>
    rw [getN]
    split
    · simp
    · exact gbeh_arg r _ _
theorem and128 : ∀ x, x < 256 → x &&& 128 = if x < 128 then 0 else 128 := by decide +kernel
theorem and128_lo (x : UInt8) (h : x.toNat < 128) : Go.bits BinOp.and IntKind.u8 (x.toNat : Int) 128 = 0 := by
  have hx := x.toNat_lt
  rw [show (128 : Int) = ((128 : Nat) : Int) from rfl, u8_and_nat _ _ (by omega) (by omega), and128 _ (by omega), if_pos h]
  rfl
theorem and128_hi (x : UInt8) (h : ¬ x.toNat < 128) : Go.bits BinOp.and IntKind.u8 (x.toNat : Int) 128 = 128 := by
  have hx := x.toNat_lt
  rw [show (128 : Int) = ((128 : Nat) : Int) from rfl, u8_and_nat _ _ (by omega) (by omega), and128 _ (by omega), if_neg h]
theorem RW.keep {w0 : World} {p : Nat} {A : Option Addr} {len cap k : Nat} {w w' : World} (h : RW w0 p A len cap k w) (hb : Below w.heap.size w w') : RW w0 p A len cap k w' :=
  ⟨h.at_.below hb (Blk.lt h.at_), h.below.trans (hb.mono h.below.size), h.ple, h.hk⟩
theorem numOct_n (x m v : Nat) (hx : x < 256) (h1 : 1 ≤ m) (h8 : m ≤ 8) (hv : v ≤ 2147483647) (L : List UInt8) (hL : putB (2 ^ m - 1) (topOf x m) v = L) (N : Nat) (hN : L.length = N) (zx : Int) (hzx : zx = (x : Int)) (z : Int) (hz : z = (m : Int)) (w : World) :
    Calls Tryd.prog 22 #[.int .u8 zx, .int .i64 z, .int .i64 (v : Int)] w fun e w' => ∃ A c, e = .returned (.slice A N c) ∧ w'.ownsRow w.heap.size 5 1 (.slice A N c) N (L.map BV) ∧ Below w.heap.size w w' := by
  subst hzx hN
  exact numOct_any x m v hx h1 h8 hv L hL z hz w
theorem own_base2 {w : World} {b B : Nat} {e : TypeId} {v : Value} {n : Nat} {xs : List Value} (h : w.ownsRow b e 1 v n xs) (hB : B ≤ b) : w.ownsRow B e 1 v n xs := own_base h (fun g hg => Nat.le_trans hB (h.lt g hg).1)
/-- what reading a text comes to -/
def TextPost (w0 : World) (p : Nat) (A : Option Addr) (len cap : Nat) : T → Ending → World → Prop
  | .ok t n, e, w' => e = .returned (.string (str t)) ∧ RW w0 p A len cap n w'
  | .err c, e, w' => ∃ u : Up, u.code = (c : Int) ∧ e = .panicked [{ v := u.val, recovered := false }] ∧ Below w0.heap.size w0 w'
theorem TextPost.of {w0 : World} {p : Nat} {A : Option Addr} {len cap : Nat} {g : T} {e : Ending} {w' : World} (h : TextPost w0 p A len cap g e w') {g' : T} (hg : g = g') : TextPost w0 p A len cap g' e w' := hg ▸ h
theorem Decode_v {w : World} {A : Option Addr} {len cap : Nat} {xs : List UInt8} {R0 : R} {v : Value} (hr : Rd w 1 A len (xs.map BV)) (hC : Cnt w) (hlc : len ≤ cap) (hcap : cap ≤ 9223372036854775807) (hlen : len ≤ 536870912) (most : Int) (hR : dec (bits8 xs) most = R0) (hv : resV R0 = v) :
    Calls Tryd.prog 37 #[.slice A len cap, .int .i64 most] w fun e w' => e = .returned v ∧ Below w.heap.size w w' := by
  subst hR hv
  exact Decode_any hr hC hlc hcap hlen most
set_option maxRecDepth 100000 in
set_option maxHeartbeats 4000000 in
theorem text_any {w0 w : World} {p : Nat} {A : Option Addr} {len cap : Nat} {xs : List UInt8} (hs : RS w0 A len cap xs) (hw : RW w0 p A len cap 0 w) (hC : Cnt w0) (hsz : ∀ size n, getN 7 xs = .ok size n → n + size ≤ len → size ≤ 536870912) (R0 : T) (hR : getT 9223372036854775807 xs = R0) :
    Calls Tryd.prog 27 #[.pointer (some ⟨p, 0, none⟩)] w fun e w' => TextPost w0 p A len cap R0 e w' := by
  have Hs := Lib.hid hs
  have Hw := Lib.hid hw
  have HC := Lib.hid hC
  have Hl := Lib.hid hs.len_
  obtain ⟨R1, hR1⟩ : ∃ R1, getN 7 xs = R1 := ⟨_, rfl⟩
  have HR1 := Lib.hid hR1
  clear hs hw hC
  rcases R1 with ⟨size, n⟩ | _ | _ | _
  · rw [getT_ok hR1] at hR
    have hn1 : 1 ≤ len := by
      obtain ⟨x, r, hx, h1, h2, _⟩ := getN_least hR1
      have := Hl.out
      omega
    have hnl : n ≤ len := by
      obtain ⟨x, r, hx, h1, h2, _⟩ := getN_least hR1
      have := Hl.out
      omega
    have hszl : size ≤ 2147483647 := by
      obtain ⟨x, r, hx, h1, h2, h3, h4⟩ := getN_least hR1
      exact h4
    by_cases hc : len < n + size
    · rw [if_pos (by rw [Hl.out]; exact hc)] at hR
      have HR := Lib.hid hR
      clear hR hR1 hsz
      go_enter Tryd.func27, Tryd.ntmps27
      go_wp2_with (first
        | (go_at_call 25; (with_reducible refine (number_any Hs.out Hw.out 7 (by omega) (by omega) 7 rfl _ HR1.out).mono ?_); rintro e w4 ⟨rfl, h4⟩; have H4 := Lib.hid h4; clear h4)
        | (go_at_call 36; (with_reducible refine (next_up Hs.out H4.out size _ rfl hc).mono ?_); rintro e w5 ⟨rfl, h5⟩; have H5 := Lib.hid h5; clear h5))
      exact ⟨rfl, TextPost.of (g := .err 2) ⟨.short, rfl, rfl, H5.out⟩ HR.out⟩
    · rw [if_neg (by rw [Hl.out]; exact hc)] at hR
      obtain ⟨x, hx, r, hxr⟩ : ∃ x, xs.headD 0 = x ∧ ∃ r, xs = x :: r := by
        obtain ⟨x, r, hx, _⟩ := getN_least hR1
        exact ⟨x, by rw [hx]; rfl, r, hx⟩
      rw [hx] at hR
      obtain ⟨b, o, u, rfl, hu, hcu⟩ := Hs.out.rd.at_ (k := 0) (by omega)
      have hux : u = .int .u8 (x.toNat : Int) := by
        rw [hxr] at hu
        exact (Option.some.inj hu).symm
      subst hux
      have hcu2 : w0.cell? ⟨b, o, none⟩ = some (.int .u8 (x.toNat : Int)) := hcu
      have hbl := World.block_lt_of_cell? w0 _ hcu2
      have Hcu := Lib.hid hcu2
      have hle : n + size ≤ len := by omega
      have hs5 := hsz size n hR1 hle
      obtain ⟨ys, hys⟩ : ∃ ys, (xs.drop n).take size = ys := ⟨_, rfl⟩
      rw [hys] at hR
      have Hys := Lib.hid hys
      clear hR1 hsz hu hcu hcu2 hx hxr hys hc
      by_cases h128 : x.toNat < 128
      · rw [if_pos h128] at hR
        have HR := Lib.hid hR
        have ha := and128_lo x h128
        have hab : ((0 : Int) == 0) = true := rfl
        clear hR h128
        go_enter Tryd.func27, Tryd.ntmps27
        go_wp2_with (first
          | (go_at_call 25; (with_reducible refine (number_any Hs.out Hw.out 7 (by omega) (by omega) 7 rfl _ HR1.out).mono ?_); rintro e w4 ⟨rfl, h4⟩; have H4 := Lib.hid h4; clear h4)
          | (go_at_call 36; (with_reducible refine (next_rd Hs.out H4.out size _ rfl hle).mono ?_); rintro e w5 ⟨A', c', rfl, hc1, hc2, hr5, h5⟩; rw [Hys.out] at hr5; have d0 := h5.at_.cell 0; simp only [List.getElem?_cons_zero] at d0; have hcx := (h5.below.cell (p := ⟨b, o, none⟩) hbl).trans Hcu.out; have H5 := Lib.hid h5; have hcv := conv_str (c := c') hr5; clear h5 hr5))
        go_ret
        exact TextPost.of (g := .ok ys (n + size)) ⟨rfl, H5.out⟩ HR.out
      · rw [if_neg h128] at hR
        have ha := and128_hi x h128
        obtain ⟨R2, hR2⟩ : ∃ R2, dec (bits8 ys) 9223372036854775807 = R2 := ⟨_, rfl⟩
        rw [hR2] at hR
        have HR2 := Lib.hid hR2
        clear hR2 h128
        have HR := Lib.hid hR
        clear hR
        rcases R2 with t | _ | _
        · go_enter Tryd.func27, Tryd.ntmps27
          go_wp2_with (first
            | (go_at_call 25; (with_reducible refine (number_any Hs.out Hw.out 7 (by omega) (by omega) 7 rfl _ HR1.out).mono ?_); rintro e w4 ⟨rfl, h4⟩; have H4 := Lib.hid h4; clear h4)
            | (go_at_call 36; (with_reducible refine (next_rd Hs.out H4.out size _ rfl hle).mono ?_); rintro e w5 ⟨A', c', rfl, hc1, hc2, hr5, h5⟩; rw [Hys.out] at hr5; have d0 := h5.at_.cell 0; simp only [List.getElem?_cons_zero] at d0; have hcx := (h5.below.cell (p := ⟨b, o, none⟩) hbl).trans Hcu.out; have hc3 : c' ≤ 9223372036854775807 := (by have := Hs.out.hcap; omega); have H5 := Lib.hid h5; have HC5 := Lib.hid (HC.out.below h5.below); have Hr5 := Lib.hid hr5; clear h5 hr5)
            | (go_at_call 37; (with_reducible refine (Decode_v Hr5.out HC5.out hc1 hc3 hs5 _ HR2.out (v := .tuple #[.string (str t), .int .i64 0]) rfl).mono ?_); rintro e w6 ⟨rfl, hb6⟩; have H6 := Lib.hid (H5.out.keep hb6); clear hb6))
          go_ret
          exact TextPost.of (g := .ok t (n + size)) ⟨rfl, H6.out⟩ HR.out
        · go_enter Tryd.func27, Tryd.ntmps27
          go_wp2_with (first
            | (go_at_call 25; (with_reducible refine (number_any Hs.out Hw.out 7 (by omega) (by omega) 7 rfl _ HR1.out).mono ?_); rintro e w4 ⟨rfl, h4⟩; have H4 := Lib.hid h4; clear h4)
            | (go_at_call 36; (with_reducible refine (next_rd Hs.out H4.out size _ rfl hle).mono ?_); rintro e w5 ⟨A', c', rfl, hc1, hc2, hr5, h5⟩; rw [Hys.out] at hr5; have d0 := h5.at_.cell 0; simp only [List.getElem?_cons_zero] at d0; have hcx := (h5.below.cell (p := ⟨b, o, none⟩) hbl).trans Hcu.out; have hc3 : c' ≤ 9223372036854775807 := (by have := Hs.out.hcap; omega); have H5 := Lib.hid h5; have HC5 := Lib.hid (HC.out.below h5.below); have Hr5 := Lib.hid hr5; clear h5 hr5)
            | (go_at_call 37; (with_reducible refine (Decode_v Hr5.out HC5.out hc1 hc3 hs5 _ HR2.out (v := .tuple #[.string ⟨#[]⟩, .int .i64 3]) rfl).mono ?_); rintro e w6 ⟨rfl, hb6⟩; have H6 := Lib.hid (H5.out.keep hb6); clear hb6))
          exact ⟨rfl, TextPost.of (g := .err 3) ⟨.err 3, rfl, rfl, H6.out.below⟩ HR.out⟩
        · go_enter Tryd.func27, Tryd.ntmps27
          go_wp2_with (first
            | (go_at_call 25; (with_reducible refine (number_any Hs.out Hw.out 7 (by omega) (by omega) 7 rfl _ HR1.out).mono ?_); rintro e w4 ⟨rfl, h4⟩; have H4 := Lib.hid h4; clear h4)
            | (go_at_call 36; (with_reducible refine (next_rd Hs.out H4.out size _ rfl hle).mono ?_); rintro e w5 ⟨A', c', rfl, hc1, hc2, hr5, h5⟩; rw [Hys.out] at hr5; have d0 := h5.at_.cell 0; simp only [List.getElem?_cons_zero] at d0; have hcx := (h5.below.cell (p := ⟨b, o, none⟩) hbl).trans Hcu.out; have hc3 : c' ≤ 9223372036854775807 := (by have := Hs.out.hcap; omega); have H5 := Lib.hid h5; have HC5 := Lib.hid (HC.out.below h5.below); have Hr5 := Lib.hid hr5; clear h5 hr5)
            | (go_at_call 37; (with_reducible refine (Decode_v Hr5.out HC5.out hc1 hc3 hs5 _ HR2.out (v := .tuple #[.string ⟨#[]⟩, .int .i64 4]) rfl).mono ?_); rintro e w6 ⟨rfl, hb6⟩; have H6 := Lib.hid (H5.out.keep hb6); clear hb6))
          exact ⟨rfl, TextPost.of (g := .err 4) ⟨.err 4, rfl, rfl, H6.out.below⟩ HR.out⟩
  · exact absurd HR1.out (getN_arg 7 xs)
  · have HR : Hid (.err 2 = R0) := by rw [getT_more hR1] at hR; exact hR
    clear hR hR1 hsz
    go_enter Tryd.func27, Tryd.ntmps27
    go_wp2_with (first
      | (go_at_call 25; (with_reducible refine (number_any Hs.out Hw.out 7 (by omega) (by omega) 7 rfl _ HR1.out).mono ?_); rintro e w4 ⟨rfl, h4⟩; have H4 := Lib.hid h4; clear h4))
    exact ⟨rfl, TextPost.of (g := .err 2) ⟨.short, rfl, rfl, H4.out⟩ HR.out⟩
  · have HR : Hid (.err 3 = R0) := by rw [getT_form hR1] at hR; exact hR
    clear hR hR1 hsz
    go_enter Tryd.func27, Tryd.ntmps27
    go_wp2_with (first
      | (go_at_call 25; (with_reducible refine (number_any Hs.out Hw.out 7 (by omega) (by omega) 7 rfl _ HR1.out).mono ?_); rintro e w4 ⟨rfl, h4⟩; have H4 := Lib.hid h4; clear h4))
    exact ⟨rfl, TextPost.of (g := .err 3) ⟨.sense, rfl, rfl, H4.out⟩ HR.out⟩

/-- what GetText answers -/
def textV : T → Value
  | .ok t n => .tuple #[.string (str t), .int .i64 (n : Int), .int .i64 0]
  | .err c => .tuple #[.string ⟨#[]⟩, .int .i64 0, .int .i64 (c : Int)]
set_option maxRecDepth 100000 in
set_option maxHeartbeats 2000000 in
theorem GetText_any {w : World} {A : Option Addr} {len cap : Nat} {xs : List UInt8} (hr : Rd w 1 A len (xs.map BV)) (hlc : len ≤ cap) (hcap : cap ≤ 9223372036854775807) (hC : Cnt w) (hsz : ∀ size n, getN 7 xs = .ok size n → n + size ≤ len → size ≤ 536870912) (R0 : T) (hR : getT 9223372036854775807 xs = R0) :
    Calls Tryd.prog 14 #[.slice A len cap] w fun e w' => e = .returned (textV R0) ∧ Below w.heap.size w w' := by
  have hmf : ∀ (fn : Fn) (first cap : Array Value) (w : World), (Instr.makeFunc fn first cap).run Tryd.prog w = .ok (.func fn first cap) w := fun _ _ _ _ => rfl
  have Hs : Hid (RS (w.alloc (.cells #[.int .i64 0] 24)) A len cap xs) := ⟨rd_alloc hr _, hlc, hcap⟩
  have HC : Hid (Cnt (w.alloc (.cells #[.int .i64 0] 24))) := hC.fr ((Fr.refl (fun _ => False) _).alloc _) (fun h => h)
  have Hsz := Lib.hid hsz
  have HR := Lib.hid hR
  clear hr hC hsz hR
  rcases R0 with ⟨t, n⟩ | c
  · go_enter_defers Tryd.func14, Tryd.ntmps14
    go_wp2_with (first
      | (go_at_call 27; (with_reducible refine (text_any Hs.out (rw_new w _ A len cap) HC.out Hsz.out _ HR.out).mono ?_); rintro e w5 ⟨rfl, h5⟩; obtain ⟨hc5, hz5⟩ := err_cell h5.below; have d1 := h5.at_.cell 1; simp only [List.getElem?_cons_zero, List.getElem?_cons_succ] at d1; have H5 := Lib.hid h5; clear h5))
    go_still_tail 5, (by kernel_rfl)
    change wpList _ _ _ _ _ w5.drew
    go_wp2
    refine leaves_cons (f := 26) (args := #[.pointer (some ⟨w.heap.size, 0, none⟩)]) (by simp) (by simp [go_sem]) ?_
    refine (catchT_idle ⟨w.heap.size, 0, none⟩ 0 (w5.setCell ⟨w.heap.size, 0, none⟩ (.int .i64 0)).drew (World.cell?_setCell_same w5 ⟨w.heap.size, 0, none⟩ (.int .i64 0) hc5) (by simp [hz5])).mono ?_
    rintro e u' w'' ⟨rfl, rfl, hc6, hf⟩
    have hf2 : Fr (fun i => i = (⟨w.heap.size, 0, none⟩ : Addr).block) w5 w'' := (((Fr.refl (fun i => i = (⟨w.heap.size, 0, none⟩ : Addr).block) w5).setCell (p := ⟨w.heap.size, 0, none⟩) (.inl rfl) _).drew).trans hf (fun _ _ h => h)
    simp [Leaves, settle, results, Tryd.results14, go_sem, hc6]
    exact ⟨rfl, end_err H5.out.below hf2⟩
  · go_enter_defers Tryd.func14, Tryd.ntmps14
    go_wp2_with (first
      | (go_at_call 27; (with_reducible refine (text_any Hs.out (rw_new w _ A len cap) HC.out Hsz.out _ HR.out).mono ?_); rintro e w5 ⟨u, hu, rfl, h5⟩; obtain ⟨hc5, hz5⟩ := err_cell h5; have Hu := Lib.hid hu; have H5 := Lib.hid h5; clear h5 hu))
    refine leaves_cons (f := 26) (args := #[.pointer (some ⟨w.heap.size, 0, none⟩)]) (by simp) (by simp [go_sem]) ?_
    refine (catchT_up ⟨w.heap.size, 0, none⟩ u 0 _ hc5 hz5).mono ?_
    rintro e u' w'' ⟨rfl, rfl, hc6, hf⟩
    rw [Hu.out] at hc6
    simp [Leaves, settle, results, Tryd.results14, go_sem, hc6]
    exact ⟨rfl, end_err H5.out hf⟩
set_option maxRecDepth 100000 in
set_option maxHeartbeats 2000000 in
theorem PutText_any (s : ByteArray) (ys : List UInt8) (hp : Pk (enc s.data.toList) ys) (hs : s.size ≤ 16777216) (L : List UInt8) (hL : putT s.data.toList ys = L) (N : Nat) (hN : L.length = N) (w : World) (hC : Cnt w) :
    Calls Tryd.prog 16 #[.string s] w fun e w' => ∃ A c, e = .returned (.slice A N c) ∧ w'.ownsRow w.heap.size 5 1 (.slice A N c) N (L.map BV) ∧ Below w.heap.size w w' := by
  have hsl : s.data.toList.length = s.size := by simp
  obtain ⟨K, hK⟩ : ∃ K, ys.length = K := ⟨_, rfl⟩
  have hK2 : ((enc s.data.toList).length + 7) / 8 = K := by rw [← hp.len, hK]
  have hst : str s.data.toList = s := str_self s
  have hs3 : s.size ≤ 140737488355328 := by omega
  unfold putT at hL
  rw [hK, hsl] at hL
  have HC := Lib.hid hC
  have HK := Lib.hid hK2
  have Hp := Lib.hid hp
  have Hsl := Lib.hid hsl
  have Hst := Lib.hid hst
  have Hyl := Lib.hid hK
  clear hC hK2 hp hsl hst
  by_cases hc : K < s.size
  · rw [if_pos hc] at hL
    have kb : decide (K < s.size) = true := decide_eq_true hc
    obtain ⟨P0, hP0⟩ : ∃ P0, putB (2 ^ 7 - 1) (topOf 128 7) K = P0 := ⟨_, rfl⟩
    rw [hP0] at hL
    have hKl : K ≤ 2147483647 := by omega
    have hpl : P0.length ≤ 6 := by rw [← hP0]; exact putB_le _ _ _ hKl
    obtain ⟨n0, hn0⟩ : ∃ n0, P0.length = n0 := ⟨_, rfl⟩
    have hNn : n0 + K = N := by rw [← hN, ← hL, List.length_append, hn0, hK]
    rw [hn0] at hpl
    have HP0 := Lib.hid hP0
    have Hn0 := Lib.hid hn0
    have HL := Lib.hid hL
    have HN := Lib.hid hNn
    clear hL hN hP0 hn0 hNn hK
    go_enter Tryd.func16, Tryd.ntmps16
    go_wp2_with (first
      | (go_at_call 29; (with_reducible refine (Size_n s K HK.out _ HC.out hs3).mono ?_); rintro e w1 ⟨rfl, hb1⟩; have H1 := Lib.hid hb1; clear hb1)
      | (go_at_call 22; (with_reducible refine (numOct_n 128 7 K (by omega) (by omega) (by omega) hKl P0 HP0.out n0 Hn0.out 128 rfl 7 rfl _).mono ?_); rintro e w2 ⟨A2, c2, rfl, ho2, hb2⟩; have H2 := Lib.hid (H1.out.trans (hb2.mono H1.out.size)); have Ho2 := Lib.hid (own_base2 ho2 H1.out.size); clear ho2 hb2)
      | (go_at_call 30; (with_reducible refine (Encode_is s ys K Hyl.out Hp.out _ (HC.out.below H2.out) hs).mono ?_); rintro e w3 ⟨A3, c3, rfl, ho3, hb3⟩; have H3 := Lib.hid (H2.out.trans (hb3.mono H2.out.size)); have Ho3 := Lib.hid (own_fr (S := fun i => w2.heap.size ≤ i) Ho2.out (Fr.of_below hb3 (fun i _ h => h)) (fun g hg h => by have := own_lt Ho2.out hg; omega)); have Hr3 := Lib.hid (Rd.of_own ho3); clear ho3 hb3)
      | (at_builtin
         refine wpList_append_rd rfl (.tmp 11) (.tmp 13) 23 rfl E31 (.slice A2 n0 c2) n0 (P0.map BV) rfl Ho3.out A3 K c3 (ys.map BV) rfl Hr3.out (BV_one _) (by omega) (by unfold maxLen; omega) H3.out.size ?_
         intro A4 c4 w4 ho4 hf4 ho2
         rw [HN.out, ← List.map_append, HL.out] at ho4
         have Ho4 := Lib.hid ho4
         have Hf4 := Lib.hid hf4
         clear ho4 hf4 ho2))
    go_ret
    exact ⟨A4, c4, by rw [← HN.out]; rfl, Ho4.out, H3.out.trans (Hf4.out.below H3.out.size (fun i _ e => (Ho3.out.lt i e.symm).1))⟩
  · rw [if_neg hc] at hL
    have kb : decide (K < s.size) = false := decide_eq_false hc
    obtain ⟨P0, hP0⟩ : ∃ P0, putB (2 ^ 7 - 1) (topOf 0 7) s.size = P0 := ⟨_, rfl⟩
    rw [hP0] at hL
    have hKl : s.size ≤ 2147483647 := by omega
    have hpl : P0.length ≤ 6 := by rw [← hP0]; exact putB_le _ _ _ hKl
    obtain ⟨n0, hn0⟩ : ∃ n0, P0.length = n0 := ⟨_, rfl⟩
    have hNn : n0 + s.size = N := by rw [← hN, ← hL, List.length_append, hn0, Hsl.out]
    rw [hn0] at hpl
    have HP0 := Lib.hid hP0
    have Hn0 := Lib.hid hn0
    have HL := Lib.hid hL
    have HN := Lib.hid hNn
    clear hL hN hP0 hn0 hNn hK hc
    go_enter Tryd.func16, Tryd.ntmps16
    go_wp2_with (first
      | (go_at_call 29; (with_reducible refine (Size_n s K HK.out _ HC.out hs3).mono ?_); rintro e w1 ⟨rfl, hb1⟩; have H1 := Lib.hid hb1; clear hb1)
      | (go_at_call 22; (with_reducible refine (numOct_n 0 7 s.size (by omega) (by omega) (by omega) hKl P0 HP0.out n0 Hn0.out 0 rfl 7 rfl _).mono ?_); rintro e w2 ⟨A2, c2, rfl, ho2, hb2⟩; have H2 := Lib.hid (H1.out.trans (hb2.mono H1.out.size)); have Ho2 := Lib.hid (own_base2 ho2 H1.out.size); clear ho2 hb2)
      | (at_builtin
         refine wpList_append_str rfl (.tmp 17) (.tmp 18) rfl (.slice A2 n0 c2) n0 P0 rfl Ho2.out s.data.toList s.size (by rw [Hst.out]; rfl) Hsl.out (by omega) H2.out.size ?_
         intro A4 c4 w4 ho4 hf4
         rw [HN.out, HL.out] at ho4
         have Ho4 := Lib.hid ho4
         have Hf4 := Lib.hid hf4
         clear ho4 hf4))
    go_ret
    exact ⟨A4, c4, by rw [← HN.out]; rfl, Ho4.out, H2.out.trans (Hf4.out.below H2.out.size (fun i _ e => (Ho2.out.lt i e.symm).1))⟩
end Go.Proofs.YtdmheinepkeglaaDoor
