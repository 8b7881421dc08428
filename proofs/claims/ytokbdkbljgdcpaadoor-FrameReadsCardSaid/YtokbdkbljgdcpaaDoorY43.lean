/- Several texts in one: FF. -/
import Derived.Test.YtokbdkbljgdcpaaDoorY40
import Derived.Test.YtokbdkbljgdcpaaDoorY42
import Derived.Test.YtokbdkbljgdcpaaDoorY25
/- Next: where nothing whole is held. -/
namespace Go.Proofs.YtokbdkbljgdcpaaDoor
open Go.RowKit Go.Own Go.Frm
set_option linter.unusedVariables false
set_option maxRecDepth 100000
section
variable {w : World}
set_option maxHeartbeats 4000000 in
theorem next_short {p m : Nat} {st : Pst} {F : Nat → Prop} (h : PFo p m st w F) (hs : st.held.length < 9) : Calls Tryd.prog 21 #[.pointer (some ⟨p, 0, none⟩)] w fun e w' => e = .returned (.tuple #[frV zeroF (.slice none 0 0) (.slice none 0 0), ftV noF, .bool false]) ∧ Below w.heap.size w w' := by
  obtain ⟨v, G, h1, h2, h3, h4, h5, h6, rfl⟩ := h
  obtain ⟨A, c, rfl, hrd, h7, h8, hAG⟩ := h2.rd
  obtain ⟨n, hn⟩ : ∃ n, st.held.length = n := ⟨_, rfl⟩
  rw [hn] at h1 hs
  have z0 := h1.cell 0
  simp only [List.getElem?_cons_zero] at z0
  have hl := h1.lt
  clear h1 h2 h3 h4 h7 h8 hAG hrd
  have t1 : decide ((n : Int) < 9) = true := decide_eq_true (by omega)
  go_enter Tryd.func21, Tryd.ntmps21
  go_wp2
  exact bodyPost_ret (res_ffb (p := 2) (q := 3) (r := 4) rfl rfl rfl rfl rfl (blk_new1 w _ 27 zero16) (blk_new2 w _ 46 [.bool false, .int .u32 0, .int .i64 0])) rfl ⟨rfl, ((Below.refl _ w).alloc (Nat.le_refl _) _).alloc (by simp) _⟩
set_option maxHeartbeats 4000000 in
theorem next_part {p m : Nat} {st : Pst} {F : Nat → Prop} (hG : Gl w) (h : PFo p m st w F) (hs : 9 ≤ st.held.length) (hm : ¬ m < hdN st.held) (hsz : st.held.length < 9 + hdN st.held) : Calls Tryd.prog 21 #[.pointer (some ⟨p, 0, none⟩)] w fun e w' => e = .returned (.tuple #[frV zeroF (.slice none 0 0) (.slice none 0 0), ftV noF, .bool false]) ∧ Below w.heap.size w w' := by
  obtain ⟨v, G, h1, h2, h3, h4, h5, h6, rfl⟩ := h
  obtain ⟨A, c, rfl, hrd, h7, h8, hAG⟩ := h2.rd
  have hAl : ∀ a, A = some a → a.block < w.heap.size := fun a ha => h2.lt (hAG a ha)
  obtain ⟨xs, hxs⟩ : ∃ xs, st.held = xs := ⟨_, rfl⟩
  rw [hxs] at h1 h2 h4 h7 hrd hs hm hsz
  obtain ⟨n, hn⟩ : ∃ n, xs.length = n := ⟨_, rfl⟩
  rw [hn] at h1 h7 hrd hs hsz h4
  obtain ⟨hd, hhd⟩ : ∃ hd, hdN xs = hd := ⟨_, rfl⟩
  rw [hhd] at hm hsz
  have z0 := h1.cell 0
  have z1 := h1.cell 1
  simp only [List.getElem?_cons_zero, List.getElem?_cons_succ] at z0 z1
  have hl := h1.lt
  have B2 : Below w.heap.size w ((w.alloc (.cells #[.int .i64 0, .int .i64 0, .bool false, .bool false, .bool false, .bool false, .slice none 0 0, .int .i64 0, .int .i64 0, .int .i64 0, .bool false, .int .i64 0, .int .u32 0, .slice none 0 0, .int .i64 0, .int .i64 0] 27)).alloc (.cells #[.bool false, .int .u32 0, .int .i64 0] 46)) := ((Below.refl _ w).alloc (Nat.le_refl _) _).alloc (by simp) _
  have C := (headOf_c (hrd.below B2) h7 h8 hs (fun a ha => by have := hAl a ha; simp; omega) (hG.below B2))
  rw [hhd] at C
  have HC := Lib.hid C
  have HB2 := Lib.hid B2
  have Y1 := Lib.hid (blk_new1 w (.cells #[.bool false, .int .u32 0, .int .i64 0] 46) 27 zero16)
  have Y2 := Lib.hid (blk_new2 w (.cells #[.int .i64 0, .int .i64 0, .bool false, .bool false, .bool false, .bool false, .slice none 0 0, .int .i64 0, .int .i64 0, .int .i64 0, .bool false, .int .i64 0, .int .u32 0, .slice none 0 0, .int .i64 0, .int .i64 0] 27) 46 [.bool false, .int .u32 0, .int .i64 0])
  have H1 := Lib.hid h1
  have Hn9 := Lib.hid hs
  have Hhd := Lib.hid hhd
  have t1 : ¬ ((n : Int) < 9) := by omega
  have t2 : ¬ (m < hd) := hm
  have wn : IntKind.i64.wrap (9 + (hd : Int)) = ((9 + hd : Nat) : Int) := by rw [IntKind.wrap_i64]; omega
  have t3 : n < 9 + hd := hsz
  clear h1 h2 h3 h7 h8 hAG hrd C B2 hxs hhd hs hm hAl hG
  go_enter Tryd.func21, Tryd.ntmps21
  go_wp2_with (first
    | (go_at_call 38; (with_reducible refine (HC.out).mono ?_); rintro e w1 ⟨rfl, hb⟩
       have HB1 := Lib.hid (HB2.out.trans (hb.mono (by simp; omega)))
       have X1 := Lib.hid (blk_below Y1.out hb)
       have X2 := Lib.hid (blk_below Y2.out hb)
       have P1 := Lib.hid (blk_below ((H1.out.alloc _).alloc _) hb)
       have z0 := P1.out.cell 0
       have z1 := P1.out.cell 1
       simp only [List.getElem?_cons_zero, List.getElem?_cons_succ] at z0 z1
       have L0 := P1.out.lt
       have L1 := X1.out.lt
       have L2 := X2.out.lt
       obtain ⟨r0, r1, r2, r3, r4, r5, r6, r7, r8, r9, r10, r11, r12, r13, r14, r15⟩ := cells16 X1.out
       have u0 : w1.cell? ⟨w.heap.size + 1, 0, none⟩ = some (.bool false) := X2.out.cell 0
       have u1 : w1.cell? ⟨w.heap.size + 1, 1, none⟩ = some (.int .u32 0) := X2.out.cell 1
       have u2 : w1.cell? ⟨w.heap.size + 1, 2, none⟩ = some (.int .i64 0) := X2.out.cell 2
       have f1 := X1.out.frozen
       have f2 : ∀ i, w1.frozen? ⟨w.heap.size + 1, i, none⟩ = false := X2.out.frozen
       clear hb))
  go_quiet (fail)
  go_wp2
  have HB4 : Below w.heap.size w ((w1.alloc (.cells #[.int .i64 (hd : Int), .int .i64 (hdK xs : Int), .int .i64 (hdF xs : Int), .int .i64 (hdS xs : Int), .int .i64 (hpN (hdK xs) (hdF xs) : Int)] 85)).drewN nq) := below_drewN (HB1.out.alloc HB1.out.size _) nq
  obtain ⟨S1, S2⟩ := store16 (w := (w1.alloc (.cells #[.int .i64 (hd : Int), .int .i64 (hdK xs : Int), .int .i64 (hdF xs : Int), .int .i64 (hdS xs : Int), .int .i64 (hpN (hdK xs) (hdF xs) : Int)] 85)).drewN nq) (X1.out.alloc _) (.int .i64 0) (.int .i64 0) (.bool false) (.bool false) (.bool false) (.bool false) (.slice none 0 0) (.int .i64 0) (.int .i64 0) (.int .i64 0) (.bool false) (.int .i64 0) (.int .u32 0) (.slice none 0 0) (.int .i64 0) (.int .i64 0)
  obtain ⟨S3, S4⟩ := store3 (Blk.fr (w := (w1.alloc (.cells #[.int .i64 (hd : Int), .int .i64 (hdK xs : Int), .int .i64 (hdF xs : Int), .int .i64 (hdS xs : Int), .int .i64 (hpN (hdK xs) (hdF xs) : Int)] 85)).drewN nq) (X2.out.alloc _) S2 (fun e => by omega)) (.bool false) (.int .u32 0) (.int .i64 0)
  refine bodyPost_ret (res_ffb (p := 2) (q := 3) (r := 4) rfl rfl rfl rfl rfl (S1.fr S4 (fun e => by omega)) S3) rfl ⟨rfl, ?_⟩
  exact (HB4.trans (S2.below HB4.size (fun i _ e => by omega))).trans (S4.below (Nat.le_trans HB4.size S2.size) (fun i _ e => by omega))
end
end Go.Proofs.YtokbdkbljgdcpaaDoor
