/- Several texts in one: FG. -/
import Derived.Test.YtokbdkbljgdcpaaDoorY43
/- Next: a frame that is too long. -/
namespace Go.Proofs.YtokbdkbljgdcpaaDoor
open Go.RowKit Go.Own Go.Frm
set_option linter.unusedVariables false
set_option maxRecDepth 100000
section
variable {w : World}
theorem told_breakZ {p : Nat} {v m d : Value} (hb : Blk w p 82 [v, m, d]) :
    Calls Tryd.prog 39 #[.pointer (some ⟨p, 0, none⟩), .agg #[.int .i64 0, .int .i64 0, .bool false, .bool false, .bool false, .bool false, .slice none 0 0, .int .i64 0, .int .i64 0, .int .i64 0, .bool false, .int .i64 0, .int .u32 0, .slice none 0 0, .int .i64 0, .int .i64 0], .agg #[.bool true, .int .u32 6, .int .i64 0]] w fun en w' => en = .returned (.tuple #[.agg #[.int .i64 0, .int .i64 0, .bool false, .bool false, .bool false, .bool false, .slice none 0 0, .int .i64 0, .int .i64 0, .int .i64 0, .bool false, .int .i64 0, .int .u32 0, .slice none 0 0, .int .i64 0, .int .i64 0], .agg #[.bool true, .int .u32 6, .int .i64 0], .bool true]) ∧ Blk w' p 82 [.slice none 0 0, m, .bool true] ∧ Fr (· = p) w w' :=
  told_break zeroF none none 0 0 0 0 6 hb
set_option maxHeartbeats 4000000 in
theorem next_long {p m : Nat} {st : Pst} {F : Nat → Prop} (hG : Gl w) (h : PFo p m st w F) (hs : 9 ≤ st.held.length) (hm : m < hdN st.held) : Calls Tryd.prog 21 #[.pointer (some ⟨p, 0, none⟩)] w fun e w' => e = .returned (.tuple #[frV zeroF (.slice none 0 0) (.slice none 0 0), ftV (conF 6), .bool true]) ∧ Blk w' p 82 [.slice none 0 0, .int .i64 (m : Int), .bool true] ∧ Fr (· = p) w w' := by
  obtain ⟨v, G, h1, h2, h3, h4, h5, h6, rfl⟩ := h
  obtain ⟨A, c, rfl, hrd, h7, h8, hAG⟩ := h2.rd
  have hAl : ∀ a, A = some a → a.block < w.heap.size := fun a ha => h2.lt (hAG a ha)
  obtain ⟨xs, hxs⟩ : ∃ xs, st.held = xs := ⟨_, rfl⟩
  rw [hxs] at h1 h2 h4 h7 hrd hs hm
  obtain ⟨n, hn⟩ : ∃ n, xs.length = n := ⟨_, rfl⟩
  rw [hn] at h1 h7 hrd hs h4
  obtain ⟨hd, hhd⟩ : ∃ hd, hdN xs = hd := ⟨_, rfl⟩
  rw [hhd] at hm
  have z0 := h1.cell 0
  have z1 := h1.cell 1
  simp only [List.getElem?_cons_zero, List.getElem?_cons_succ] at z0 z1
  have hl := h1.lt
  have B2 : Below w.heap.size w ((w.alloc (.cells #[.int .i64 0, .int .i64 0, .bool false, .bool false, .bool false, .bool false, .slice none 0 0, .int .i64 0, .int .i64 0, .int .i64 0, .bool false, .int .i64 0, .int .u32 0, .slice none 0 0, .int .i64 0, .int .i64 0] 27)).alloc (.cells #[.bool false, .int .u32 0, .int .i64 0] 46)) := ((Below.refl _ w).alloc (Nat.le_refl _) _).alloc (by simp) _
  have C := (headOf_c (hrd.below B2) h7 h8 hs (fun a ha => by have := hAl a ha; simp; omega) (hG.below B2))
  rw [hhd] at C
  have HC := Lib.hid C
  have HB2 := Lib.hid B2
  have Y1 := Lib.hid (blk_new1 w (.cells #[.bool false, .int .u32 0, .int .i64 0] 46) 27 zero16)
  have Y2 := Lib.hid (blk_new2 w (.cells #[.int .i64 0, .int .i64 0, .bool false, .bool false, .bool false, .bool false, .slice none 0 0, .int .i64 0, .int .i64 0, .int .i64 0, .bool false, .int .i64 0, .int .u32 0, .slice none 0 0, .int .i64 0, .int .i64 0] 27) 46 [.bool false, .int .u32 0, .int .i64 0])
  have H1 := Lib.hid h1
  have Hn9 := Lib.hid hs
  have Hhd := Lib.hid hhd
  have t1 : ¬ ((n : Int) < 9) := by omega
  have t2 : m < hd := hm
  clear h1 h2 h3 h7 h8 hAG hrd C B2 hxs hhd hs hm hAl hG
  go_enter Tryd.func21, Tryd.ntmps21
  go_wp2_with (first
    | (go_at_call 38; (with_reducible refine (HC.out).mono ?_); rintro e w1 ⟨rfl, hb⟩
       have HB1 := Lib.hid (HB2.out.trans (hb.mono (by simp; omega)))
       have X1 := Lib.hid (blk_below Y1.out hb)
       have X2 := Lib.hid (blk_below Y2.out hb)
       have P1 := Lib.hid (blk_below ((H1.out.alloc _).alloc _) hb)
       have z0 := P1.out.cell 0
       have z1 := P1.out.cell 1
       simp only [List.getElem?_cons_zero, List.getElem?_cons_succ] at z0 z1
       have L0 := P1.out.lt
       have L1 := X1.out.lt
       have L2 := X2.out.lt
       obtain ⟨r0, r1, r2, r3, r4, r5, r6, r7, r8, r9, r10, r11, r12, r13, r14, r15⟩ := cells16 X1.out
       have u0 : w1.cell? ⟨w.heap.size + 1, 0, none⟩ = some (.bool false) := X2.out.cell 0
       have u1 : w1.cell? ⟨w.heap.size + 1, 1, none⟩ = some (.int .u32 0) := X2.out.cell 1
       have u2 : w1.cell? ⟨w.heap.size + 1, 2, none⟩ = some (.int .i64 0) := X2.out.cell 2
       have f1 := X1.out.frozen
       have f2 : ∀ i, w1.frozen? ⟨w.heap.size + 1, i, none⟩ = false := X2.out.frozen
       clear hb))
  go_quiet (fail)
  have z0' := z0
  have HP4 : Hid (Blk ((w1.alloc (.cells #[.int .i64 (hd : Int), .int .i64 (hdK xs : Int), .int .i64 (hdF xs : Int), .int .i64 (hdS xs : Int), .int .i64 (hpN (hdK xs) (hdF xs) : Int)] 85)).drewN nq) p 82 [.slice A n c, .int .i64 (m : Int), .bool st.done]) := P1.out.alloc _
  have HX4 : Hid (Blk ((w1.alloc (.cells #[.int .i64 (hd : Int), .int .i64 (hdK xs : Int), .int .i64 (hdF xs : Int), .int .i64 (hdS xs : Int), .int .i64 (hpN (hdK xs) (hdF xs) : Int)] 85)).drewN nq) w.heap.size 27 zero16) := X1.out.alloc _
  have HY4 : Hid (Blk ((w1.alloc (.cells #[.int .i64 (hd : Int), .int .i64 (hdK xs : Int), .int .i64 (hdF xs : Int), .int .i64 (hdS xs : Int), .int .i64 (hpN (hdK xs) (hdF xs) : Int)] 85)).drewN nq) (w.heap.size + 1) 46 [.bool false, .int .u32 0, .int .i64 0]) := X2.out.alloc _
  have HB4 : Hid (Below w.heap.size w ((w1.alloc (.cells #[.int .i64 (hd : Int), .int .i64 (hdK xs : Int), .int .i64 (hdF xs : Int), .int .i64 (hdS xs : Int), .int .i64 (hpN (hdK xs) (hdF xs) : Int)] 85)).drewN nq)) := below_drewN (HB1.out.alloc HB1.out.size _) nq
  clear r0 r1 r2 r3 r4 r5 r6 r7 r8 r9 r10 r11 r12 r13 r14 r15 u0 u1 u2 f1 f2
  generalize (w1.alloc (.cells #[.int .i64 (hd : Int), .int .i64 (hdK xs : Int), .int .i64 (hdF xs : Int), .int .i64 (hdS xs : Int), .int .i64 (hpN (hdK xs) (hdF xs) : Int)] 85)).drewN nq = w4 at HP4 HX4 HY4 HB4 ⊢
  go_wp2_with (first
    | (go_at_call 40; (with_reducible refine (faultOf_any 6 0 _).mono ?_); rintro e w5 ⟨rfl, hb⟩
       have P5 := Lib.hid (blk_below HP4.out hb)
       have X5 := Lib.hid (blk_below HX4.out hb)
       have Y5 := Lib.hid (blk_below HY4.out hb)
       have HB5 := Lib.hid (HB4.out.trans (hb.mono HB4.out.size))
       clear hb)
    | (go_at_call 39; (with_reducible refine (told_breakZ P5.out).mono ?_); rintro e w6 ⟨rfl, hp6, f6⟩
       have P6 := Lib.hid hp6
       have X6 := Lib.hid (X5.out.fr f6 (fun e => by have e' : w.heap.size = p := e; omega))
       have Y6 := Lib.hid (Y5.out.fr f6 (fun e => by have e' : w.heap.size + 1 = p := e; omega))
       have HF6 := Lib.hid (Fr.trans (Fr.of_below (S := (· = p)) HB5.out (fun i h1 h2 => by omega)) f6 (fun _ _ h => h))
       obtain ⟨r0, r1, r2, r3, r4, r5, r6, r7, r8, r9, r10, r11, r12, r13, r14, r15⟩ := cells16 X6.out
       have u0 : w6.cell? ⟨w.heap.size + 1, 0, none⟩ = some (.bool false) := Y6.out.cell 0
       have u1 : w6.cell? ⟨w.heap.size + 1, 1, none⟩ = some (.int .u32 0) := Y6.out.cell 1
       have u2 : w6.cell? ⟨w.heap.size + 1, 2, none⟩ = some (.int .i64 0) := Y6.out.cell 2
       have f1 := X6.out.frozen
       have f2 : ∀ i, w6.frozen? ⟨w.heap.size + 1, i, none⟩ = false := Y6.out.frozen
       clear hp6 f6))
  obtain ⟨S1, S2⟩ := store16 (w := w6) X6.out (.int .i64 0) (.int .i64 0) (.bool false) (.bool false) (.bool false) (.bool false) (.slice none 0 0) (.int .i64 0) (.int .i64 0) (.int .i64 0) (.bool false) (.int .i64 0) (.int .u32 0) (.slice none 0 0) (.int .i64 0) (.int .i64 0)
  obtain ⟨S3, S4⟩ := store3 (Blk.fr Y6.out S2 (fun e => by omega)) (.bool true) (.int .u32 6) (.int .i64 0)
  have n1 : ¬ p = w.heap.size := by omega
  have n2 : ¬ p = w.heap.size + 1 := by omega
  refine bodyPost_ret (res_ffb (p := 2) (q := 3) (r := 4) rfl rfl rfl rfl rfl (S1.fr S4 (fun e => by omega)) S3) rfl ⟨rfl, (P6.out.fr S2 n1).fr S4 n2, ?_⟩
  exact (HF6.out.trans S2 (fun i hi e => by omega)).trans S4 (fun i hi e => by omega)
end
end Go.Proofs.YtokbdkbljgdcpaaDoor
