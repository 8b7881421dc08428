/- The document's table: Add. -/
import Derived.Test.YtefjjmhbbcganaaTblR
namespace Go.Proofs.Ytefjjmhbbcganaa
open Go.RowKit Go.Own Go.Tbl
set_option linter.unusedVariables false
attribute [local go_sem ↓] Go.wp_at_zero Go.wp_at_succ

theorem rFSize_c (a b : ByteArray) (nv : Bool) (ha : a.size ≤ 140737488355328) (hb : b.size ≤ 140737488355328) (N : Nat) (hN : a.size + b.size + 32 = N) (w : World) : Calls Try.prog 14 #[.agg #[.string a, .string b, .bool nv]] w fun e w' => e = .returned (.int .i64 (N : Int)) ∧ Below w.heap.size w w' :=
  rFSize_n ⟨a, b, nv⟩ ⟨ha, hb⟩ N hN w
theorem RT.alloc {w : World} {p : Nat} {A : Option Addr} {n c h : Nat} {l : List Fld} (t : RT w p A n c h l) (o : Obj) : RT (w.alloc o) p A n c h l :=
  t.fr (S := fun _ => False) ((Fr.refl _ _).alloc o) (fun h => h) (fun _ _ h => h)
theorem len_szs (l : List Fld) : l.length * 32 ≤ szs l := by
  induction l with
  | nil => simp [szs]
  | cons f r ih => rw [szs, List.length_cons]; have := sz_pos f; omega
theorem own_lit3 (w : World) (f : Fld) : (w.alloc (.cells #[.string f.n, .string f.v, .bool false] 23)).ownsRow w.heap.size 23 3 (.slice (some ⟨w.heap.size, 0, none⟩) 1 1) 1 (fcellsL [f.plain]) := by
  have := own_of_blk (n := 1) (size := 3) (cap := 1) (Blk.new w 23 [.string f.n, .string f.v, .bool false]) rfl (by omega) (by simp [maxLen])
  exact own_up this (by intro g hg; simp [Value.ownBlock] at hg; omega)
theorem own_len {w : World} {base : Nat} {e : TypeId} {A : Option Addr} {n c size : Nat} {xs : List Value} (h : w.ownsRow base e size (.slice A n c) n xs) : n ≤ c ∧ c ≤ 9223372036854775807 := by
  obtain ⟨A', c', he, h1, h2, _⟩ := own_shape h
  simp only [Value.slice.injEq] at he
  obtain ⟨_, _, rfl⟩ := he
  exact ⟨h1, h2⟩
set_option maxRecDepth 100000 in
set_option maxHeartbeats 4000000 in
theorem rAdd_any {w : World} {p : Nat} {A : Option Addr} {n c h : Nat} {l : List Fld} (t : RT w p A n c h l) (hA : ∀ a, A = some a → a.block ≠ p) (hsz : szs l ≤ 65536) (hh : h ≤ 65536) (f : Fld) (hf : fok f) (L : List Fld) (hL : addF h f l = L) :
    Calls Try.prog 19 #[.pointer (some ⟨p, 0, none⟩), .agg #[.string f.n, .string f.v, .bool f.nv]] w fun e w' => ∃ A' k c', e = .returned (.tuple #[]) ∧ RT w' p A' k c' h L ∧ (∀ a, A' = some a → a.block ≠ p) ∧ Fr (· = p) w w' := by
  obtain ⟨N, hN⟩ : ∃ N, sz f = N := ⟨_, rfl⟩
  have hN2 : f.n.size + f.v.size + 32 = N := hN
  have hNl : N ≤ 281474976710688 := by have := hf.1; have := hf.2; omega
  have Ht1 : Hid (RT (w.alloc (.cells #[.string f.n, .string f.v, .bool false] 23)) p A n c h l) := t.alloc _
  have Hx1 : Hid (Blk (w.alloc (.cells #[.string f.n, .string f.v, .bool false] 23)) w.heap.size 23 [.string f.n, .string f.v, .bool false]) := Blk.new w 23 [.string f.n, .string f.v, .bool false]
  have HA := Lib.hid hA
  have hsz2 : szs l ≤ 4611686018427387904 := by omega
  have hh2 : h ≤ 4611686018427387904 := by omega
  have hN3 : N ≤ 4611686018427387903 := by omega
  have Hsz := Lib.hid hsz2
  have hfn : f.n.size ≤ 140737488355328 := hf.1
  have hfv : f.v.size ≤ 140737488355328 := hf.2
  have Hfo := Lib.hid hf
  have HN2 := Lib.hid hN2
  have hp := Blk.lt t.at_
  have HL : Hid (addF h f l = L) := hL
  have hpw : p ≠ w.heap.size := by omega
  clear t hA hsz2 hN2 hL
  by_cases hc : h < N
  · have hc2 : (h : Int) < (N : Int) := by omega
    have kb : decide (h < N) = true := decide_eq_true hc
    have hend : fitL h N l = L := by
      rw [← HL.out, addF, hN, if_neg (by omega), fitL, if_neg (by omega)]
    have Hend := Lib.hid hend
    clear hend hc
    go_enter Try.func19, Try.ntmps19
    go_wp2_with (first
      | (go_at_call 14; (with_reducible refine (rFSize_c f.n f.v false hfn hfv N HN2.out _).mono ?_); rintro e w2 ⟨rfl, hb2⟩; have Ht2 := Lib.hid (Ht1.out.below hb2); have Hx2 := Lib.hid (Hx1.out.below hb2 (Blk.lt Hx1.out)); have Hb2 := Lib.hid (((Below.refl _ _).alloc (Nat.le_refl _) _).trans (hb2.mono (by simp))); clear hb2)
      | (go_at_call 36; (with_reducible refine (rfit_any Ht2.out HA.out Hsz.out hh2 N hN3 _ rfl).mono ?_); rintro e w3 ⟨k, rfl, h3, hf3⟩; have H3 := Lib.hid h3; have Hx3 := Lib.hid (Hx2.out.fr hf3 (Ne.symm hpw)); have HF3 := Lib.hid ((Fr.of_below (S := fun i => i = p) Hb2.out (fun i h1 h2 => by omega)).trans hf3 (fun _ _ h => h)); clear h3 hf3))
    have p1 := H3.out.at_.cell 1
    have x0 := Hx3.out.cell 0
    have x1 := Hx3.out.cell 1
    have x2 := Hx3.out.cell 2
    simp only [List.getElem?_cons_zero, List.getElem?_cons_succ] at p1 x0 x1 x2
    have p1' : w3.drew.cell? ⟨p, 1, none⟩ = some (.int .i64 (h : Int)) := p1
    have x0' : w3.drew.cell? ⟨w.heap.size, 0, none⟩ = some (.string f.n) := x0
    have x1' : w3.drew.cell? ⟨w.heap.size, 1, none⟩ = some (.string f.v) := x1
    have x2' : w3.drew.cell? ⟨w.heap.size, 2, none⟩ = some (.bool false) := x2
    have H3d : Hid (RT w3.drew p A k c h (fitL h N l)) := H3.out.drewN 1
    have Hx3d : Hid (Blk w3.drew w.heap.size 23 [.string f.n, .string f.v, .bool false]) := Hx3.out.drewN 1
    first
    | go_region_held (fun w' => w'.cell? ⟨p, 1, none⟩ = some (.int .i64 (h : Int)) ∧ w'.cell? ⟨w.heap.size, 0, none⟩ = some (.string f.n) ∧ w'.cell? ⟨w.heap.size, 1, none⟩ = some (.string f.v) ∧ w'.cell? ⟨w.heap.size, 2, none⟩ = some (.bool false))
        (first | exact ⟨p1, x0, x1, x2⟩ | exact ⟨p1', x0', x1', x2'⟩ | exact ⟨p4, y0, y1, y2⟩)
        (first
        | (go_at_call 14; (with_reducible refine (rFSize_c f.n f.v false hfn hfv N HN2.out _).mono ?_); rintro e w4 ⟨rfl, hb4⟩
           have H4 := Lib.hid (H3d.out.below hb4)
           have Hx4 := Lib.hid (Hx3d.out.below hb4 (Blk.lt Hx3d.out))
           have p4 := H4.out.at_.cell 1
           have y0 := Hx4.out.cell 0
           have y1 := Hx4.out.cell 1
           have y2 := Hx4.out.cell 2
           simp only [List.getElem?_cons_zero, List.getElem?_cons_succ] at p4 y0 y1 y2
           have HF4 := Lib.hid ((HF3.out.drewN 1).trans (Fr.of_below (S := fun i => w3.drew.heap.size ≤ i) hb4 (fun i _ h => h)) (fun i hi h => by have := HF3.out.size; have e : w3.drew.heap.size = w3.heap.size := rfl; omega))
           clear hb4))
    | fail
    all_goals
      clear p1 x0 x1 x2 p1' x0' x1' x2' H3d Hx3d
      go_wp2
      refine bodyPost_ret (results_none rfl _ _ _) rfl ?_
      exact ⟨A, k, c, rfl, Hend.out ▸ H4.out, HA.out, HF4.out⟩
  · have hc2 : ¬ (h : Int) < (N : Int) := by omega
    have kb : decide (h < N) = false := decide_eq_false hc
    have hNh : N ≤ h := by omega
    have hend : f.plain :: fitL h N l = L := by
      rw [← HL.out, addF, hN, if_pos hNh, fitL, if_pos hNh]
    have Hend := Lib.hid hend
    have hkl : (fitL h N l).length ≤ 2048 := by
      have h1 := len_szs (fitL h N l)
      have h2 : szs (fitL h N l) ≤ h - N := by rw [fitL, if_pos hNh]; exact pre_le _ _
      omega
    have Hkl := Lib.hid hkl
    clear hend hc hkl
    go_enter Try.func19, Try.ntmps19
    go_wp2_with (first
      | (go_at_call 14; (with_reducible refine (rFSize_c f.n f.v false hfn hfv N HN2.out _).mono ?_); rintro e w2 ⟨rfl, hb2⟩; have Ht2 := Lib.hid (Ht1.out.below hb2); have Hx2 := Lib.hid (Hx1.out.below hb2 (Blk.lt Hx1.out)); have Hb2 := Lib.hid (((Below.refl _ _).alloc (Nat.le_refl _) _).trans (hb2.mono (by simp))); clear hb2)
      | (go_at_call 36; (with_reducible refine (rfit_any Ht2.out HA.out Hsz.out hh2 N hN3 _ rfl).mono ?_); rintro e w3 ⟨k, rfl, h3, hf3⟩; have H3 := Lib.hid h3; have Hx3 := Lib.hid (Hx2.out.fr hf3 (Ne.symm hpw)); have HF3 := Lib.hid ((Fr.of_below (S := fun i => i = p) Hb2.out (fun i h1 h2 => by omega)).trans hf3 (fun _ _ h => h)); clear h3 hf3))
    have p1 := H3.out.at_.cell 1
    have x0 := Hx3.out.cell 0
    have x1 := Hx3.out.cell 1
    have x2 := Hx3.out.cell 2
    simp only [List.getElem?_cons_zero, List.getElem?_cons_succ] at p1 x0 x1 x2
    have p1' : w3.drew.cell? ⟨p, 1, none⟩ = some (.int .i64 (h : Int)) := p1
    have x0' : w3.drew.cell? ⟨w.heap.size, 0, none⟩ = some (.string f.n) := x0
    have x1' : w3.drew.cell? ⟨w.heap.size, 1, none⟩ = some (.string f.v) := x1
    have x2' : w3.drew.cell? ⟨w.heap.size, 2, none⟩ = some (.bool false) := x2
    have H3d : Hid (RT w3.drew p A k c h (fitL h N l)) := H3.out.drewN 1
    have Hx3d : Hid (Blk w3.drew w.heap.size 23 [.string f.n, .string f.v, .bool false]) := Hx3.out.drewN 1
    first
    | go_region_held (fun w' => w'.cell? ⟨p, 1, none⟩ = some (.int .i64 (h : Int)) ∧ w'.cell? ⟨w.heap.size, 0, none⟩ = some (.string f.n) ∧ w'.cell? ⟨w.heap.size, 1, none⟩ = some (.string f.v) ∧ w'.cell? ⟨w.heap.size, 2, none⟩ = some (.bool false))
        (first | exact ⟨p1, x0, x1, x2⟩ | exact ⟨p1', x0', x1', x2'⟩ | exact ⟨p4, y0, y1, y2⟩)
        (first
        | (go_at_call 14; (with_reducible refine (rFSize_c f.n f.v false hfn hfv N HN2.out _).mono ?_); rintro e w4 ⟨rfl, hb4⟩
           have H4 := Lib.hid (H3d.out.below hb4)
           have Hx4 := Lib.hid (Hx3d.out.below hb4 (Blk.lt Hx3d.out))
           have p4 := H4.out.at_.cell 1
           have y0 := Hx4.out.cell 0
           have y1 := Hx4.out.cell 1
           have y2 := Hx4.out.cell 2
           simp only [List.getElem?_cons_zero, List.getElem?_cons_succ] at p4 y0 y1 y2
           have HF4 := Lib.hid ((HF3.out.drewN 1).trans (Fr.of_below (S := fun i => w3.drew.heap.size ≤ i) hb4 (fun i _ h => h)) (fun i hi h => by have := HF3.out.size; have e : w3.drew.heap.size = w3.heap.size := rfl; omega))
           clear hb4))
    | fail
    all_goals
      clear p1 x0 x1 x2 p1' x0' x1' x2' H3d Hx3d
      have hk2 : k ≤ 2048 := by have h1 := H4.out.len; have := Hkl.out; omega
      have hpl4 : p < w4.heap.size := Blk.lt H4.out.at_
      have q0 := (H4.out.alloc (.cells #[.string f.n, .string f.v, .bool false] 23)).at_.cell 0
      simp only [List.getElem?_cons_zero] at q0
      go_wp2_with (first
        | (at_builtin
           refine wpList_append_rd rfl (.tmp 19) (.tmp 23) 25 rfl EF (.slice (some ⟨w4.heap.size, 0, none⟩) 1 1) 1 (fcellsL [f.plain]) rfl (own_lit3 w4 f) A k c (fcellsL (fitL h N l)) rfl (H4.out.alloc _).rd (fcells_one _) (by omega) (by unfold maxLen; omega) (by simp) ?_
           intro A6 c6 w6 ho6 hf6 ho2
           rw [← fcellsL_append] at ho6
           have Ho6 := Lib.hid ho6
           have H6 := Lib.hid ((H4.out.alloc (.cells #[.string f.n, .string f.v, .bool false] 23)).at_.fr hf6 (fun e => by simp [Value.ownBlock] at e; omega))
           have HF6 := Lib.hid ((HF4.out.alloc _).trans hf6 (fun i hi e => by simp [Value.ownBlock] at e; have := HF4.out.size; omega))
           have q6 := H6.out.cell 0
           have z6 := H6.out.frozen 0
           simp only [List.getElem?_cons_zero] at q6
           clear ho6 hf6 ho2))
    all_goals
      go_end0
      have hbl : ∀ a, A6 = some a → a.block ≠ p := fun a ha e => by
        have := (Ho6.out.lt a.block (by rw [ha]; rfl)).1
        omega
      obtain ⟨g1, g2⟩ := own_len Ho6.out
      refine ⟨A6, 1 + k, c6, rfl, ⟨H6.out.set_ 0 (.slice A6 (1 + k) c6), ?_, g1, g2, ?_⟩, hbl, HF6.out.setCell (p := ⟨p, 0, none⟩) (.inl rfl) _⟩
      · rw [← Hend.out]
        exact (Rd.of_own Ho6.out).fr ((Fr.refl (· = p) w6).setCell (p := ⟨p, 0, none⟩) (.inl rfl) _) (fun a ha e => hbl a ha e)
      · rw [← Hend.out]
        intro g hg
        rcases List.mem_cons.1 hg with rfl | hg
        · exact Hfo.out
        · exact H4.out.ok g hg
end Go.Proofs.Ytefjjmhbbcganaa
