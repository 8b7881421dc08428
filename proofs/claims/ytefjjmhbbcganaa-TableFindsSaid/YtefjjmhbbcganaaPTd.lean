/- The program's table: Add. -/
import Derived.Test.YtefjjmhbbcganaaPTi
namespace Go.Proofs.Ytefjjmhbbcganaa
open Go.RowKit Go.Own Go.Tbl
set_option linter.unusedVariables false
attribute [local go_sem ↓] Go.wp_at_zero Go.wp_at_succ

theorem sIns_n {w : World} {A : Option Addr} {n c : Nat} {l : List Fld} (ho : w.ownsRow 0 23 3 (.slice A n c) n (fcellsL l)) (hl : l.length = n) (hn : n ≤ 2048) {v : Nat} {f : Fld} (hv : Blk w v 23 (fcells f)) (hne : ∀ a, A = some a → v ≠ a.block) :
    Calls Try.prog 35 #[.slice A n c, .int .i64 0, .slice (some ⟨v, 0, none⟩) 1 1] w fun e w' => ∃ A' c', e = .returned (.slice A' (n + 1) c') ∧ w'.ownsRow 0 23 3 (.slice A' (n + 1) c') (n + 1) (fcellsL (f :: l)) ∧
      Fr (fun i => ∃ a, A = some a ∧ a.block = i) w w' ∧ (∀ a', A' = some a' → (∃ a, A = some a ∧ a.block = a'.block) ∨ w.heap.size ≤ a'.block) := by
  refine (sIns_c ho hl hn hv hne).mono ?_
  rintro e w' ⟨A', c', rfl, h1, h2, h3⟩
  have : (f :: l).length = n + 1 := by rw [List.length_cons, hl]
  rw [this] at h1 ⊢
  exact ⟨A', c', rfl, h1, h2, h3⟩
def AddP (w : World) (p : Nat) (A : Option Addr) (h : Nat) (L : List Fld) (e : Ending) (w' : World) : Prop := ∃ A' k c', e = .returned (.tuple #[]) ∧ PTx w' p A' k c' h L ∧ Fr (tblS p A) w w' ∧ (∀ a', A' = some a' → tblS p A a'.block ∨ w.heap.size ≤ a'.block)
theorem i64_sub (h N : Nat) (h1 : h ≤ 65536) (h2 : N ≤ 281474976710688) : i64 ((h : Int) - (N : Int)) := by unfold i64; omega
set_option maxRecDepth 100000 in
set_option maxHeartbeats 4000000 in
theorem xAdd_big {w : World} {p : Nat} {A : Option Addr} {n c h : Nat} {l : List Fld} (t : PTx w p A n c h l) (f : Fld) (hf : fok f) (N : Nat) (hN2 : f.n.size + f.v.size + 32 = N) (hNl : N ≤ 281474976710688) (hc : h < N) :
    Calls Try.prog 18 #[.pointer (some ⟨p, 0, none⟩), .agg #[.string f.n, .string f.v, .bool f.nv]] w (AddP w p A h []) := by
  have Ht1 : Hid (PTx (w.alloc (.cells #[.string f.n, .string f.v, .bool f.nv] 23)) p A n c h l) := t.alloc _
  have htop := t.top
  have hfn : f.n.size ≤ 140737488355328 := hf.1
  have hfv : f.v.size ≤ 140737488355328 := hf.2
  have HN2 := Lib.hid hN2
  have hp := Blk.lt t.at_
  have hi := i64_sub h N htop hNl
  have hend : shrL ((h : Int) - (N : Int)) l = [] := by unfold shrL; rw [if_neg (by omega)]
  have Hend := Lib.hid hend
  have hc2 : (h : Int) < (N : Int) := by omega
  clear t hN2 hend
  go_enter Try.func18, Try.ntmps18
  go_wp2_with (first
    | (go_at_call 13; (with_reducible refine (pSize_n f.n f.v f.nv hfn hfv N HN2.out _).mono ?_); rintro e w2 ⟨rfl, hb2⟩
       have Ht2 := Lib.hid (Ht1.out.below hb2)
       have Hb2 := Lib.hid (((Below.refl _ _).alloc (Nat.le_refl _) _).trans (hb2.mono (by simp)))
       obtain ⟨c0, c1, c2⟩ := Ht2.out.cells
       clear hb2)
    | (go_at_call 34; (with_reducible refine (xshrink_n Ht2.out ((h : Int) - (N : Int)) hi [] Hend.out).mono ?_); rintro e w3 ⟨k, rfl, h3, hf3⟩
       have H3 := Lib.hid h3
       have HF3 := Lib.hid ((Fr.of_below (S := tblS p A) Hb2.out (fun i h1 h2 => by omega)).trans hf3 (fun _ _ h => h))
       obtain ⟨q0, q1, q2⟩ := h3.cells
       clear h3 hf3))
  go_end0
  exact ⟨A, k, c, rfl, H3.out, HF3.out, fun a ha => .inl (.inr ⟨a, ha, rfl⟩)⟩
set_option maxRecDepth 100000 in
set_option maxHeartbeats 4000000 in
theorem xAdd_room {w : World} {p : Nat} {A : Option Addr} {n c h : Nat} {l : List Fld} (t : PTx w p A n c h l) (f : Fld) (hf : fok f) (N : Nat) (hN2 : f.n.size + f.v.size + 32 = N) (hc : N ≤ h) :
    Calls Try.prog 18 #[.pointer (some ⟨p, 0, none⟩), .agg #[.string f.n, .string f.v, .bool f.nv]] w (AddP w p A h (f.plain :: pre (h - N) l)) := by
  have Ht1 : Hid (PTx (w.alloc (.cells #[.string f.n, .string f.v, .bool f.nv] 23)) p A n c h l) := t.alloc _
  have Hx1 : Hid (Blk (w.alloc (.cells #[.string f.n, .string f.v, .bool f.nv] 23)) w.heap.size 23 [.string f.n, .string f.v, .bool f.nv]) := Blk.new w 23 [.string f.n, .string f.v, .bool f.nv]
  have htop := t.top
  have hfn : f.n.size ≤ 140737488355328 := hf.1
  have hfv : f.v.size ≤ 140737488355328 := hf.2
  have HN2 := Lib.hid hN2
  have Hfo := Lib.hid hf
  have hp := Blk.lt t.at_
  have hpw : w.heap.size ≠ p := by omega
  have hAw : ∀ a, A = some a → a.block ≠ w.heap.size := fun a ha => by have := t.lt a ha; omega
  have HAw := Lib.hid hAw
  have hi : i64 ((h : Int) - (N : Int)) := by unfold i64; omega
  obtain ⟨L, hL⟩ : ∃ L, pre (h - N) l = L := ⟨_, rfl⟩
  have hend : shrL ((h : Int) - (N : Int)) l = L := by unfold shrL; rw [if_pos (by omega), ← hL]; congr 1; omega
  have hLs := pre_le (h - N) l
  rw [hL] at hLs ⊢
  obtain ⟨s, hs⟩ : ∃ s, szs L = s := ⟨_, rfl⟩
  rw [hs] at hLs
  have Hend := Lib.hid hend
  have Hs := Lib.hid hs
  have hc2 : ¬ (h : Int) < (N : Int) := by omega
  have hsum : s + N ≤ 65536 := by omega
  obtain ⟨S, hS⟩ : ∃ S, s + N = S := ⟨_, rfl⟩
  have hsz : szs (f.plain :: L) = S := by rw [szs, sz_plain, hs, sz, HN2.out]; omega
  have eS : (s : Int) + (N : Int) = (S : Int) := by omega
  have HS := Lib.hid hS
  have hS2 : S ≤ 65536 := by omega
  have Hsz := Lib.hid hsz
  clear t hN2 hend hL hf hAw hs hsz hS
  go_enter Try.func18, Try.ntmps18
  go_wp2_with (first
    | (go_at_call 13; (with_reducible refine (pSize_n f.n f.v f.nv hfn hfv N HN2.out _).mono ?_); rintro e w2 ⟨rfl, hb2⟩
       have Ht2 := Lib.hid (Ht1.out.below hb2)
       have Hx2 := Lib.hid (Hx1.out.below hb2 (Blk.lt Hx1.out))
       have Hb2 := Lib.hid (((Below.refl _ _).alloc (Nat.le_refl _) _).trans (hb2.mono (by simp)))
       obtain ⟨c0, c1, c2⟩ := Ht2.out.cells
       clear hb2)
    | (go_at_call 34; (with_reducible refine (xshrink_n Ht2.out ((h : Int) - (N : Int)) hi L Hend.out).mono ?_); rintro e w3 ⟨k, rfl, h3, hf3⟩
       have Hx3 := Lib.hid (Hx2.out.fr hf3 (fun e => by
         rcases e with e | ⟨a, ha, e⟩
         · exact hpw e
         · exact HAw.out a ha e))
       have HF3 := Lib.hid ((Fr.of_below (S := tblS p A) Hb2.out (fun i h1 h2 => by omega)).trans hf3 (fun _ _ h => h))
       have H3 := Lib.hid h3
       have x0 := Hx3.out.cell 0
       have x1 := Hx3.out.cell 1
       have x2 := Hx3.out.cell 2
       have zx := Hx3.out.frozen 2
       simp only [List.getElem?_cons_zero, List.getElem?_cons_succ] at x0 x1 x2
       obtain ⟨q0, q1, q2⟩ := h3.cells
       clear h3 hf3))
  have X4 : Hid (Blk (w3.setCell ⟨w.heap.size, 2, none⟩ (.bool false)) w.heap.size 23 [.string f.n, .string f.v, .bool false]) := Hx3.out.set_ 2 (.bool false)
  have f34 : Fr (· = w.heap.size) w3 (w3.setCell ⟨w.heap.size, 2, none⟩ (.bool false)) := (Fr.refl (· = w.heap.size) w3).setCell (p := ⟨w.heap.size, 2, none⟩) (.inl rfl) _
  have H4 := Lib.hid (H3.out.fr f34 (Ne.symm hpw) (fun a ha e => HAw.out a ha e))
  have HF4 := Lib.hid (HF3.out.trans f34 (fun i hi e => by omega))
  clear f34 x0 x1 x2 zx q0 q1 q2
  generalize w3.setCell ⟨w.heap.size, 2, none⟩ (.bool false) = w4 at X4 H4 HF4 ⊢
  obtain ⟨q0, q1, q2⟩ := H4.out.cells
  have x0 := X4.out.cell 0
  have x1 := X4.out.cell 1
  have x2 := X4.out.cell 2
  simp only [List.getElem?_cons_zero, List.getElem?_cons_succ] at x0 x1 x2
  have q0' : w4.drew.cell? ⟨p, 0, none⟩ = some (.slice A k c) := q0
  have x0' : w4.drew.cell? ⟨w.heap.size, 0, none⟩ = some (.string f.n) := x0
  have x1' : w4.drew.cell? ⟨w.heap.size, 1, none⟩ = some (.string f.v) := x1
  have x2' : w4.drew.cell? ⟨w.heap.size, 2, none⟩ = some (.bool false) := x2
  have hpl4 : p < w4.heap.size := Blk.lt H4.out.at_
  have hwl4 : w.heap.size < w4.heap.size := Blk.lt X4.out
  have H5 : Hid (PTx (w4.alloc (.cells #[.string f.n, .string f.v, .bool false] 23)).drew p A k c h L) := (H4.out.alloc _).drewN 1
  have V5 : Hid (Blk (w4.alloc (.cells #[.string f.n, .string f.v, .bool false] 23)).drew w4.heap.size 23 (fcells f.plain)) := (Blk.new w4 23 [.string f.n, .string f.v, .bool false]).drewN 1
  have F5 : Hid (Fr (tblS p A) w (w4.alloc (.cells #[.string f.n, .string f.v, .bool false] 23)).drew) := (HF4.out.alloc _).drewN 1
  have hn5 : ∀ a, A = some a → w4.heap.size ≠ a.block := fun a ha => by have := H4.out.lt a ha; omega
  have HN5 := Lib.hid hn5
  have hlen := H4.out.len
  have Hlen := Lib.hid hlen
  have hk := H4.out.n_small
  have hg5 : (w4.alloc (.cells #[.string f.n, .string f.v, .bool false] 23)).drew.heap.size = w4.heap.size + 1 := by simp [World.drew]
  have Hg5 := Lib.hid hg5
  have hpA : ∀ a, A = some a → a.block ≠ p := H4.out.ne
  have HpA := Lib.hid hpA
  clear hn5 hlen hg5 hpA
  go_region_with
    (first
    | (go_at_call 35; (with_reducible refine (sIns_n H5.out.own Hlen.out hk V5.out HN5.out).mono ?_); rintro e w6 ⟨A6, c6, rfl, ho6, hf6, hat6⟩
       have P6 := H5.out.at_.fr hf6 (fun e => by obtain ⟨a, ha, e⟩ := e; exact HpA.out a ha e)
       have F6 := Lib.hid (F5.out.trans hf6 (fun i hi e => .inr e))
       have Ho6 := Lib.hid ho6
       have Hat6 := Lib.hid hat6
       have p0 := P6.cell 0
       have p1 := P6.cell 1
       have p2 := P6.cell 2
       have y0 := P6.frozen 0
       have y1 := P6.frozen 1
       simp only [List.getElem?_cons_zero, List.getElem?_cons_succ, Hs.out] at p0 p1 p2
       have HP6 := Lib.hid P6
       clear ho6 hf6 hat6 P6))
  all_goals
    clear q0 q1 q2 x0 x1 x2 q0' x0' x1' x2'
    go_wp2
    go_end0
    obtain ⟨g1, g2⟩ := own_len Ho6.out
    have P9 := (HP6.out.set_ 0 (.slice A6 (k + 1) c6)).set_ 1 (.int .i64 (S : Int))
    have P9' : Blk ((w6.setCell ⟨p, 0, none⟩ (.slice A6 (k + 1) c6)).setCell ⟨p, 1, none⟩ (.int .i64 (S : Int))) p 55 [.slice A6 (k + 1) c6, .int .i64 ((szs (f.plain :: L) : Nat) : Int), .int .i64 (h : Int)] := by rw [Hsz.out]; exact P9
    have hnp : ∀ a, A6 = some a → a.block ≠ p := fun a ha e => by
      rcases Hat6.out a ha with ⟨a0, h0, e0⟩ | h0
      · exact HpA.out a0 h0 (by omega)
      · have := Hg5.out; omega
    have F9 := (F6.out.setCell (p := ⟨p, 0, none⟩) (.inl (.inl rfl)) (.slice A6 (k + 1) c6)).setCell (p := ⟨p, 1, none⟩) (.inl (.inl rfl)) (.int .i64 (S : Int))
    have f9 := ((Fr.refl (· = p) w6).setCell (p := ⟨p, 0, none⟩) (.inl rfl) (.slice A6 (k + 1) c6)).setCell (p := ⟨p, 1, none⟩) (.inl rfl) (.int .i64 (S : Int))
    refine ⟨A6, k + 1, c6, rfl, ⟨P9', own_fr Ho6.out f9 (fun g hg e => ?_), ?_, ?_, htop⟩, F9, fun a ha => ?_⟩
    · cases A6 with
      | none => simp [Value.ownBlock] at hg
      | some a => simp [Value.ownBlock] at hg; exact hnp a rfl (by omega)
    · intro g hg
      rcases List.mem_cons.1 hg with rfl | hg
      · exact ⟨Hfo.out, rfl⟩
      · exact H4.out.ok g hg
    · rw [Hsz.out]; exact hS2
    · rcases Hat6.out a ha with ⟨a0, h0, e0⟩ | h0
      · exact .inl (.inr ⟨a0, h0, e0⟩)
      · exact .inr (by have := Hg5.out; omega)
theorem xAdd_c {w : World} {p : Nat} {A : Option Addr} {n c h : Nat} {l : List Fld} (t : PTx w p A n c h l) (f : Fld) (hf : fok f) :
    Calls Try.prog 18 #[.pointer (some ⟨p, 0, none⟩), .agg #[.string f.n, .string f.v, .bool f.nv]] w (AddP w p A h (addF h f l)) := by
  have h1 := hf.1
  have h2 := hf.2
  have hsz : sz f = f.n.size + f.v.size + 32 := rfl
  unfold addF
  split
  · exact xAdd_room t f hf (sz f) rfl (by omega)
  · exact xAdd_big t f hf (sz f) rfl (by omega) (by omega)
end Go.Proofs.Ytefjjmhbbcganaa
