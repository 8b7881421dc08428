/- The program's hpack: the reading of a block: a field whose value is told · The program's hpack: the reading of a block: a field · The program's hpack: the reading of a block: its updates · The program's hpack: a block, read; the sizes of fields · The program's hpack: a block, read · The program's hpack: SetMax, Size, Max, updates -/
import Derived.Test.YtinieljgcenemaaDoorG6
import Derived.Deep.RegionWith
namespace Go.Proofs.YtinieljgcenemaaDoor
open Go.RowKit Go.Own Go.Tbl Go.Huf Go.Hin
set_option linter.unusedVariables false
set_option maxRecDepth 100000
attribute [local go_sem ↓] Go.wp_at_zero Go.wp_at_succ

theorem named_no1 {all : List Fld} {i : Nat} {ys zs : List UInt8} {s : ByteArray} (h : nameV all i ys = (s, false, zs)) : namedD all i ys = none := by
  unfold nameV at h
  unfold namedD
  by_cases h0 : i = 0
  · rw [if_pos h0] at h
    rw [if_neg (by omega)]
    cases hT : getT big ys with
    | ok t n => rw [hT] at h; injection h with _ h; injection h with h; cases h
    | err c => rfl
  · rw [if_neg h0] at h
    rw [if_pos (by omega)]
    cases hN : nth all i with
    | some g => rw [hN] at h; injection h with _ h; injection h with h; cases h
    | none => rfl
theorem named_no2 {all : List Fld} {i c : Nat} {ys zs : List UInt8} {s : ByteArray} (h : nameV all i ys = (s, true, zs)) (h2 : getT big zs = .err c) : namedD all i ys = none := by
  unfold nameV at h
  unfold namedD
  by_cases h0 : i = 0
  · rw [if_pos h0] at h
    rw [if_neg (by omega)]
    cases hT : getT big ys with
    | ok t n =>
      rw [hT] at h
      injection h with _ h
      injection h with _ h
      subst h
      dsimp only
      rw [h2]
    | err c => rfl
  · rw [if_neg h0] at h
    rw [if_pos (by omega)]
    cases hN : nth all i with
    | some g =>
      rw [hN] at h
      injection h with _ h
      injection h with _ h
      subst h
      dsimp only
      rw [h2]
    | none => rfl
theorem named_yes {all : List Fld} {i m : Nat} {ys zs t : List UInt8} {s : ByteArray} (h : nameV all i ys = (s, true, zs)) (h2 : getT big zs = .ok t m) : ∃ k, zs = ys.drop k ∧ namedD all i ys = some (⟨s, ofB t, false⟩, k + m) := by
  unfold nameV at h
  unfold namedD
  by_cases h0 : i = 0
  · rw [if_pos h0] at h
    rw [if_neg (by omega)]
    cases hT : getT big ys with
    | ok t n =>
      rw [hT] at h
      injection h with h1 h
      injection h with _ h
      subst h h1
      dsimp only
      rw [h2]
      exact ⟨n, rfl, rfl⟩
    | err c => rw [hT] at h; injection h with _ h; injection h with h; cases h
  · rw [if_neg h0] at h
    rw [if_pos (by omega)]
    cases hN : nth all i with
    | some g =>
      rw [hN] at h
      injection h with h1 h
      injection h with _ h
      subst h h1
      dsimp only
      rw [h2]
      exact ⟨0, rfl, by simp⟩
    | none => rw [hN] at h; injection h with _ h; injection h with h; cases h
/-- what a call leaves that reads a field whose value is told -/
def NamedP (w0 w : World) (A0 : Option Addr) (r : Nat) (ys : List UInt8) : Option (Fld × Nat) → Ending → World → Prop
  | some (f, m), e, w' => e = .returned (.tuple #[.agg #[.string f.n, .string f.v, .bool false], .bool true]) ∧ RdAt w0 w' A0 r (ys.drop m) ∧ Fr (· = r) w w'
  | none, e, w' => ∃ n v, e = .returned (.tuple #[.agg #[.string n, .string v, .bool false], .bool false]) ∧ Fr (· = r) w w'
section
variable {w0 w : World} {A0 : Option Addr} {p q r h : Nat} {l : List Fld} {G : Nat → Prop} {ys : List UInt8} {limit list : Int} {bk : Bool}
theorem RdAt.fr0 {w' : World} (rd : RdAt w0 w A0 r ys) {S : Nat → Prop} (hf : Fr S w w') (hr : ¬ S r) (hA : ∀ a, A0 = some a → ¬ S a.block) : RdAt w0 w' A0 r ys := by
  obtain ⟨A, n, c, h1, h2, h3⟩ := rd
  refine ⟨A, n, c, h1, h2.fr hf hr, rd_fr1 h3 hf fun a ha hn => ?_⟩
  obtain ⟨a0, e1, e2⟩ := h1.blk a ha hn
  rw [e2]
  exact hA a0 e1
theorem RdAt.lt {w0 : World} (rd : RdAt w0 w A0 r ys) : r < w.heap.size := by obtain ⟨A, n, c, h1, h2, h3⟩ := rd; exact Blk.lt h2
/-- what was new stays, though r changes -/
theorem new_keep {w1 w2 : World} {t : TypeId} {cs : List Value} {g : Nat} (hb : Blk w1 g t cs) (hf : Fr (· = r) w1 w2) (hne : g ≠ r) : Blk w2 g t cs := hb.fr hf hne
set_option maxHeartbeats 4000000 in
theorem dNamed_c (t : PT w q G h l) (b : Blk w p 58 (decCells q limit list bk)) (rd : RdAt w0 w A0 r ys) (hA : ∀ a, A0 = some a → a.block ≠ r) (hAl : ∀ a, A0 = some a → a.block < w.heap.size) (hGr : ¬ G r) (hpr : p ≠ r) (hC : Cnt w) (hcr : 0 ≠ r) (hlen : ys.length ≤ 536870912) (i : Nat) (hi : i ≤ 2147483647) (R : Option (Fld × Nat)) (hR : namedD (statL ++ l) i ys = R) :
    Calls Tryd.prog 78 #[.pointer (some ⟨p, 0, none⟩), .pointer (some ⟨r, 0, none⟩), .int .i64 (i : Int)] w (NamedP w0 w A0 r ys R) := by
  obtain ⟨⟨s, ok, zs⟩, hN⟩ : ∃ z, nameV (statL ++ l) i ys = z := ⟨_, rfl⟩
  have hrl := rd.lt
  have hZ : zs.length ≤ ys.length := by
    unfold nameV at hN
    split at hN
    · split at hN <;> (injection hN with _ hN; injection hN with _ hN; subst hN) <;> simp
    · split at hN <;> (injection hN with _ hN; injection hN with _ hN; subst hN) <;> simp
  have b1 : Below w.heap.size w (w.alloc (.cells #[.string ⟨#[]⟩, .string ⟨#[]⟩, .bool false] 38)) := (Below.refl _ _).alloc (Nat.le_refl _) _
  have T1 : Hid (PT (w.alloc (.cells #[.string ⟨#[]⟩, .string ⟨#[]⟩, .bool false] 38)) q G h l) := t.fr (Fr.of_below (S := fun i => w.heap.size ≤ i) b1 (fun _ _ h => h)) (fun i hi => by have := t.lt i hi; omega)
  have B1 : Hid (Blk (w.alloc (.cells #[.string ⟨#[]⟩, .string ⟨#[]⟩, .bool false] 38)) p 58 (decCells q limit list bk)) := b.alloc _
  have R1 : Hid (RdAt w0 (w.alloc (.cells #[.string ⟨#[]⟩, .string ⟨#[]⟩, .bool false] 38)) A0 r ys) := rd.below b1
  have C1 : Hid (Cnt (w.alloc (.cells #[.string ⟨#[]⟩, .string ⟨#[]⟩, .bool false] 38))) := hC.below b1
  have F1 : Hid (Fr (· = r) w (w.alloc (.cells #[.string ⟨#[]⟩, .string ⟨#[]⟩, .bool false] 38))) := (Fr.refl _ _).alloc _
  have X1 : Hid (Blk (w.alloc (.cells #[.string ⟨#[]⟩, .string ⟨#[]⟩, .bool false] 38)) w.heap.size 38 [.string ⟨#[]⟩, .string ⟨#[]⟩, .bool false]) := Blk.new w 38 _
  have HA := Lib.hid hA
  have HN := Lib.hid hN
  have hne : w.heap.size ≠ r := by omega
  have HAl : Hid (∀ a, A0 = some a → ¬ a.block = w.heap.size) := fun a ha => by have := hAl a ha; omega
  clear t b rd hA hC b1
  cases ok with
  | false =>
    have HR : Hid (none = R) := by rw [← hR]; exact (named_no1 hN).symm
    clear hR hN
    go_enter Tryd.func78, Tryd.ntmps78
    go_wp2_with (first
      | (go_at_call 95; (with_reducible refine (dName_c T1.out B1.out R1.out HA.out C1.out hlen i hi s false zs HN.out).mono ?_); rintro e w2 ⟨rfl, rd2, f2⟩
         have F2 := Lib.hid (F1.out.trans f2 (fun _ _ h => h))
         have X2 := X1.out.fr f2 hne
         have z0 := X2.cell 0
         have z1 := X2.cell 1
         have z2 := X2.cell 2
         have zf := X2.frozen
         have X2 := Lib.hid X2
         simp only [List.getElem?_cons_zero, List.getElem?_cons_succ] at z0 z1 z2
         have R2 := Lib.hid rd2
         have C2 := Lib.hid (C1.out.fr f2 hcr)
         clear rd2 f2))
    have X3 : Hid (Blk _ w.heap.size 38 [.string ⟨#[]⟩, .string ⟨#[]⟩, .bool false]) := ((X2.out.set_ 0 (.string ⟨#[]⟩)).set_ 1 (.string ⟨#[]⟩)).set_ 2 (.bool false)
    have F3 := Lib.hid (((F2.out.setCell (p := ⟨w.heap.size, 0, none⟩) (.inr (Nat.le_refl _)) (.string ⟨#[]⟩)).setCell (p := ⟨w.heap.size, 1, none⟩) (.inr (Nat.le_refl _)) (.string ⟨#[]⟩)).setCell (p := ⟨w.heap.size, 2, none⟩) (.inr (Nat.le_refl _)) (.bool false))
    clear z0 z1 z2 zf F2 X2
    obtain ⟨w3, hw3⟩ : ∃ w3, (((w2.setCell ⟨w.heap.size, 0, none⟩ (.string ⟨#[]⟩)).setCell ⟨w.heap.size, 1, none⟩ (.string ⟨#[]⟩)).setCell ⟨w.heap.size, 2, none⟩ (.bool false)) = w3 := ⟨_, rfl⟩
    rw [hw3] at X3 F3 ⊢
    have z0 := X3.out.cell 0
    have z1 := X3.out.cell 1
    have z2 := X3.out.cell 2
    simp only [List.getElem?_cons_zero, List.getElem?_cons_succ] at z0 z1 z2
    refine bodyPost_ret (v := .tuple #[.agg #[.string ⟨#[]⟩, .string ⟨#[]⟩, .bool false], .bool false]) (by simp [results, Tryd.results78, go_sem, z0, z1, z2]) rfl ?_
    rw [← HR.out]
    exact ⟨_, _, rfl, F3.out⟩
  | true =>
    cases hT : getT big zs with
    | err c =>
      have HR : Hid (none = R) := by rw [← hR]; exact (named_no2 hN hT).symm
      have HV : Hid (txtV (getT big zs) = .tuple #[.string ⟨#[]⟩, .bool false]) := by rw [hT]; rfl
      clear hR hN hT
      go_enter Tryd.func78, Tryd.ntmps78
      go_wp2_with (first
        | (go_at_call 95; (with_reducible refine (dName_c T1.out B1.out R1.out HA.out C1.out hlen i hi s true zs HN.out).mono ?_); rintro e w2 ⟨rfl, rd2, f2⟩
           have F2 := Lib.hid (F1.out.trans f2 (fun _ _ h => h))
           have X2 := X1.out.fr f2 hne
           have z0 := X2.cell 0
           have z1 := X2.cell 1
           have z2 := X2.cell 2
           have zf := X2.frozen
           have X2 := Lib.hid X2
           simp only [List.getElem?_cons_zero, List.getElem?_cons_succ] at z0 z1 z2
           have R2 := Lib.hid rd2
           have C2 := Lib.hid (C1.out.fr f2 hcr)
           clear rd2 f2)
        | (go_at_call 96; (with_reducible refine (dText_c R2.out HA.out C2.out (Nat.le_trans hZ hlen) _ rfl _ HV.out _ rfl).mono ?_); rintro e w5 ⟨rfl, rd5, f5⟩
           have F5 := Lib.hid (F2.out.trans f5 (fun _ _ h => h))
           have X5 := X2.out.fr f5 hne
           have u0 := X5.cell 0
           have u1 := X5.cell 1
           have u2 := X5.cell 2
           have uf := X5.frozen
           have X5 := Lib.hid X5
           simp only [List.getElem?_cons_zero, List.getElem?_cons_succ] at u0 u1 u2
           have R5 := Lib.hid rd5
           clear rd5 f5 z0 z1 z2 zf))
      have X3 : Hid (Blk _ w.heap.size 38 [.string s, .string ⟨#[]⟩, .bool false]) := ((X5.out.set_ 0 (.string s)).set_ 1 (.string ⟨#[]⟩)).set_ 2 (.bool false)
      have F3 := Lib.hid (((F5.out.setCell (p := ⟨w.heap.size, 0, none⟩) (.inr (Nat.le_refl _)) (.string s)).setCell (p := ⟨w.heap.size, 1, none⟩) (.inr (Nat.le_refl _)) (.string ⟨#[]⟩)).setCell (p := ⟨w.heap.size, 2, none⟩) (.inr (Nat.le_refl _)) (.bool false))
      clear u0 u1 u2 uf F5 X5
      obtain ⟨w3, hw3⟩ : ∃ w3, (((w5.setCell ⟨w.heap.size, 0, none⟩ (.string s)).setCell ⟨w.heap.size, 1, none⟩ (.string ⟨#[]⟩)).setCell ⟨w.heap.size, 2, none⟩ (.bool false)) = w3 := ⟨_, rfl⟩
      rw [hw3] at X3 F3 ⊢
      have z0 := X3.out.cell 0
      have z1 := X3.out.cell 1
      have z2 := X3.out.cell 2
      simp only [List.getElem?_cons_zero, List.getElem?_cons_succ] at z0 z1 z2
      refine bodyPost_ret (v := .tuple #[.agg #[.string s, .string ⟨#[]⟩, .bool false], .bool false]) (by simp [results, Tryd.results78, go_sem, z0, z1, z2]) rfl ?_
      rw [← HR.out]
      exact ⟨_, _, rfl, F3.out⟩
    | ok t m =>
      obtain ⟨k, hk, hy⟩ := named_yes hN hT
      have HR : Hid (some (⟨s, ofB t, false⟩, k + m) = R) := by rw [← hR]; exact hy.symm
      have HV : Hid (txtV (getT big zs) = .tuple #[.string (ofB t), .bool true]) := by rw [hT]; rfl
      have HD : Hid (zs.drop (txtN (getT big zs)) = ys.drop (k + m)) := by rw [hT, hk, List.drop_drop]; rfl
      clear hR hN hT hk hy
      go_enter Tryd.func78, Tryd.ntmps78
      go_wp2_with (first
        | (go_at_call 95; (with_reducible refine (dName_c T1.out B1.out R1.out HA.out C1.out hlen i hi s true zs HN.out).mono ?_); rintro e w2 ⟨rfl, rd2, f2⟩
           have F2 := Lib.hid (F1.out.trans f2 (fun _ _ h => h))
           have X2 := X1.out.fr f2 hne
           have z0 := X2.cell 0
           have z1 := X2.cell 1
           have z2 := X2.cell 2
           have zf := X2.frozen
           have X2 := Lib.hid X2
           simp only [List.getElem?_cons_zero, List.getElem?_cons_succ] at z0 z1 z2
           have R2 := Lib.hid rd2
           have C2 := Lib.hid (C1.out.fr f2 hcr)
           clear rd2 f2)
        | (go_at_call 96; (with_reducible refine (dText_c R2.out HA.out C2.out (Nat.le_trans hZ hlen) _ rfl _ HV.out _ rfl).mono ?_); rintro e w5 ⟨rfl, rd5, f5⟩
           have F5 := Lib.hid (F2.out.trans f5 (fun _ _ h => h))
           have X5 := X2.out.fr f5 hne
           have u0 := X5.cell 0
           have u1 := X5.cell 1
           have u2 := X5.cell 2
           have uf := X5.frozen
           have X5 := Lib.hid X5
           simp only [List.getElem?_cons_zero, List.getElem?_cons_succ] at u0 u1 u2
           have R5 := Lib.hid rd5
           clear rd5 f5 z0 z1 z2 zf))
      have X3 : Hid (Blk _ w.heap.size 38 [.string s, .string (ofB t), .bool false]) := ((X5.out.set_ 0 (.string s)).set_ 1 (.string (ofB t))).set_ 2 (.bool false)
      have F3 := Lib.hid (((F5.out.setCell (p := ⟨w.heap.size, 0, none⟩) (.inr (Nat.le_refl _)) (.string s)).setCell (p := ⟨w.heap.size, 1, none⟩) (.inr (Nat.le_refl _)) (.string (ofB t))).setCell (p := ⟨w.heap.size, 2, none⟩) (.inr (Nat.le_refl _)) (.bool false))
      have R6 := Lib.hid (((R5.out.fr0 ((Fr.refl (fun i => i = w.heap.size) _).setCell (p := ⟨w.heap.size, 0, none⟩) (.inl rfl) (.string s)) (fun e => hne e.symm) HAl.out).fr0 ((Fr.refl (fun i => i = w.heap.size) _).setCell (p := ⟨w.heap.size, 1, none⟩) (.inl rfl) (.string (ofB t))) (fun e => hne e.symm) HAl.out).fr0 ((Fr.refl (fun i => i = w.heap.size) _).setCell (p := ⟨w.heap.size, 2, none⟩) (.inl rfl) (.bool false)) (fun e => hne e.symm) HAl.out)
      clear u0 u1 u2 uf F5 X5
      obtain ⟨w3, hw3⟩ : ∃ w3, (((w5.setCell ⟨w.heap.size, 0, none⟩ (.string s)).setCell ⟨w.heap.size, 1, none⟩ (.string (ofB t))).setCell ⟨w.heap.size, 2, none⟩ (.bool false)) = w3 := ⟨_, rfl⟩
      rw [hw3] at X3 F3 R6 ⊢
      have z0 := X3.out.cell 0
      have z1 := X3.out.cell 1
      have z2 := X3.out.cell 2
      simp only [List.getElem?_cons_zero, List.getElem?_cons_succ] at z0 z1 z2
      refine bodyPost_ret (v := .tuple #[.agg #[.string s, .string (ofB t), .bool false], .bool true]) (by simp [results, Tryd.results78, go_sem, z0, z1, z2]) rfl ?_
      rw [← HR.out]
      rw [HD.out] at R6
      exact ⟨rfl, R6.out, F3.out⟩
end
end Go.Proofs.YtinieljgcenemaaDoor
namespace Go.Proofs.YtinieljgcenemaaDoor
open Go.RowKit Go.Own Go.Tbl Go.Huf Go.Hin
set_option linter.unusedVariables false
set_option maxRecDepth 100000
attribute [local go_sem ↓] Go.wp_at_zero Go.wp_at_succ

/-- what a call leaves that reads a field -/
def FieldR (w0 w : World) (A0 : Option Addr) (q r h : Nat) (G : Nat → Prop) (ys : List UInt8) : Option (Fld × Nat × List Fld) → Ending → World → Prop
  | some (f, n, l'), e, w' => e = .returned (.tuple #[.agg #[.string f.n, .string f.v, .bool f.nv], .bool true]) ∧ ∃ G', PT w' q G' h l' ∧ RdAt w0 w' A0 r (ys.drop n) ∧ (∀ i, G' i → G i ∨ w.heap.size ≤ i) ∧ Fr (fun i => i = r ∨ G i) w w'
  | none, e, w' => ∃ a b c, e = .returned (.tuple #[.agg #[.string a, .string b, .bool c], .bool false]) ∧ Fr (fun i => i = r ∨ G i) w w'
section
variable {w0 w : World} {A0 : Option Addr} {p q r h : Nat} {l : List Fld} {G : Nat → Prop} {x : UInt8} {qs : List UInt8} {limit list : Int} {bk : Bool}
set_option maxHeartbeats 4000000 in
theorem dField_upd (t : PT w q G h l) (b : Blk w p 58 (decCells q limit list bk)) (rd : RdAt w0 w A0 r (x :: qs)) (hA : ∀ a, A0 = some a → a.block ≠ r) (hAl : ∀ a, A0 = some a → a.block < w.heap.size) (hAG : ∀ a, A0 = some a → ¬ G a.block) (hGr : ¬ G r) (hpr : p ≠ r) (hC : Cnt w) (hcr : 0 ≠ r) (hcG : ¬ G 0) (hlen : (x :: qs).length ≤ 536870912) (hk : kOf x.toNat = 32) : Calls Tryd.prog 62 #[.pointer (some ⟨p, 0, none⟩), .pointer (some ⟨r, 0, none⟩)] w (FieldR w0 w A0 q r h G (x :: qs) none) := by
  obtain ⟨k, hk2⟩ : ∃ k, k = 32 := ⟨_, rfl⟩
  have HK : Hid (kOf x.toNat = k) := hk.trans hk2.symm
  have hrl := rd.lt
  have b1 : Below w.heap.size w (w.alloc (.cells #[.string ⟨#[]⟩, .string ⟨#[]⟩, .bool false] 38)) := (Below.refl _ _).alloc (Nat.le_refl _) _
  have T1 : Hid (PT (w.alloc (.cells #[.string ⟨#[]⟩, .string ⟨#[]⟩, .bool false] 38)) q G h l) := t.fr (Fr.of_below (S := fun i => w.heap.size ≤ i) b1 (fun _ _ h => h)) (fun i hi => by have := t.lt i hi; omega)
  have B1 : Hid (Blk (w.alloc (.cells #[.string ⟨#[]⟩, .string ⟨#[]⟩, .bool false] 38)) p 58 (decCells q limit list bk)) := b.alloc _
  have R1 : Hid (RdAt w0 (w.alloc (.cells #[.string ⟨#[]⟩, .string ⟨#[]⟩, .bool false] 38)) A0 r (x :: qs)) := rd.below b1
  have C1 : Hid (Cnt (w.alloc (.cells #[.string ⟨#[]⟩, .string ⟨#[]⟩, .bool false] 38))) := hC.below b1
  have F1 : Hid (Fr (fun i => i = r ∨ G i) w (w.alloc (.cells #[.string ⟨#[]⟩, .string ⟨#[]⟩, .bool false] 38))) := (Fr.refl _ _).alloc _
  have X1 : Hid (Blk (w.alloc (.cells #[.string ⟨#[]⟩, .string ⟨#[]⟩, .bool false] 38)) w.heap.size 38 [.string ⟨#[]⟩, .string ⟨#[]⟩, .bool false]) := Blk.new w 38 _
  have x1f := X1.out.frozen
  have HA := Lib.hid hA
  have hne : w.heap.size ≠ r := by omega
  have HAl : Hid (∀ a, A0 = some a → ¬ a.block = w.heap.size) := fun a ha => by have := hAl a ha; omega
  have HAw := Lib.hid hAl
  have HAG := Lib.hid hAG
  have hGn : ¬ G w.heap.size := fun hg => by have := t.lt _ hg; omega
  have HGl : Hid (∀ i, G i → i < w.heap.size) := fun i hi => t.lt i hi
  clear t b rd hA hC b1 hAl hAG
  clear hk
  have kb : ((k : Int) == 32) = true := by simp; omega
  go_enter Tryd.func62, Tryd.ntmps62
  go_wp2_with (first
    | (go_at_call 75; (with_reducible refine (dKind_c R1.out k HK.out).mono ?_); rintro e w9 ⟨rfl, rfl⟩))
  have v0 := X1.out.cell 0
  have v1 := X1.out.cell 1
  have v2 := X1.out.cell 2
  simp only [List.getElem?_cons_zero, List.getElem?_cons_succ] at v0 v1 v2
  refine bodyPost_ret (v := .tuple #[.agg #[.string ⟨#[]⟩, .string ⟨#[]⟩, .bool false], .bool false]) (by simp [results, Tryd.results62, go_sem, v0, v1, v2]) rfl ?_
  exact ⟨_, _, _, rfl, F1.out⟩
set_option maxHeartbeats 4000000 in
theorem dField_nonum (t : PT w q G h l) (b : Blk w p 58 (decCells q limit list bk)) (rd : RdAt w0 w A0 r (x :: qs)) (hA : ∀ a, A0 = some a → a.block ≠ r) (hAl : ∀ a, A0 = some a → a.block < w.heap.size) (hAG : ∀ a, A0 = some a → ¬ G a.block) (hGr : ¬ G r) (hpr : p ≠ r) (hC : Cnt w) (hcr : 0 ≠ r) (hcG : ¬ G 0) (hlen : (x :: qs).length ≤ 536870912) (k : Nat) (hk : kOf x.toNat = k) (kb : ((k : Int) == 32) = false) (R0 : Go.Hin.G) (hR0 : getN (pOf x.toNat) (x :: qs) = R0) (hV0 : numV R0 = .tuple #[.int .i64 0, .bool false]) : Calls Tryd.prog 62 #[.pointer (some ⟨p, 0, none⟩), .pointer (some ⟨r, 0, none⟩)] w (FieldR w0 w A0 q r h G (x :: qs) none) := by
  have HK := Lib.hid hk
  have hrl := rd.lt
  have b1 : Below w.heap.size w (w.alloc (.cells #[.string ⟨#[]⟩, .string ⟨#[]⟩, .bool false] 38)) := (Below.refl _ _).alloc (Nat.le_refl _) _
  have T1 : Hid (PT (w.alloc (.cells #[.string ⟨#[]⟩, .string ⟨#[]⟩, .bool false] 38)) q G h l) := t.fr (Fr.of_below (S := fun i => w.heap.size ≤ i) b1 (fun _ _ h => h)) (fun i hi => by have := t.lt i hi; omega)
  have B1 : Hid (Blk (w.alloc (.cells #[.string ⟨#[]⟩, .string ⟨#[]⟩, .bool false] 38)) p 58 (decCells q limit list bk)) := b.alloc _
  have R1 : Hid (RdAt w0 (w.alloc (.cells #[.string ⟨#[]⟩, .string ⟨#[]⟩, .bool false] 38)) A0 r (x :: qs)) := rd.below b1
  have C1 : Hid (Cnt (w.alloc (.cells #[.string ⟨#[]⟩, .string ⟨#[]⟩, .bool false] 38))) := hC.below b1
  have F1 : Hid (Fr (fun i => i = r ∨ G i) w (w.alloc (.cells #[.string ⟨#[]⟩, .string ⟨#[]⟩, .bool false] 38))) := (Fr.refl _ _).alloc _
  have X1 : Hid (Blk (w.alloc (.cells #[.string ⟨#[]⟩, .string ⟨#[]⟩, .bool false] 38)) w.heap.size 38 [.string ⟨#[]⟩, .string ⟨#[]⟩, .bool false]) := Blk.new w 38 _
  have x1f := X1.out.frozen
  have HA := Lib.hid hA
  have hne : w.heap.size ≠ r := by omega
  have HAl : Hid (∀ a, A0 = some a → ¬ a.block = w.heap.size) := fun a ha => by have := hAl a ha; omega
  have HAw := Lib.hid hAl
  have HAG := Lib.hid hAG
  have hGn : ¬ G w.heap.size := fun hg => by have := t.lt _ hg; omega
  have HGl : Hid (∀ i, G i → i < w.heap.size) := fun i hi => t.lt i hi
  clear t b rd hA hC b1 hAl hAG
  have HR0 := Lib.hid hR0
  have HV0 := Lib.hid hV0
  obtain ⟨ys0, hD0⟩ : ∃ ys0, (x :: qs).drop (numN R0) = ys0 := ⟨_, rfl⟩
  have HD0 := Lib.hid hD0
  clear hk hR0 hV0 hD0
  go_enter Tryd.func62, Tryd.ntmps62
  go_wp2_with (first
    | (go_at_call 75; (with_reducible refine (dKind_c R1.out k HK.out).mono ?_); rintro e w9 ⟨rfl, rfl⟩)
    | (go_at_call 76; (with_reducible refine (dNumber_c R1.out HA.out _ HR0.out _ HV0.out _ HD0.out).mono ?_); rintro e w2 ⟨rfl, rd2, f2⟩
       have F2 := Lib.hid (F1.out.trans f2 (fun _ _ h => .inl h))
       have X2 := X1.out.fr f2 hne
       have z0 := X2.cell 0
       have z1 := X2.cell 1
       have z2 := X2.cell 2
       have zf := X2.frozen
       have X2 := Lib.hid X2
       simp only [List.getElem?_cons_zero, List.getElem?_cons_succ] at z0 z1 z2
       have R2 := Lib.hid rd2
       have C2 := Lib.hid (C1.out.fr f2 hcr)
       have T2 := Lib.hid (T1.out.fr f2 (fun i hi e => hGr (e ▸ hi)))
       have B2 := B1.out.fr f2 hpr
       have y2 := B2.cell 0
       have B2 := Lib.hid B2
       simp only [List.getElem?_cons_zero] at y2
       clear rd2 f2))
  have X7 : Hid (Blk _ w.heap.size 38 [.string ⟨#[]⟩, .string ⟨#[]⟩, .bool false]) := ((X2.out.set_ 0 (.string ⟨#[]⟩)).set_ 1 (.string ⟨#[]⟩)).set_ 2 (.bool false)
  have F7 := Lib.hid (((F2.out.setCell (p := ⟨w.heap.size, 0, none⟩) (.inr (Nat.le_refl _)) (.string ⟨#[]⟩)).setCell (p := ⟨w.heap.size, 1, none⟩) (.inr (Nat.le_refl _)) (.string ⟨#[]⟩)).setCell (p := ⟨w.heap.size, 2, none⟩) (.inr (Nat.le_refl _)) (.bool false))
  clear z0 z1 z2 zf F2 X2
  obtain ⟨w7, hw7⟩ : ∃ w7, (((w2.setCell ⟨w.heap.size, 0, none⟩ (.string ⟨#[]⟩)).setCell ⟨w.heap.size, 1, none⟩ (.string ⟨#[]⟩)).setCell ⟨w.heap.size, 2, none⟩ (.bool false)) = w7 := ⟨_, rfl⟩
  rw [hw7] at X7 F7 ⊢
  have v0 := X7.out.cell 0
  have v1 := X7.out.cell 1
  have v2 := X7.out.cell 2
  simp only [List.getElem?_cons_zero, List.getElem?_cons_succ] at v0 v1 v2
  refine bodyPost_ret (v := .tuple #[.agg #[.string ⟨#[]⟩, .string ⟨#[]⟩, .bool false], .bool false]) (by simp [results, Tryd.results62, go_sem, v0, v1, v2]) rfl ?_
  exact ⟨_, _, _, rfl, F7.out⟩
set_option maxHeartbeats 4000000 in
theorem dField_at_none (t : PT w q G h l) (b : Blk w p 58 (decCells q limit list bk)) (rd : RdAt w0 w A0 r (x :: qs)) (hA : ∀ a, A0 = some a → a.block ≠ r) (hAl : ∀ a, A0 = some a → a.block < w.heap.size) (hAG : ∀ a, A0 = some a → ¬ G a.block) (hGr : ¬ G r) (hpr : p ≠ r) (hC : Cnt w) (hcr : 0 ≠ r) (hcG : ¬ G 0) (hlen : (x :: qs).length ≤ 536870912) (k : Nat) (hk : kOf x.toNat = k) (hk2 : k = 128) (i n : Nat) (hi : i ≤ 2147483647) (hR0 : getN (pOf x.toNat) (x :: qs) = .ok i n) (hM : nth (statL ++ l) i = none) : Calls Tryd.prog 62 #[.pointer (some ⟨p, 0, none⟩), .pointer (some ⟨r, 0, none⟩)] w (FieldR w0 w A0 q r h G (x :: qs) none) := by
  have kb : ((k : Int) == 32) = false := by simp; omega
  have kb2 : ((k : Int) == 128) = true := by simp; omega
  have HK := Lib.hid hk
  have hrl := rd.lt
  have b1 : Below w.heap.size w (w.alloc (.cells #[.string ⟨#[]⟩, .string ⟨#[]⟩, .bool false] 38)) := (Below.refl _ _).alloc (Nat.le_refl _) _
  have T1 : Hid (PT (w.alloc (.cells #[.string ⟨#[]⟩, .string ⟨#[]⟩, .bool false] 38)) q G h l) := t.fr (Fr.of_below (S := fun i => w.heap.size ≤ i) b1 (fun _ _ h => h)) (fun i hi => by have := t.lt i hi; omega)
  have B1 : Hid (Blk (w.alloc (.cells #[.string ⟨#[]⟩, .string ⟨#[]⟩, .bool false] 38)) p 58 (decCells q limit list bk)) := b.alloc _
  have R1 : Hid (RdAt w0 (w.alloc (.cells #[.string ⟨#[]⟩, .string ⟨#[]⟩, .bool false] 38)) A0 r (x :: qs)) := rd.below b1
  have C1 : Hid (Cnt (w.alloc (.cells #[.string ⟨#[]⟩, .string ⟨#[]⟩, .bool false] 38))) := hC.below b1
  have F1 : Hid (Fr (fun i => i = r ∨ G i) w (w.alloc (.cells #[.string ⟨#[]⟩, .string ⟨#[]⟩, .bool false] 38))) := (Fr.refl _ _).alloc _
  have X1 : Hid (Blk (w.alloc (.cells #[.string ⟨#[]⟩, .string ⟨#[]⟩, .bool false] 38)) w.heap.size 38 [.string ⟨#[]⟩, .string ⟨#[]⟩, .bool false]) := Blk.new w 38 _
  have x1f := X1.out.frozen
  have HA := Lib.hid hA
  have hne : w.heap.size ≠ r := by omega
  have HAl : Hid (∀ a, A0 = some a → ¬ a.block = w.heap.size) := fun a ha => by have := hAl a ha; omega
  have HAw := Lib.hid hAl
  have HAG := Lib.hid hAG
  have hGn : ¬ G w.heap.size := fun hg => by have := t.lt _ hg; omega
  have HGl : Hid (∀ i, G i → i < w.heap.size) := fun i hi => t.lt i hi
  clear t b rd hA hC b1 hAl hAG
  have HR0 := Lib.hid hR0
  have HV0 : Hid (numV (.ok i n) = .tuple #[.int .i64 (i : Int), .bool true]) := rfl
  have HD0 : Hid ((x :: qs).drop (numN (.ok i n)) = (x :: qs).drop n) := rfl
  clear hk hR0
  have HM := Lib.hid hM
  clear hM
  go_enter Tryd.func62, Tryd.ntmps62
  go_wp2_with (first
    | (go_at_call 75; (with_reducible refine (dKind_c R1.out k HK.out).mono ?_); rintro e w9 ⟨rfl, rfl⟩)
    | (go_at_call 76; (with_reducible refine (dNumber_c R1.out HA.out _ HR0.out _ HV0.out _ HD0.out).mono ?_); rintro e w2 ⟨rfl, rd2, f2⟩
       have F2 := Lib.hid (F1.out.trans f2 (fun _ _ h => .inl h))
       have X2 := X1.out.fr f2 hne
       have z0 := X2.cell 0
       have z1 := X2.cell 1
       have z2 := X2.cell 2
       have zf := X2.frozen
       have X2 := Lib.hid X2
       simp only [List.getElem?_cons_zero, List.getElem?_cons_succ] at z0 z1 z2
       have R2 := Lib.hid rd2
       have C2 := Lib.hid (C1.out.fr f2 hcr)
       have T2 := Lib.hid (T1.out.fr f2 (fun i hi e => hGr (e ▸ hi)))
       have B2 := B1.out.fr f2 hpr
       have y2 := B2.cell 0
       have B2 := Lib.hid B2
       simp only [List.getElem?_cons_zero] at y2
       clear rd2 f2)
    | (go_at_call 77; (with_reducible refine (pAt_n T2.out i hi _ HM.out).mono ?_); rintro e w5 ⟨rfl, hb⟩; unfold atV
       have f5 : Fr (fun _ => False) w2 w5 := Fr.of_below hb (fun i h1 h2 => by omega)
       have F5 := Lib.hid (F2.out.trans f5 (fun _ _ h => h.elim))
       have X5 := X2.out.fr f5 (fun h => h)
       have u0 := X5.cell 0
       have u1 := X5.cell 1
       have u2 := X5.cell 2
       have uf := X5.frozen
       have X5 := Lib.hid X5
       simp only [List.getElem?_cons_zero, List.getElem?_cons_succ] at u0 u1 u2
       have T5 := Lib.hid (T2.out.fr f5 (fun i hi h => h))
       have R5 := Lib.hid (R2.out.fr0 f5 (fun h => h) (fun a ha h => h))
       clear f5 hb z0 z1 z2 zf y2))
  have X7 : Hid (Blk _ w.heap.size 38 [.string ⟨#[]⟩, .string ⟨#[]⟩, .bool false]) := ((X5.out.set_ 0 (.string ⟨#[]⟩)).set_ 1 (.string ⟨#[]⟩)).set_ 2 (.bool false)
  have F7 := Lib.hid (((F5.out.setCell (p := ⟨w.heap.size, 0, none⟩) (.inr (Nat.le_refl _)) (.string ⟨#[]⟩)).setCell (p := ⟨w.heap.size, 1, none⟩) (.inr (Nat.le_refl _)) (.string ⟨#[]⟩)).setCell (p := ⟨w.heap.size, 2, none⟩) (.inr (Nat.le_refl _)) (.bool false))
  clear u0 u1 u2 uf F5 X5
  obtain ⟨w7, hw7⟩ : ∃ w7, (((w5.setCell ⟨w.heap.size, 0, none⟩ (.string ⟨#[]⟩)).setCell ⟨w.heap.size, 1, none⟩ (.string ⟨#[]⟩)).setCell ⟨w.heap.size, 2, none⟩ (.bool false)) = w7 := ⟨_, rfl⟩
  rw [hw7] at X7 F7 ⊢
  have v0 := X7.out.cell 0
  have v1 := X7.out.cell 1
  have v2 := X7.out.cell 2
  simp only [List.getElem?_cons_zero, List.getElem?_cons_succ] at v0 v1 v2
  refine bodyPost_ret (v := .tuple #[.agg #[.string ⟨#[]⟩, .string ⟨#[]⟩, .bool false], .bool false]) (by simp [results, Tryd.results62, go_sem, v0, v1, v2]) rfl ?_
  exact ⟨_, _, _, rfl, F7.out⟩
set_option maxHeartbeats 4000000 in
theorem dField_at_some (t : PT w q G h l) (b : Blk w p 58 (decCells q limit list bk)) (rd : RdAt w0 w A0 r (x :: qs)) (hA : ∀ a, A0 = some a → a.block ≠ r) (hAl : ∀ a, A0 = some a → a.block < w.heap.size) (hAG : ∀ a, A0 = some a → ¬ G a.block) (hGr : ¬ G r) (hpr : p ≠ r) (hC : Cnt w) (hcr : 0 ≠ r) (hcG : ¬ G 0) (hlen : (x :: qs).length ≤ 536870912) (k : Nat) (hk : kOf x.toNat = k) (hk2 : k = 128) (i n : Nat) (hi : i ≤ 2147483647) (hR0 : getN (pOf x.toNat) (x :: qs) = .ok i n) (g : Fld) (hM : nth (statL ++ l) i = some g) : Calls Tryd.prog 62 #[.pointer (some ⟨p, 0, none⟩), .pointer (some ⟨r, 0, none⟩)] w (FieldR w0 w A0 q r h G (x :: qs) (some (g, n, l))) := by
  have kb : ((k : Int) == 32) = false := by simp; omega
  have kb2 : ((k : Int) == 128) = true := by simp; omega
  have HK := Lib.hid hk
  have hrl := rd.lt
  have b1 : Below w.heap.size w (w.alloc (.cells #[.string ⟨#[]⟩, .string ⟨#[]⟩, .bool false] 38)) := (Below.refl _ _).alloc (Nat.le_refl _) _
  have T1 : Hid (PT (w.alloc (.cells #[.string ⟨#[]⟩, .string ⟨#[]⟩, .bool false] 38)) q G h l) := t.fr (Fr.of_below (S := fun i => w.heap.size ≤ i) b1 (fun _ _ h => h)) (fun i hi => by have := t.lt i hi; omega)
  have B1 : Hid (Blk (w.alloc (.cells #[.string ⟨#[]⟩, .string ⟨#[]⟩, .bool false] 38)) p 58 (decCells q limit list bk)) := b.alloc _
  have R1 : Hid (RdAt w0 (w.alloc (.cells #[.string ⟨#[]⟩, .string ⟨#[]⟩, .bool false] 38)) A0 r (x :: qs)) := rd.below b1
  have C1 : Hid (Cnt (w.alloc (.cells #[.string ⟨#[]⟩, .string ⟨#[]⟩, .bool false] 38))) := hC.below b1
  have F1 : Hid (Fr (fun i => i = r ∨ G i) w (w.alloc (.cells #[.string ⟨#[]⟩, .string ⟨#[]⟩, .bool false] 38))) := (Fr.refl _ _).alloc _
  have X1 : Hid (Blk (w.alloc (.cells #[.string ⟨#[]⟩, .string ⟨#[]⟩, .bool false] 38)) w.heap.size 38 [.string ⟨#[]⟩, .string ⟨#[]⟩, .bool false]) := Blk.new w 38 _
  have x1f := X1.out.frozen
  have HA := Lib.hid hA
  have hne : w.heap.size ≠ r := by omega
  have HAl : Hid (∀ a, A0 = some a → ¬ a.block = w.heap.size) := fun a ha => by have := hAl a ha; omega
  have HAw := Lib.hid hAl
  have HAG := Lib.hid hAG
  have hGn : ¬ G w.heap.size := fun hg => by have := t.lt _ hg; omega
  have HGl : Hid (∀ i, G i → i < w.heap.size) := fun i hi => t.lt i hi
  clear t b rd hA hC b1 hAl hAG
  have HR0 := Lib.hid hR0
  have HV0 : Hid (numV (.ok i n) = .tuple #[.int .i64 (i : Int), .bool true]) := rfl
  have HD0 : Hid ((x :: qs).drop (numN (.ok i n)) = (x :: qs).drop n) := rfl
  clear hk hR0
  have HM := Lib.hid hM
  clear hM
  go_enter Tryd.func62, Tryd.ntmps62
  go_wp2_with (first
    | (go_at_call 75; (with_reducible refine (dKind_c R1.out k HK.out).mono ?_); rintro e w9 ⟨rfl, rfl⟩)
    | (go_at_call 76; (with_reducible refine (dNumber_c R1.out HA.out _ HR0.out _ HV0.out _ HD0.out).mono ?_); rintro e w2 ⟨rfl, rd2, f2⟩
       have F2 := Lib.hid (F1.out.trans f2 (fun _ _ h => .inl h))
       have X2 := X1.out.fr f2 hne
       have z0 := X2.cell 0
       have z1 := X2.cell 1
       have z2 := X2.cell 2
       have zf := X2.frozen
       have X2 := Lib.hid X2
       simp only [List.getElem?_cons_zero, List.getElem?_cons_succ] at z0 z1 z2
       have R2 := Lib.hid rd2
       have C2 := Lib.hid (C1.out.fr f2 hcr)
       have T2 := Lib.hid (T1.out.fr f2 (fun i hi e => hGr (e ▸ hi)))
       have B2 := B1.out.fr f2 hpr
       have y2 := B2.cell 0
       have B2 := Lib.hid B2
       simp only [List.getElem?_cons_zero] at y2
       clear rd2 f2)
    | (go_at_call 77; (with_reducible refine (pAt_n T2.out i hi _ HM.out).mono ?_); rintro e w5 ⟨rfl, hb⟩; unfold atV
       have f5 : Fr (fun _ => False) w2 w5 := Fr.of_below hb (fun i h1 h2 => by omega)
       have F5 := Lib.hid (F2.out.trans f5 (fun _ _ h => h.elim))
       have X5 := X2.out.fr f5 (fun h => h)
       have u0 := X5.cell 0
       have u1 := X5.cell 1
       have u2 := X5.cell 2
       have uf := X5.frozen
       have X5 := Lib.hid X5
       simp only [List.getElem?_cons_zero, List.getElem?_cons_succ] at u0 u1 u2
       have T5 := Lib.hid (T2.out.fr f5 (fun i hi h => h))
       have R5 := Lib.hid (R2.out.fr0 f5 (fun h => h) (fun a ha h => h))
       clear f5 hb z0 z1 z2 zf y2))
  have X7 : Hid (Blk _ w.heap.size 38 [.string g.n, .string g.v, .bool g.nv]) := ((X5.out.set_ 0 (.string g.n)).set_ 1 (.string g.v)).set_ 2 (.bool g.nv)
  have F7 := Lib.hid (((F5.out.setCell (p := ⟨w.heap.size, 0, none⟩) (.inr (Nat.le_refl _)) (.string g.n)).setCell (p := ⟨w.heap.size, 1, none⟩) (.inr (Nat.le_refl _)) (.string g.v)).setCell (p := ⟨w.heap.size, 2, none⟩) (.inr (Nat.le_refl _)) (.bool g.nv))
  have R7 := Lib.hid (((R5.out.fr0 ((Fr.refl (fun i => i = w.heap.size) _).setCell (p := ⟨w.heap.size, 0, none⟩) (.inl rfl) (.string g.n)) (fun e => hne e.symm) HAl.out).fr0 ((Fr.refl (fun i => i = w.heap.size) _).setCell (p := ⟨w.heap.size, 1, none⟩) (.inl rfl) (.string g.v)) (fun e => hne e.symm) HAl.out).fr0 ((Fr.refl (fun i => i = w.heap.size) _).setCell (p := ⟨w.heap.size, 2, none⟩) (.inl rfl) (.bool g.nv)) (fun e => hne e.symm) HAl.out)
  have T7 := Lib.hid (((T5.out.fr ((Fr.refl (fun i => i = w.heap.size) _).setCell (p := ⟨w.heap.size, 0, none⟩) (.inl rfl) (.string g.n)) (fun i hi e => hGn (e ▸ hi))).fr ((Fr.refl (fun i => i = w.heap.size) _).setCell (p := ⟨w.heap.size, 1, none⟩) (.inl rfl) (.string g.v)) (fun i hi e => hGn (e ▸ hi))).fr ((Fr.refl (fun i => i = w.heap.size) _).setCell (p := ⟨w.heap.size, 2, none⟩) (.inl rfl) (.bool g.nv)) (fun i hi e => hGn (e ▸ hi)))
  clear u0 u1 u2 uf F5 X5
  obtain ⟨w7, hw7⟩ : ∃ w7, (((w5.setCell ⟨w.heap.size, 0, none⟩ (.string g.n)).setCell ⟨w.heap.size, 1, none⟩ (.string g.v)).setCell ⟨w.heap.size, 2, none⟩ (.bool g.nv)) = w7 := ⟨_, rfl⟩
  rw [hw7] at X7 F7 R7 T7 ⊢
  have v0 := X7.out.cell 0
  have v1 := X7.out.cell 1
  have v2 := X7.out.cell 2
  simp only [List.getElem?_cons_zero, List.getElem?_cons_succ] at v0 v1 v2
  refine bodyPost_ret (v := .tuple #[.agg #[.string g.n, .string g.v, .bool g.nv], .bool true]) (by simp [results, Tryd.results62, go_sem, v0, v1, v2]) rfl ?_
  exact ⟨rfl, G, T7.out, R7.out, fun i hi => .inl hi, F7.out⟩
set_option maxHeartbeats 4000000 in
theorem dField_noname (t : PT w q G h l) (b : Blk w p 58 (decCells q limit list bk)) (rd : RdAt w0 w A0 r (x :: qs)) (hA : ∀ a, A0 = some a → a.block ≠ r) (hAl : ∀ a, A0 = some a → a.block < w.heap.size) (hAG : ∀ a, A0 = some a → ¬ G a.block) (hGr : ¬ G r) (hpr : p ≠ r) (hC : Cnt w) (hcr : 0 ≠ r) (hcG : ¬ G 0) (hlen : (x :: qs).length ≤ 536870912) (k : Nat) (hk : kOf x.toNat = k) (hk2 : k = 64 ∨ k = 16 ∨ k = 0) (i n : Nat) (hi : i ≤ 2147483647) (hR0 : getN (pOf x.toNat) (x :: qs) = .ok i n) (hM : namedD (statL ++ l) i ((x :: qs).drop n) = none) : Calls Tryd.prog 62 #[.pointer (some ⟨p, 0, none⟩), .pointer (some ⟨r, 0, none⟩)] w (FieldR w0 w A0 q r h G (x :: qs) none) := by
  have kb : ((k : Int) == 32) = false := by simp; omega
  have kb2 : ((k : Int) == 128) = false := by simp; omega
  have HK := Lib.hid hk
  have hrl := rd.lt
  have b1 : Below w.heap.size w (w.alloc (.cells #[.string ⟨#[]⟩, .string ⟨#[]⟩, .bool false] 38)) := (Below.refl _ _).alloc (Nat.le_refl _) _
  have T1 : Hid (PT (w.alloc (.cells #[.string ⟨#[]⟩, .string ⟨#[]⟩, .bool false] 38)) q G h l) := t.fr (Fr.of_below (S := fun i => w.heap.size ≤ i) b1 (fun _ _ h => h)) (fun i hi => by have := t.lt i hi; omega)
  have B1 : Hid (Blk (w.alloc (.cells #[.string ⟨#[]⟩, .string ⟨#[]⟩, .bool false] 38)) p 58 (decCells q limit list bk)) := b.alloc _
  have R1 : Hid (RdAt w0 (w.alloc (.cells #[.string ⟨#[]⟩, .string ⟨#[]⟩, .bool false] 38)) A0 r (x :: qs)) := rd.below b1
  have C1 : Hid (Cnt (w.alloc (.cells #[.string ⟨#[]⟩, .string ⟨#[]⟩, .bool false] 38))) := hC.below b1
  have F1 : Hid (Fr (fun i => i = r ∨ G i) w (w.alloc (.cells #[.string ⟨#[]⟩, .string ⟨#[]⟩, .bool false] 38))) := (Fr.refl _ _).alloc _
  have X1 : Hid (Blk (w.alloc (.cells #[.string ⟨#[]⟩, .string ⟨#[]⟩, .bool false] 38)) w.heap.size 38 [.string ⟨#[]⟩, .string ⟨#[]⟩, .bool false]) := Blk.new w 38 _
  have x1f := X1.out.frozen
  have HA := Lib.hid hA
  have hne : w.heap.size ≠ r := by omega
  have HAl : Hid (∀ a, A0 = some a → ¬ a.block = w.heap.size) := fun a ha => by have := hAl a ha; omega
  have HAw := Lib.hid hAl
  have HAG := Lib.hid hAG
  have hGn : ¬ G w.heap.size := fun hg => by have := t.lt _ hg; omega
  have HGl : Hid (∀ i, G i → i < w.heap.size) := fun i hi => t.lt i hi
  clear t b rd hA hC b1 hAl hAG
  have HR0 := Lib.hid hR0
  have HV0 : Hid (numV (.ok i n) = .tuple #[.int .i64 (i : Int), .bool true]) := rfl
  have HD0 : Hid ((x :: qs).drop (numN (.ok i n)) = (x :: qs).drop n) := rfl
  clear hk hR0
  have HM := Lib.hid hM
  have HA2 : Hid (∀ (w2 : World), w.heap.size ≤ w2.heap.size → ∀ a, A0 = some a → a.block < w2.heap.size) := fun w2 hz a ha => Nat.lt_of_lt_of_le (HAw.out a ha) hz
  have hl2 : ((x :: qs).drop n).length ≤ 536870912 := by rw [List.length_drop]; omega
  clear hM
  go_enter Tryd.func62, Tryd.ntmps62
  go_wp2_with (first
    | (go_at_call 75; (with_reducible refine (dKind_c R1.out k HK.out).mono ?_); rintro e w9 ⟨rfl, rfl⟩)
    | (go_at_call 76; (with_reducible refine (dNumber_c R1.out HA.out _ HR0.out _ HV0.out _ HD0.out).mono ?_); rintro e w2 ⟨rfl, rd2, f2⟩
       have F2 := Lib.hid (F1.out.trans f2 (fun _ _ h => .inl h))
       have X2 := X1.out.fr f2 hne
       have z0 := X2.cell 0
       have z1 := X2.cell 1
       have z2 := X2.cell 2
       have zf := X2.frozen
       have X2 := Lib.hid X2
       simp only [List.getElem?_cons_zero, List.getElem?_cons_succ] at z0 z1 z2
       have R2 := Lib.hid rd2
       have C2 := Lib.hid (C1.out.fr f2 hcr)
       have T2 := Lib.hid (T1.out.fr f2 (fun i hi e => hGr (e ▸ hi)))
       have B2 := B1.out.fr f2 hpr
       have y2 := B2.cell 0
       have B2 := Lib.hid B2
       simp only [List.getElem?_cons_zero] at y2
       clear rd2 f2)
    | (go_at_call 78; (with_reducible refine (dNamed_c T2.out B2.out R2.out HA.out (HA2.out w2 F2.out.size) hGr hpr C2.out hcr hl2 i hi _ HM.out).mono ?_); rintro e w5 ⟨na, va, rfl, f5⟩
       have F5 := Lib.hid (F2.out.trans f5 (fun _ _ h => .inl h))
       have X5 := X2.out.fr f5 hne
       have hz5 := Blk.lt X5
       have u0 := X5.cell 0
       have u1 := X5.cell 1
       have u2 := X5.cell 2
       have uf := X5.frozen
       have X5 := Lib.hid X5
       simp only [List.getElem?_cons_zero, List.getElem?_cons_succ] at u0 u1 u2
       have T5 := Lib.hid (T2.out.fr f5 (fun i hi e => hGr (e ▸ hi)))
       have B5 := B2.out.fr f5 hpr
       have y5 := B5.cell 0
       have B5 := Lib.hid B5
       simp only [List.getElem?_cons_zero] at y5
       clear f5 z0 z1 z2 zf y2))
  have X7 : Hid (Blk _ w.heap.size 38 [.string ⟨#[]⟩, .string ⟨#[]⟩, .bool false]) := ((X5.out.set_ 0 (.string ⟨#[]⟩)).set_ 1 (.string ⟨#[]⟩)).set_ 2 (.bool false)
  have F7 := Lib.hid (((F5.out.setCell (p := ⟨w.heap.size, 0, none⟩) (.inr (Nat.le_refl _)) (.string ⟨#[]⟩)).setCell (p := ⟨w.heap.size, 1, none⟩) (.inr (Nat.le_refl _)) (.string ⟨#[]⟩)).setCell (p := ⟨w.heap.size, 2, none⟩) (.inr (Nat.le_refl _)) (.bool false))
  clear u0 u1 u2 uf F5 X5
  obtain ⟨w7, hw7⟩ : ∃ w7, (((w5.setCell ⟨w.heap.size, 0, none⟩ (.string ⟨#[]⟩)).setCell ⟨w.heap.size, 1, none⟩ (.string ⟨#[]⟩)).setCell ⟨w.heap.size, 2, none⟩ (.bool false)) = w7 := ⟨_, rfl⟩
  rw [hw7] at X7 F7 ⊢
  have v0 := (X7.out.alloc (.cells #[.string na, .string va, .bool false] 38)).cell 0
  have v1 := (X7.out.alloc (.cells #[.string na, .string va, .bool false] 38)).cell 1
  have v2 := (X7.out.alloc (.cells #[.string na, .string va, .bool false] 38)).cell 2
  simp only [List.getElem?_cons_zero, List.getElem?_cons_succ] at v0 v1 v2
  refine bodyPost_ret (v := .tuple #[.agg #[.string ⟨#[]⟩, .string ⟨#[]⟩, .bool false], .bool false]) (by simp [results, Tryd.results62, go_sem, v0, v1, v2]) rfl ?_
  exact ⟨_, _, _, rfl, F7.out.alloc _⟩
set_option maxHeartbeats 4000000 in
theorem dField_put (t : PT w q G h l) (b : Blk w p 58 (decCells q limit list bk)) (rd : RdAt w0 w A0 r (x :: qs)) (hA : ∀ a, A0 = some a → a.block ≠ r) (hAl : ∀ a, A0 = some a → a.block < w.heap.size) (hAG : ∀ a, A0 = some a → ¬ G a.block) (hGr : ¬ G r) (hpr : p ≠ r) (hC : Cnt w) (hcr : 0 ≠ r) (hcG : ¬ G 0) (hlen : (x :: qs).length ≤ 536870912) (k : Nat) (hk : kOf x.toNat = k) (hk2 : k = 16 ∨ k = 0) (nv : Bool) (kn : ((k : Int) == 16) = nv) (i n : Nat) (hi : i ≤ 2147483647) (hR0 : getN (pOf x.toNat) (x :: qs) = .ok i n) (f : Fld) (m : Nat) (hM : namedD (statL ++ l) i ((x :: qs).drop n) = some (f, m)) : Calls Tryd.prog 62 #[.pointer (some ⟨p, 0, none⟩), .pointer (some ⟨r, 0, none⟩)] w (FieldR w0 w A0 q r h G (x :: qs) (some (⟨f.n, f.v, nv⟩, n + m, l))) := by
  have kb : ((k : Int) == 32) = false := by simp; omega
  have kb3 : ((k : Int) == 64) = false := by simp; omega
  have kb2 : ((k : Int) == 128) = false := by simp; omega
  have HK := Lib.hid hk
  have hrl := rd.lt
  have b1 : Below w.heap.size w (w.alloc (.cells #[.string ⟨#[]⟩, .string ⟨#[]⟩, .bool false] 38)) := (Below.refl _ _).alloc (Nat.le_refl _) _
  have T1 : Hid (PT (w.alloc (.cells #[.string ⟨#[]⟩, .string ⟨#[]⟩, .bool false] 38)) q G h l) := t.fr (Fr.of_below (S := fun i => w.heap.size ≤ i) b1 (fun _ _ h => h)) (fun i hi => by have := t.lt i hi; omega)
  have B1 : Hid (Blk (w.alloc (.cells #[.string ⟨#[]⟩, .string ⟨#[]⟩, .bool false] 38)) p 58 (decCells q limit list bk)) := b.alloc _
  have R1 : Hid (RdAt w0 (w.alloc (.cells #[.string ⟨#[]⟩, .string ⟨#[]⟩, .bool false] 38)) A0 r (x :: qs)) := rd.below b1
  have C1 : Hid (Cnt (w.alloc (.cells #[.string ⟨#[]⟩, .string ⟨#[]⟩, .bool false] 38))) := hC.below b1
  have F1 : Hid (Fr (fun i => i = r ∨ G i) w (w.alloc (.cells #[.string ⟨#[]⟩, .string ⟨#[]⟩, .bool false] 38))) := (Fr.refl _ _).alloc _
  have X1 : Hid (Blk (w.alloc (.cells #[.string ⟨#[]⟩, .string ⟨#[]⟩, .bool false] 38)) w.heap.size 38 [.string ⟨#[]⟩, .string ⟨#[]⟩, .bool false]) := Blk.new w 38 _
  have x1f := X1.out.frozen
  have HA := Lib.hid hA
  have hne : w.heap.size ≠ r := by omega
  have HAl : Hid (∀ a, A0 = some a → ¬ a.block = w.heap.size) := fun a ha => by have := hAl a ha; omega
  have HAw := Lib.hid hAl
  have HAG := Lib.hid hAG
  have hGn : ¬ G w.heap.size := fun hg => by have := t.lt _ hg; omega
  have HGl : Hid (∀ i, G i → i < w.heap.size) := fun i hi => t.lt i hi
  clear t b rd hA hC b1 hAl hAG
  have HR0 := Lib.hid hR0
  have HV0 : Hid (numV (.ok i n) = .tuple #[.int .i64 (i : Int), .bool true]) := rfl
  have HD0 : Hid ((x :: qs).drop (numN (.ok i n)) = (x :: qs).drop n) := rfl
  clear hk hR0
  have HM := Lib.hid hM
  have HA2 : Hid (∀ (w2 : World), w.heap.size ≤ w2.heap.size → ∀ a, A0 = some a → a.block < w2.heap.size) := fun w2 hz a ha => Nat.lt_of_lt_of_le (HAw.out a ha) hz
  have hl2 : ((x :: qs).drop n).length ≤ 536870912 := by rw [List.length_drop]; omega
  clear hM
  go_enter Tryd.func62, Tryd.ntmps62
  go_wp2_with (first
    | (go_at_call 75; (with_reducible refine (dKind_c R1.out k HK.out).mono ?_); rintro e w9 ⟨rfl, rfl⟩)
    | (go_at_call 76; (with_reducible refine (dNumber_c R1.out HA.out _ HR0.out _ HV0.out _ HD0.out).mono ?_); rintro e w2 ⟨rfl, rd2, f2⟩
       have F2 := Lib.hid (F1.out.trans f2 (fun _ _ h => .inl h))
       have X2 := X1.out.fr f2 hne
       have z0 := X2.cell 0
       have z1 := X2.cell 1
       have z2 := X2.cell 2
       have zf := X2.frozen
       have X2 := Lib.hid X2
       simp only [List.getElem?_cons_zero, List.getElem?_cons_succ] at z0 z1 z2
       have R2 := Lib.hid rd2
       have C2 := Lib.hid (C1.out.fr f2 hcr)
       have T2 := Lib.hid (T1.out.fr f2 (fun i hi e => hGr (e ▸ hi)))
       have B2 := B1.out.fr f2 hpr
       have y2 := B2.cell 0
       have B2 := Lib.hid B2
       simp only [List.getElem?_cons_zero] at y2
       clear rd2 f2)
    | (go_at_call 78; (with_reducible refine (dNamed_c T2.out B2.out R2.out HA.out (HA2.out w2 F2.out.size) hGr hpr C2.out hcr hl2 i hi _ HM.out).mono ?_); rintro e w5 ⟨rfl, rd5, f5⟩
       have F5 := Lib.hid (F2.out.trans f5 (fun _ _ h => .inl h))
       have X5 := X2.out.fr f5 hne
       have hz5 := Blk.lt X5
       have u0 := X5.cell 0
       have u1 := X5.cell 1
       have u2 := X5.cell 2
       have uf := X5.frozen
       have X5 := Lib.hid X5
       simp only [List.getElem?_cons_zero, List.getElem?_cons_succ] at u0 u1 u2
       have T5 := Lib.hid (T2.out.fr f5 (fun i hi e => hGr (e ▸ hi)))
       have B5 := B2.out.fr f5 hpr
       have y5 := B5.cell 0
       have B5 := Lib.hid B5
       simp only [List.getElem?_cons_zero] at y5
       rw [List.drop_drop] at rd5
       have R5 := Lib.hid rd5
       clear rd5
       clear f5 z0 z1 z2 zf y2))
  have X7 : Hid (Blk _ w.heap.size 38 [.string f.n, .string f.v, .bool nv]) := ((X5.out.set_ 0 (.string f.n)).set_ 1 (.string f.v)).set_ 2 (.bool nv)
  have F7 := Lib.hid (((F5.out.setCell (p := ⟨w.heap.size, 0, none⟩) (.inr (Nat.le_refl _)) (.string f.n)).setCell (p := ⟨w.heap.size, 1, none⟩) (.inr (Nat.le_refl _)) (.string f.v)).setCell (p := ⟨w.heap.size, 2, none⟩) (.inr (Nat.le_refl _)) (.bool nv))
  have R7 := Lib.hid (((R5.out.fr0 ((Fr.refl (fun i => i = w.heap.size) _).setCell (p := ⟨w.heap.size, 0, none⟩) (.inl rfl) (.string f.n)) (fun e => hne e.symm) HAl.out).fr0 ((Fr.refl (fun i => i = w.heap.size) _).setCell (p := ⟨w.heap.size, 1, none⟩) (.inl rfl) (.string f.v)) (fun e => hne e.symm) HAl.out).fr0 ((Fr.refl (fun i => i = w.heap.size) _).setCell (p := ⟨w.heap.size, 2, none⟩) (.inl rfl) (.bool nv)) (fun e => hne e.symm) HAl.out)
  have T7 := Lib.hid (((T5.out.fr ((Fr.refl (fun i => i = w.heap.size) _).setCell (p := ⟨w.heap.size, 0, none⟩) (.inl rfl) (.string f.n)) (fun i hi e => hGn (e ▸ hi))).fr ((Fr.refl (fun i => i = w.heap.size) _).setCell (p := ⟨w.heap.size, 1, none⟩) (.inl rfl) (.string f.v)) (fun i hi e => hGn (e ▸ hi))).fr ((Fr.refl (fun i => i = w.heap.size) _).setCell (p := ⟨w.heap.size, 2, none⟩) (.inl rfl) (.bool nv)) (fun i hi e => hGn (e ▸ hi)))
  clear u0 u1 u2 uf F5 X5
  obtain ⟨w7, hw7⟩ : ∃ w7, (((w5.setCell ⟨w.heap.size, 0, none⟩ (.string f.n)).setCell ⟨w.heap.size, 1, none⟩ (.string f.v)).setCell ⟨w.heap.size, 2, none⟩ (.bool nv)) = w7 := ⟨_, rfl⟩
  rw [hw7] at X7 F7 R7 T7 ⊢
  have v0 := (X7.out.alloc (.cells #[.string f.n, .string f.v, .bool nv] 38)).cell 0
  have v1 := (X7.out.alloc (.cells #[.string f.n, .string f.v, .bool nv] 38)).cell 1
  have v2 := (X7.out.alloc (.cells #[.string f.n, .string f.v, .bool nv] 38)).cell 2
  simp only [List.getElem?_cons_zero, List.getElem?_cons_succ] at v0 v1 v2
  refine bodyPost_ret (v := .tuple #[.agg #[.string f.n, .string f.v, .bool nv], .bool true]) (by simp [results, Tryd.results62, go_sem, v0, v1, v2]) rfl ?_
  have ba := (Below.refl w7.heap.size w7).alloc (Nat.le_refl _) (.cells #[.string f.n, .string f.v, .bool nv] 38)
  refine ⟨rfl, G, ?_, R7.out.below ba, fun i hi => .inl hi, F7.out.alloc _⟩
  exact T7.out.fr (Fr.of_below (S := fun i => w7.heap.size ≤ i) ba (fun _ _ h => h)) (fun i hi => by have := T7.out.lt i hi; omega)
set_option maxHeartbeats 4000000 in
theorem dField_add (t : PT w q G h l) (b : Blk w p 58 (decCells q limit list bk)) (rd : RdAt w0 w A0 r (x :: qs)) (hA : ∀ a, A0 = some a → a.block ≠ r) (hAl : ∀ a, A0 = some a → a.block < w.heap.size) (hAG : ∀ a, A0 = some a → ¬ G a.block) (hGr : ¬ G r) (hpr : p ≠ r) (hC : Cnt w) (hcr : 0 ≠ r) (hcG : ¬ G 0) (hlen : (x :: qs).length ≤ 536870912) (k : Nat) (hk : kOf x.toNat = k) (hk2 : k = 64) (i n : Nat) (hi : i ≤ 2147483647) (hR0 : getN (pOf x.toNat) (x :: qs) = .ok i n) (f : Fld) (hfo : fok ⟨f.n, f.v, false⟩) (m : Nat) (hM : namedD (statL ++ l) i ((x :: qs).drop n) = some (f, m)) (hwl : w.heap.size ≤ w.heap.size) : Calls Tryd.prog 62 #[.pointer (some ⟨p, 0, none⟩), .pointer (some ⟨r, 0, none⟩)] w (FieldR w0 w A0 q r h G (x :: qs) (some (⟨f.n, f.v, false⟩, n + m, addF h ⟨f.n, f.v, false⟩ l))) := by
  have kb : ((k : Int) == 32) = false := by simp; omega
  have kn : ((k : Int) == 16) = false := by simp; omega
  have kb3 : ((k : Int) == 64) = true := by simp; omega
  have Hfo := Lib.hid hfo
  clear hfo
  have kb2 : ((k : Int) == 128) = false := by simp; omega
  have HK := Lib.hid hk
  have hrl := rd.lt
  have b1 : Below w.heap.size w (w.alloc (.cells #[.string ⟨#[]⟩, .string ⟨#[]⟩, .bool false] 38)) := (Below.refl _ _).alloc (Nat.le_refl _) _
  have T1 : Hid (PT (w.alloc (.cells #[.string ⟨#[]⟩, .string ⟨#[]⟩, .bool false] 38)) q G h l) := t.fr (Fr.of_below (S := fun i => w.heap.size ≤ i) b1 (fun _ _ h => h)) (fun i hi => by have := t.lt i hi; omega)
  have B1 : Hid (Blk (w.alloc (.cells #[.string ⟨#[]⟩, .string ⟨#[]⟩, .bool false] 38)) p 58 (decCells q limit list bk)) := b.alloc _
  have R1 : Hid (RdAt w0 (w.alloc (.cells #[.string ⟨#[]⟩, .string ⟨#[]⟩, .bool false] 38)) A0 r (x :: qs)) := rd.below b1
  have C1 : Hid (Cnt (w.alloc (.cells #[.string ⟨#[]⟩, .string ⟨#[]⟩, .bool false] 38))) := hC.below b1
  have F1 : Hid (Fr (fun i => i = r ∨ G i) w (w.alloc (.cells #[.string ⟨#[]⟩, .string ⟨#[]⟩, .bool false] 38))) := (Fr.refl _ _).alloc _
  have X1 : Hid (Blk (w.alloc (.cells #[.string ⟨#[]⟩, .string ⟨#[]⟩, .bool false] 38)) w.heap.size 38 [.string ⟨#[]⟩, .string ⟨#[]⟩, .bool false]) := Blk.new w 38 _
  have x1f := X1.out.frozen
  have HA := Lib.hid hA
  have hne : w.heap.size ≠ r := by omega
  have HAl : Hid (∀ a, A0 = some a → ¬ a.block = w.heap.size) := fun a ha => by have := hAl a ha; omega
  have HAw := Lib.hid hAl
  have HAG := Lib.hid hAG
  have hGn : ¬ G w.heap.size := fun hg => by have := t.lt _ hg; omega
  have HGl : Hid (∀ i, G i → i < w.heap.size) := fun i hi => t.lt i hi
  clear t b rd hA hC b1 hAl hAG
  have HR0 := Lib.hid hR0
  have HV0 : Hid (numV (.ok i n) = .tuple #[.int .i64 (i : Int), .bool true]) := rfl
  have HD0 : Hid ((x :: qs).drop (numN (.ok i n)) = (x :: qs).drop n) := rfl
  clear hk hR0
  have HM := Lib.hid hM
  have HA2 : Hid (∀ (w2 : World), w.heap.size ≤ w2.heap.size → ∀ a, A0 = some a → a.block < w2.heap.size) := fun w2 hz a ha => Nat.lt_of_lt_of_le (HAw.out a ha) hz
  have hl2 : ((x :: qs).drop n).length ≤ 536870912 := by rw [List.length_drop]; omega
  clear hM
  go_enter Tryd.func62, Tryd.ntmps62
  go_wp2_with (first
    | (go_at_call 75; (with_reducible refine (dKind_c R1.out k HK.out).mono ?_); rintro e w9 ⟨rfl, rfl⟩)
    | (go_at_call 76; (with_reducible refine (dNumber_c R1.out HA.out _ HR0.out _ HV0.out _ HD0.out).mono ?_); rintro e w2 ⟨rfl, rd2, f2⟩
       have F2 := Lib.hid (F1.out.trans f2 (fun _ _ h => .inl h))
       have X2 := X1.out.fr f2 hne
       have z0 := X2.cell 0
       have z1 := X2.cell 1
       have z2 := X2.cell 2
       have zf := X2.frozen
       have X2 := Lib.hid X2
       simp only [List.getElem?_cons_zero, List.getElem?_cons_succ] at z0 z1 z2
       have R2 := Lib.hid rd2
       have C2 := Lib.hid (C1.out.fr f2 hcr)
       have T2 := Lib.hid (T1.out.fr f2 (fun i hi e => hGr (e ▸ hi)))
       have B2 := B1.out.fr f2 hpr
       have y2 := B2.cell 0
       have B2 := Lib.hid B2
       simp only [List.getElem?_cons_zero] at y2
       clear rd2 f2)
    | (go_at_call 78; (with_reducible refine (dNamed_c T2.out B2.out R2.out HA.out (HA2.out w2 F2.out.size) hGr hpr C2.out hcr hl2 i hi _ HM.out).mono ?_); rintro e w5 ⟨rfl, rd5, f5⟩
       have F5 := Lib.hid (F2.out.trans f5 (fun _ _ h => .inl h))
       have X5 := X2.out.fr f5 hne
       have hz5 := Blk.lt X5
       have u0 := X5.cell 0
       have u1 := X5.cell 1
       have u2 := X5.cell 2
       have uf := X5.frozen
       have X5 := Lib.hid X5
       simp only [List.getElem?_cons_zero, List.getElem?_cons_succ] at u0 u1 u2
       have T5 := Lib.hid (T2.out.fr f5 (fun i hi e => hGr (e ▸ hi)))
       have B5 := B2.out.fr f5 hpr
       have y5 := B5.cell 0
       have B5 := Lib.hid B5
       simp only [List.getElem?_cons_zero] at y5
       rw [List.drop_drop] at rd5
       have R5 := Lib.hid rd5
       clear rd5
       clear f5 z0 z1 z2 zf y2))
  have ba := (Below.refl w5.heap.size w5).alloc (Nat.le_refl _) (.cells #[.string f.n, .string f.v, .bool false] 38)
  have X6 : Hid (Blk (w5.alloc (.cells #[.string f.n, .string f.v, .bool false] 38)) w.heap.size 38 [.string ⟨#[]⟩, .string ⟨#[]⟩, .bool false]) := X5.out.alloc _
  have B6 : Hid (Blk (w5.alloc (.cells #[.string f.n, .string f.v, .bool false] 38)) p 58 (decCells q limit list bk)) := B5.out.alloc _
  have T6 : Hid (PT (w5.alloc (.cells #[.string f.n, .string f.v, .bool false] 38)) q G h l) := T5.out.fr (Fr.of_below (S := fun i => w5.heap.size ≤ i) ba (fun _ _ h => h)) (fun i hi => by have := T5.out.lt i hi; omega)
  have R6 : Hid (RdAt w0 (w5.alloc (.cells #[.string f.n, .string f.v, .bool false] 38)) A0 r ((x :: qs).drop (n + m))) := R5.out.below ba
  have F6 : Hid (Fr (fun i => i = r ∨ G i) w (w5.alloc (.cells #[.string f.n, .string f.v, .bool false] 38))) := F5.out.alloc _
  have V6 : Hid (Blk (w5.alloc (.cells #[.string f.n, .string f.v, .bool false] 38)) w5.heap.size 38 [.string f.n, .string f.v, .bool false]) := Blk.new w5 38 _
  have hg5 : w.heap.size < w5.heap.size := hz5
  clear ba u0 u1 u2 uf X5 B5 T5 R5 F5 y5 hz5
  generalize w5.heap.size = g at V6 hg5 ⊢
  generalize (w5.alloc (.cells #[.string f.n, .string f.v, .bool false] 38)) = w6 at X6 B6 T6 R6 F6 V6 ⊢
  have hz6 : w.heap.size < w6.heap.size := Blk.lt X6.out
  have hGg : ¬ G g := fun hg => by have := HGl.out g hg; omega
  have y0 := B6.out.cell 0
  have q0 := V6.out.cell 0
  have q1 := V6.out.cell 1
  have q2 := V6.out.cell 2
  simp only [List.getElem?_cons_zero, List.getElem?_cons_succ] at y0 q0 q1 q2
  have y0' : w6.drew.cell? ⟨p, 0, none⟩ = some (.pointer (some ⟨q, 0, none⟩)) := y0
  have q0' : w6.drew.cell? ⟨g, 0, none⟩ = some (.string f.n) := q0
  have q1' : w6.drew.cell? ⟨g, 1, none⟩ = some (.string f.v) := q1
  have q2' : w6.drew.cell? ⟨g, 2, none⟩ = some (.bool false) := q2
  have T6d : Hid (PT w6.drew q G h l) := T6.out.fr (S := fun _ => False) ((Fr.refl _ w6).drew) (fun i hi h => h)
  have R6d : Hid (RdAt w0 w6.drew A0 r ((x :: qs).drop (n + m))) := R6.out.below (below_drewN (Below.refl _ _) 1)
  go_region_with
    (first
    | (go_at_call 56; (with_reducible refine (pAdd_p T6d.out f.n f.v false Hfo.out _ rfl).mono ?_); rintro e w8 ⟨G8, rfl, t8, hG8, f8⟩
       have T8 := Lib.hid t8
       have HG8 : Hid (∀ i, G8 i → G i ∨ w6.heap.size ≤ i) := hG8
       have F8 := Lib.hid (F6.out.drew.trans f8 (fun _ _ h => .inr h))
       have X8 := X6.out.drew.fr f8 hGn
       have u0 := X8.cell 0
       have u1 := X8.cell 1
       have u2 := X8.cell 2
       have uf := X8.frozen
       have X8 := Lib.hid X8
       have V8 := V6.out.drew.fr f8 hGg
       have s0 := V8.cell 0
       have s1 := V8.cell 1
       have s2 := V8.cell 2
       simp only [List.getElem?_cons_zero, List.getElem?_cons_succ] at u0 u1 u2 s0 s1 s2
       have R8 := Lib.hid (R6d.out.fr0 f8 hGr HAG.out)
       clear t8 hG8 f8))
  all_goals
    clear y0 y0' q0 q0' q1 q1' q2 q2' V6 X6 T6 T6d R6 R6d F6 B6
    go_wp2
    have X7 : Hid (Blk _ w.heap.size 38 [.string f.n, .string f.v, .bool false]) := ((X8.out.set_ 0 (.string f.n)).set_ 1 (.string f.v)).set_ 2 (.bool false)
    have F7 := Lib.hid (((F8.out.setCell (p := ⟨w.heap.size, 0, none⟩) (.inr (Nat.le_refl _)) (.string f.n)).setCell (p := ⟨w.heap.size, 1, none⟩) (.inr (Nat.le_refl _)) (.string f.v)).setCell (p := ⟨w.heap.size, 2, none⟩) (.inr (Nat.le_refl _)) (.bool false))
    have R7 := Lib.hid (((R8.out.fr0 ((Fr.refl (fun i => i = w.heap.size) _).setCell (p := ⟨w.heap.size, 0, none⟩) (.inl rfl) (.string f.n)) (fun e => hne e.symm) HAl.out).fr0 ((Fr.refl (fun i => i = w.heap.size) _).setCell (p := ⟨w.heap.size, 1, none⟩) (.inl rfl) (.string f.v)) (fun e => hne e.symm) HAl.out).fr0 ((Fr.refl (fun i => i = w.heap.size) _).setCell (p := ⟨w.heap.size, 2, none⟩) (.inl rfl) (.bool false)) (fun e => hne e.symm) HAl.out)
    have T7 := Lib.hid (((T8.out.fr ((Fr.refl (fun i => i = w.heap.size) _).setCell (p := ⟨w.heap.size, 0, none⟩) (.inl rfl) (.string f.n)) (fun i hi e => (HG8.out i hi).elim (fun h => hGn (e ▸ h)) (fun h => by omega))).fr ((Fr.refl (fun i => i = w.heap.size) _).setCell (p := ⟨w.heap.size, 1, none⟩) (.inl rfl) (.string f.v)) (fun i hi e => (HG8.out i hi).elim (fun h => hGn (e ▸ h)) (fun h => by omega))).fr ((Fr.refl (fun i => i = w.heap.size) _).setCell (p := ⟨w.heap.size, 2, none⟩) (.inl rfl) (.bool false)) (fun i hi e => (HG8.out i hi).elim (fun h => hGn (e ▸ h)) (fun h => by omega)))
    clear u0 u1 u2 uf s0 s1 s2 F8 X8
    obtain ⟨w7, hw7⟩ : ∃ w7, (((w8.setCell ⟨w.heap.size, 0, none⟩ (.string f.n)).setCell ⟨w.heap.size, 1, none⟩ (.string f.v)).setCell ⟨w.heap.size, 2, none⟩ (.bool false)) = w7 := ⟨_, rfl⟩
    rw [hw7] at X7 F7 R7 T7 ⊢
    have v0 := X7.out.cell 0
    have v1 := X7.out.cell 1
    have v2 := X7.out.cell 2
    simp only [List.getElem?_cons_zero, List.getElem?_cons_succ] at v0 v1 v2
    refine bodyPost_ret (v := .tuple #[.agg #[.string f.n, .string f.v, .bool false], .bool true]) (by simp [results, Tryd.results62, go_sem, v0, v1, v2]) rfl ?_
    exact ⟨rfl, G8, T7.out, R7.out, fun i hi => (HG8.out i hi).imp id (fun h => by omega), F7.out⟩
/-- a field, read: what it does to the table -/
theorem dField_c (t : PT w q G h l) (b : Blk w p 58 (decCells q limit list bk)) (rd : RdAt w0 w A0 r (x :: qs)) (hA : ∀ a, A0 = some a → a.block ≠ r) (hAl : ∀ a, A0 = some a → a.block < w.heap.size) (hAG : ∀ a, A0 = some a → ¬ G a.block) (hGr : ¬ G r) (hpr : p ≠ r) (hC : Cnt w) (hcr : 0 ≠ r) (hcG : ¬ G 0) (hlen : (x :: qs).length ≤ 536870912) (hOk : Ok statL h l) (hst : ∀ g ∈ statL, sz g ≤ 65536) (R : Option (Fld × Nat × List Fld)) (hR : oneD statL h l (x :: qs) = R) : Calls Tryd.prog 62 #[.pointer (some ⟨p, 0, none⟩), .pointer (some ⟨r, 0, none⟩)] w (FieldR w0 w A0 q r h G (x :: qs) R) := by
  have hx := x.toNat_lt
  have nb : ∀ p i n, getN p (x :: qs) = .ok i n → i ≤ 2147483647 := fun p i n h => by obtain ⟨_, _, _, _, _, _, h6⟩ := getN_least h; exact h6
  have hBz : ∀ g ∈ statL ++ l, g.n.size ≤ 65536 := fun g hg => by have := hOk.sizes hst g hg; unfold sz at this; omega
  rw [oneD] at hR
  by_cases c1 : 128 ≤ x.toNat
  · have hk : kOf x.toNat = 128 := by rw [kOf, if_pos c1]
    have hp : pOf x.toNat = 7 := by rw [pOf, if_pos c1]
    rw [if_pos c1] at hR
    cases hN : getN 7 (x :: qs) with
    | ok i n =>
      rw [hN] at hR
      dsimp only at hR
      cases hM : nth (statL ++ l) i with
      | none =>
        rw [hM] at hR
        subst hR
        exact dField_at_none t b rd hA hAl hAG hGr hpr hC hcr hcG hlen 128 hk rfl i n (nb _ _ _ hN) (by rw [hp]; exact hN) hM
      | some g =>
        rw [hM] at hR
        subst hR
        exact dField_at_some t b rd hA hAl hAG hGr hpr hC hcr hcG hlen 128 hk rfl i n (nb _ _ _ hN) (by rw [hp]; exact hN) g hM
    | arg => rw [hN] at hR; subst hR; exact dField_nonum t b rd hA hAl hAG hGr hpr hC hcr hcG hlen 128 hk (by simp) .arg (by rw [hp]; exact hN) rfl
    | more => rw [hN] at hR; subst hR; exact dField_nonum t b rd hA hAl hAG hGr hpr hC hcr hcG hlen 128 hk (by simp) .more (by rw [hp]; exact hN) rfl
    | form => rw [hN] at hR; subst hR; exact dField_nonum t b rd hA hAl hAG hGr hpr hC hcr hcG hlen 128 hk (by simp) .form (by rw [hp]; exact hN) rfl
  · rw [if_neg c1] at hR
    by_cases c2 : 64 ≤ x.toNat
    · have hk : kOf x.toNat = 64 := by rw [kOf, if_neg c1, if_pos c2]
      have hp : pOf x.toNat = 6 := by rw [pOf, if_neg c1, if_pos c2]
      rw [if_pos c2, litD_eq] at hR
      cases hN : getN 6 (x :: qs) with
      | ok i n =>
        rw [hN] at hR
        dsimp only at hR
        cases hM : namedD (statL ++ l) i ((x :: qs).drop n) with
        | none =>
          rw [hM] at hR
          subst hR
          exact dField_noname t b rd hA hAl hAG hGr hpr hC hcr hcG hlen 64 hk (by omega) i n (nb _ _ _ hN) (by rw [hp]; exact hN) hM
        | some z =>
          obtain ⟨f, m⟩ := z
          have hl : litD (statL ++ l) 6 (x :: qs) = some (f, n + m) := by rw [litD_eq, hN]; dsimp only; rw [hM]; rfl
          obtain ⟨_, _, a3, a4, a5⟩ := litD_len hBz hl
          have hff : (⟨f.n, f.v, false⟩ : Fld) = f := by rw [← a5]
          rw [hM] at hR
          subst hR
          have h9 := dField_add t b rd hA hAl hAG hGr hpr hC hcr hcG hlen 64 hk rfl i n (nb _ _ _ hN) (by rw [hp]; exact hN) f (by rw [hff]; exact ⟨by omega, by omega⟩) m hM (Nat.le_refl _)
          rw [hff] at h9
          exact h9
      | arg => rw [hN] at hR; subst hR; exact dField_nonum t b rd hA hAl hAG hGr hpr hC hcr hcG hlen 64 hk (by simp) .arg (by rw [hp]; exact hN) rfl
      | more => rw [hN] at hR; subst hR; exact dField_nonum t b rd hA hAl hAG hGr hpr hC hcr hcG hlen 64 hk (by simp) .more (by rw [hp]; exact hN) rfl
      | form => rw [hN] at hR; subst hR; exact dField_nonum t b rd hA hAl hAG hGr hpr hC hcr hcG hlen 64 hk (by simp) .form (by rw [hp]; exact hN) rfl
    · rw [if_neg c2] at hR
      by_cases c3 : 32 ≤ x.toNat
      · rw [if_pos c3] at hR
        subst hR
        exact dField_upd t b rd hA hAl hAG hGr hpr hC hcr hcG hlen (by rw [kOf, if_neg c1, if_neg c2, if_pos c3])
      · rw [if_neg c3, litD_eq] at hR
        have hp : pOf x.toNat = 4 := by rw [pOf, if_neg c1, if_neg c2, if_neg c3]
        obtain ⟨k, hk, hk2, kn⟩ : ∃ k, kOf x.toNat = k ∧ (k = 16 ∨ k = 0) ∧ ((k : Int) == 16) = decide (16 ≤ x.toNat) := by
          by_cases c4 : 16 ≤ x.toNat
          · exact ⟨16, by rw [kOf, if_neg c1, if_neg c2, if_neg c3, if_pos c4], .inl rfl, by simp [c4]⟩
          · exact ⟨0, by rw [kOf, if_neg c1, if_neg c2, if_neg c3, if_neg c4], .inr rfl, by simp [c4]⟩
        have kb : ((k : Int) == 32) = false := by simp; omega
        cases hN : getN 4 (x :: qs) with
        | ok i n =>
          rw [hN] at hR
          dsimp only at hR
          cases hM : namedD (statL ++ l) i ((x :: qs).drop n) with
          | none =>
            rw [hM] at hR
            subst hR
            exact dField_noname t b rd hA hAl hAG hGr hpr hC hcr hcG hlen k hk (by omega) i n (nb _ _ _ hN) (by rw [hp]; exact hN) hM
          | some z =>
            obtain ⟨f, m⟩ := z
            rw [hM] at hR
            subst hR
            exact dField_put t b rd hA hAl hAG hGr hpr hC hcr hcG hlen k hk hk2 _ kn i n (nb _ _ _ hN) (by rw [hp]; exact hN) f m hM
        | arg => rw [hN] at hR; subst hR; exact dField_nonum t b rd hA hAl hAG hGr hpr hC hcr hcG hlen k hk kb .arg (by rw [hp]; exact hN) rfl
        | more => rw [hN] at hR; subst hR; exact dField_nonum t b rd hA hAl hAG hGr hpr hC hcr hcG hlen k hk kb .more (by rw [hp]; exact hN) rfl
        | form => rw [hN] at hR; subst hR; exact dField_nonum t b rd hA hAl hAG hGr hpr hC hcr hcG hlen k hk kb .form (by rw [hp]; exact hN) rfl
end
end Go.Proofs.YtinieljgcenemaaDoor
namespace Go.Proofs.YtinieljgcenemaaDoor
open Go.RowKit Go.Own Go.Tbl Go.Huf Go.Hin
set_option linter.unusedVariables false
set_option maxRecDepth 100000
attribute [local go_sem ↓] Go.wp_at_zero Go.wp_at_succ

theorem kOf_upd (x : Nat) : kOf x = 32 ↔ 32 ≤ x ∧ x < 64 := by
  unfold kOf
  repeat' split
  all_goals omega
/-- what a call leaves that reads the updates -/
def UpdR (w0 w : World) (A0 : Option Addr) (p q r : Nat) (G : Nat → Prop) (lim : Nat) (list : Int) (bk : Bool) : Option (Nat × List Fld × List UInt8) → Ending → World → Prop
  | some (h', l', ys), e, w' => e = .returned (.bool (decide (h' ≤ lim))) ∧ ∃ G', PT w' q G' h' l' ∧ RdAt w0 w' A0 r ys ∧ Blk w' p 58 (decCells q (lim : Int) list bk) ∧ (∀ i, G' i → G i ∨ w.heap.size ≤ i) ∧ Fr (fun i => i = r ∨ G i) w w'
  | none, e, w' => e = .returned (.bool false) ∧ Fr (fun i => i = r ∨ G i) w w'
theorem pSetMax_n {w : World} {p h : Nat} {F : Nat → Prop} {l : List Fld} (t : PT w p F h l) (n : Nat) (hn : n ≤ 65536) : Calls Tryd.prog 66 #[.pointer (some ⟨p, 0, none⟩), .int .i64 (n : Int)] w fun e w' => ∃ F', e = .returned (.tuple #[]) ∧ PT w' p F' n (pre n l) ∧ (∀ i, F' i → F i ∨ w.heap.size ≤ i) ∧ Fr F w w' := by
  have h := pSetMax_c t (n : Int) (by unfold i64; omega)
  rw [clampI_nat n hn] at h
  exact h
theorem dNumber_p {w0 w : World} {A0 : Option Addr} {r : Nat} {x : UInt8} {q : List UInt8} (h : RdAt w0 w A0 r (x :: q)) (hA : ∀ a, A0 = some a → a.block ≠ r) (p : Nat) (hp : pOf x.toNat = p) (R0 : Go.Hin.G) (hR : getN p (x :: q) = R0) (v : Value) (hv : numV R0 = v) (ys : List UInt8) (hy : (x :: q).drop (numN R0) = ys) : Calls Tryd.prog 76 #[.pointer (some ⟨r, 0, none⟩)] w (ReadP w0 w A0 r ys v) := by
  subst hp
  exact dNumber_c h hA R0 hR v hv ys hy
section
variable {w0 w : World} {A0 : Option Addr} {p q r h : Nat} {l : List Fld} {G : Nat → Prop} {xs : List UInt8} {lim : Nat} {list : Int} {bk : Bool}
theorem updsD_none {limit k h n : Nat} {l : List Fld} {ys : List UInt8} (hu : isUpd ys = true) (hk : ys.length ≤ k + 1) (R0 : Go.Hin.G) (hR0 : getN 5 ys = R0) (hno : numV R0 = .tuple #[.int .i64 0, .bool false]) (hno2 : ∀ v m, R0 ≠ .ok v m) : updsD limit (k + 1) h l ys = none := by
  rw [updsD, if_pos hu, hR0]
  cases R0 with
  | ok v m => exact absurd rfl (hno2 v m)
  | arg => rfl
  | more => rfl
  | form => rfl
set_option maxHeartbeats 8000000 in
theorem dUpds_c (t : PT w q G h l) (b : Blk w p 58 (decCells q (lim : Int) list bk)) (rd : RdAt w0 w A0 r xs) (hA : ∀ a, A0 = some a → a.block ≠ r) (hAl : ∀ a, A0 = some a → a.block < w.heap.size) (hAG : ∀ a, A0 = some a → ¬ G a.block) (hGr : ¬ G r) (hGp : ¬ G p) (hpr : p ≠ r) (hlim : lim ≤ 65536) (R : Option (Nat × List Fld × List UInt8)) (hR : updsD lim xs.length h l xs = R) :
    Calls Tryd.prog 61 #[.pointer (some ⟨p, 0, none⟩), .pointer (some ⟨r, 0, none⟩)] w (UpdR w0 w A0 p q r G lim list bk R) := by
  have hrl := rd.lt
  have HA := Lib.hid hA
  have HAl := Lib.hid hAl
  have HAG := Lib.hid hAG
  have T := Lib.hid t
  have B := Lib.hid b
  have Rd0 := Lib.hid rd
  have HR := Lib.hid hR
  have hpl : p < w.heap.size := Blk.lt b
  clear t b rd hA hAl hAG hR
  go_enter Tryd.func61, Tryd.ntmps61
  go_wp2
  go_loopg [5] (xs.length + 1) (fun gh u w' => ∃ (k hk : Nat) (lk : List Fld) (ys : List UInt8) (Gk : Nat → Prop), gh = k + 1 ∧ ys.length ≤ k ∧ updsD lim k hk lk ys = R ∧ PT w' q Gk hk lk ∧ RdAt w0 w' A0 r ys ∧ Blk w' p 58 (decCells q (lim : Int) list bk) ∧ (∀ i, Gk i → G i ∨ w.heap.size ≤ i) ∧ Fr (fun i => i = r ∨ G i) w w')
  case atStart => exact ⟨xs.length, h, l, xs, G, rfl, Nat.le_refl _, HR.out, T.out, Rd0.out, B.out, fun i hi => .inl hi, Fr.refl _ _⟩
  case round =>
    obtain ⟨k, hk, lk, ys, Gk, hgk, hys, e1, t, rd, b, hGk, hf⟩ := hrel
    have hGkr : ¬ Gk r := fun hg => (hGk r hg).elim hGr (fun hh => by omega)
    have hGkp : ¬ Gk p := fun hg => (hGk p hg).elim hGp (fun hh => by omega)
    have hz := hf.size
    have b0 := b.cell 0
    have b1 := b.cell 1
    simp only [List.getElem?_cons_zero, List.getElem?_cons_succ] at b0 b1
    obtain ⟨A, n, c, hl, hb, hr⟩ := id rd
    have hln := hl.len
    have y0 := hb.cell 0
    simp only [List.getElem?_cons_zero] at y0
    have T1 := Lib.hid t
    have B1 := Lib.hid b
    have R1 := Lib.hid rd
    have HG := Lib.hid hGk
    have F1 := Lib.hid hf
    clear t b rd hGk hf hb hr hl
    cases ys with
    | nil =>
      have hn0 : n = 0 := by simpa using hln.symm
      subst hn0
      have e1 : some (hk, lk, []) = R := by rw [← e1]; exact (updsD_done rfl).symm
      go_wp2
      have E1 := Lib.hid e1
      clear e1
      have Td : Hid (PT wr.drew q Gk hk lk) := T1.out.fr (S := fun _ => False) ((Fr.refl _ _).drew) (fun i hi h => h)
      have d0 : wr.drew.cell? ⟨p, 0, none⟩ = some (.pointer (some ⟨q, 0, none⟩)) := b0
      have d1 : wr.drew.cell? ⟨p, 1, none⟩ = some (.int .i64 (lim : Int)) := b1
      go_region_with
        (first
        | (go_at_call 45; (with_reducible refine (pMax_i Td.out).mono ?_); rintro e w5 ⟨rfl, hb⟩
           have f5 : Fr (fun _ => False) wr w5 := ((Fr.refl _ _).drew).trans (Fr.of_below (S := fun _ => False) hb (fun i h1 h2 => by omega)) (fun _ _ h => h)
           have F5 := Lib.hid (F1.out.trans f5 (fun _ _ h => h.elim))
           have T5 := Lib.hid (T1.out.fr f5 (fun i hi h => h))
           have R5 := Lib.hid (R1.out.fr0 f5 (fun h => h) (fun a ha h => h))
           have B5 := B1.out.fr f5 (fun h => h)
           have u1 := B5.cell 1
           have B5 := Lib.hid B5
           simp only [List.getElem?_cons_zero, List.getElem?_cons_succ] at u1
           clear f5 hb))
      all_goals
        go_wp2
        go_ret
        rw [← E1.out]
        exact ⟨by first | rfl | (congr 2) | (congr 2; apply propext; constructor <;> intro h <;> omega), Gk, T5.out, R5.out, B5.out, HG.out, F5.out⟩
    | cons x qs =>
      have hn1 : (0 : Int) < (n : Int) := by simp at hln; omega
      obtain ⟨kk, hkk⟩ : ∃ kk, kOf x.toNat = kk := ⟨_, rfl⟩
      have HK := Lib.hid hkk
      by_cases h32 : kk = 32
      · have hu : isUpd (x :: qs) = true := by rw [isUpd]; exact decide_eq_true ((kOf_upd _).1 (hkk.trans h32))
        have hp5 : pOf x.toNat = 5 := by
          have := (kOf_upd _).1 (hkk.trans h32)
          rw [pOf, if_neg (by omega), if_neg (by omega), if_pos (by omega)]
        have kb : ((kk : Int) == 32) = true := by simp; omega
        have HP := Lib.hid hp5
        obtain ⟨k1, rfl⟩ : ∃ k1, k = k1 + 1 := ⟨k - 1, by simp at hys; omega⟩
        cases hN : getN 5 (x :: qs) with
        | ok v m =>
          obtain ⟨_, _, _, m1, m2, _⟩ := getN_least hN
          have HN := Lib.hid hN
          have HV : Hid (numV (.ok v m) = .tuple #[.int .i64 (v : Int), .bool true]) := rfl
          have HD : Hid ((x :: qs).drop (numN (.ok v m)) = (x :: qs).drop m) := rfl
          by_cases hlv : lim < v
          · have e1 : none = R := by rw [← e1, updsD, if_pos hu, hN]; dsimp only; rw [if_pos hlv]
            have kl : (lim : Int) < (v : Int) := by omega
            have E1 := Lib.hid e1
            clear hN hu hkk h32 e1
            go_wp2_with (first
              | (go_at_call 75; (with_reducible refine (dKind_c R1.out kk HK.out).mono ?_); rintro e w9 ⟨rfl, rfl⟩)
              | (go_at_call 76; (with_reducible refine (dNumber_p R1.out HA.out 5 HP.out _ HN.out _ HV.out _ HD.out).mono ?_); rintro e w2 ⟨rfl, rd2, f2⟩
                 have F2 := Lib.hid (F1.out.trans f2 (fun _ _ h => .inl h))
                 have R2 := Lib.hid rd2
                 have T2 := Lib.hid (T1.out.fr f2 (fun i hi e => hGkr (e ▸ hi)))
                 have B2 := B1.out.fr f2 hpr
                 have c0 := B2.cell 0
                 have c1 := B2.cell 1
                 have B2 := Lib.hid B2
                 simp only [List.getElem?_cons_zero, List.getElem?_cons_succ] at c0 c1
                 clear rd2 f2))
            go_ret
            rw [← E1.out]
            exact ⟨rfl, F2.out⟩
          · have e1 : updsD lim k1 v (pre v lk) ((x :: qs).drop m) = R := by rw [← e1, updsD, if_pos hu, hN]; dsimp only; rw [if_neg hlv]
            have kl : ¬ (lim : Int) < (v : Int) := by omega
            have hv : v ≤ 65536 := by omega
            have hd : ((x :: qs).drop m).length ≤ k1 := by rw [List.length_drop]; omega
            have E1 := Lib.hid e1
            clear hN hu hkk h32 e1
            go_wp2_with (first
              | (go_at_call 75; (with_reducible refine (dKind_c R1.out kk HK.out).mono ?_); rintro e w9 ⟨rfl, rfl⟩)
              | (go_at_call 76; (with_reducible refine (dNumber_p R1.out HA.out 5 HP.out _ HN.out _ HV.out _ HD.out).mono ?_); rintro e w2 ⟨rfl, rd2, f2⟩
                 have F2 := Lib.hid (F1.out.trans f2 (fun _ _ h => .inl h))
                 have R2 := Lib.hid rd2
                 have T2 := Lib.hid (T1.out.fr f2 (fun i hi e => hGkr (e ▸ hi)))
                 have B2 := B1.out.fr f2 hpr
                 have c0 := B2.cell 0
                 have c1 := B2.cell 1
                 have B2 := Lib.hid B2
                 simp only [List.getElem?_cons_zero, List.getElem?_cons_succ] at c0 c1
                 clear rd2 f2)
              | (go_at_call 66; (with_reducible refine (pSetMax_n T2.out v hv).mono ?_); rintro e w5 ⟨G5, rfl, t5, hG5, f5⟩
                 have T5 := Lib.hid t5
                 have B5 := Lib.hid (B2.out.fr f5 hGkp)
                 have R5 := Lib.hid (R2.out.fr0 f5 hGkr (fun a ha hg => (HG.out _ hg).elim (HAG.out a ha) (fun hh => by have := HAl.out a ha; omega)))
                 have HG5 : Hid (∀ i, G5 i → G i ∨ w.heap.size ≤ i) := fun i hi => (hG5 i hi).elim (HG.out i) (fun hh => .inr (by have := F2.out.size; omega))
                 have F5 := Lib.hid (F2.out.trans f5 (fun i hi hg => (HG.out i hg).elim .inr (fun hh => by omega)))
                 clear t5 hG5 f5))
            go_roundg (k1 + 1)
            case measure => omega
            case rel => exact ⟨k1, v, pre v lk, (x :: qs).drop m, G5, rfl, hd, E1.out, T5.out, R5.out, B5.out, HG5.out, F5.out⟩
        | arg =>
          have e1 : none = R := by rw [← e1, updsD, if_pos hu, hN]
          have HN := Lib.hid hN
          have HV : Hid (numV .arg = .tuple #[.int .i64 0, .bool false]) := rfl
          obtain ⟨ys0, hy0⟩ : ∃ ys0, (x :: qs).drop (numN .arg) = ys0 := ⟨_, rfl⟩
          have HD := Lib.hid hy0
          have E1 := Lib.hid e1
          clear hN hu hkk h32 e1 hy0
          go_wp2_with (first
            | (go_at_call 75; (with_reducible refine (dKind_c R1.out kk HK.out).mono ?_); rintro e w9 ⟨rfl, rfl⟩)
            | (go_at_call 76; (with_reducible refine (dNumber_p R1.out HA.out 5 HP.out _ HN.out _ HV.out _ HD.out).mono ?_); rintro e w2 ⟨rfl, rd2, f2⟩
               have F2 := Lib.hid (F1.out.trans f2 (fun _ _ h => .inl h))
               have R2 := Lib.hid rd2
               have T2 := Lib.hid (T1.out.fr f2 (fun i hi e => hGkr (e ▸ hi)))
               have B2 := B1.out.fr f2 hpr
               have c0 := B2.cell 0
               have c1 := B2.cell 1
               have B2 := Lib.hid B2
               simp only [List.getElem?_cons_zero, List.getElem?_cons_succ] at c0 c1
               clear rd2 f2))
          go_ret
          rw [← E1.out]
          exact ⟨rfl, F2.out⟩
        | more =>
          have e1 : none = R := by rw [← e1, updsD, if_pos hu, hN]
          have HN := Lib.hid hN
          have HV : Hid (numV .more = .tuple #[.int .i64 0, .bool false]) := rfl
          obtain ⟨ys0, hy0⟩ : ∃ ys0, (x :: qs).drop (numN .more) = ys0 := ⟨_, rfl⟩
          have HD := Lib.hid hy0
          have E1 := Lib.hid e1
          clear hN hu hkk h32 e1 hy0
          go_wp2_with (first
            | (go_at_call 75; (with_reducible refine (dKind_c R1.out kk HK.out).mono ?_); rintro e w9 ⟨rfl, rfl⟩)
            | (go_at_call 76; (with_reducible refine (dNumber_p R1.out HA.out 5 HP.out _ HN.out _ HV.out _ HD.out).mono ?_); rintro e w2 ⟨rfl, rd2, f2⟩
               have F2 := Lib.hid (F1.out.trans f2 (fun _ _ h => .inl h))
               have R2 := Lib.hid rd2
               have T2 := Lib.hid (T1.out.fr f2 (fun i hi e => hGkr (e ▸ hi)))
               have B2 := B1.out.fr f2 hpr
               have c0 := B2.cell 0
               have c1 := B2.cell 1
               have B2 := Lib.hid B2
               simp only [List.getElem?_cons_zero, List.getElem?_cons_succ] at c0 c1
               clear rd2 f2))
          go_ret
          rw [← E1.out]
          exact ⟨rfl, F2.out⟩
        | form =>
          have e1 : none = R := by rw [← e1, updsD, if_pos hu, hN]
          have HN := Lib.hid hN
          have HV : Hid (numV .form = .tuple #[.int .i64 0, .bool false]) := rfl
          obtain ⟨ys0, hy0⟩ : ∃ ys0, (x :: qs).drop (numN .form) = ys0 := ⟨_, rfl⟩
          have HD := Lib.hid hy0
          have E1 := Lib.hid e1
          clear hN hu hkk h32 e1 hy0
          go_wp2_with (first
            | (go_at_call 75; (with_reducible refine (dKind_c R1.out kk HK.out).mono ?_); rintro e w9 ⟨rfl, rfl⟩)
            | (go_at_call 76; (with_reducible refine (dNumber_p R1.out HA.out 5 HP.out _ HN.out _ HV.out _ HD.out).mono ?_); rintro e w2 ⟨rfl, rd2, f2⟩
               have F2 := Lib.hid (F1.out.trans f2 (fun _ _ h => .inl h))
               have R2 := Lib.hid rd2
               have T2 := Lib.hid (T1.out.fr f2 (fun i hi e => hGkr (e ▸ hi)))
               have B2 := B1.out.fr f2 hpr
               have c0 := B2.cell 0
               have c1 := B2.cell 1
               have B2 := Lib.hid B2
               simp only [List.getElem?_cons_zero, List.getElem?_cons_succ] at c0 c1
               clear rd2 f2))
          go_ret
          rw [← E1.out]
          exact ⟨rfl, F2.out⟩
      · have hu : isUpd (x :: qs) = false := by
          rw [isUpd]
          exact decide_eq_false (fun hc => h32 (hkk ▸ (kOf_upd _).2 hc))
        have e1 : some (hk, lk, x :: qs) = R := by rw [← e1]; exact (updsD_done hu).symm
        have kb : ((kk : Int) == 32) = false := by simp; omega
        clear hu hkk
        go_wp2_with (first
          | (go_at_call 75; (with_reducible refine (dKind_c R1.out kk HK.out).mono ?_); rintro e w9 ⟨rfl, rfl⟩))
        have E1 := Lib.hid e1
        clear e1
        have Td : Hid (PT wr.drew q Gk hk lk) := T1.out.fr (S := fun _ => False) ((Fr.refl _ _).drew) (fun i hi h => h)
        have d0 : wr.drew.cell? ⟨p, 0, none⟩ = some (.pointer (some ⟨q, 0, none⟩)) := b0
        have d1 : wr.drew.cell? ⟨p, 1, none⟩ = some (.int .i64 (lim : Int)) := b1
        go_region_with
          (first
          | (go_at_call 45; (with_reducible refine (pMax_i Td.out).mono ?_); rintro e w5 ⟨rfl, hb⟩
             have f5 : Fr (fun _ => False) wr w5 := ((Fr.refl _ _).drew).trans (Fr.of_below (S := fun _ => False) hb (fun i h1 h2 => by omega)) (fun _ _ h => h)
             have F5 := Lib.hid (F1.out.trans f5 (fun _ _ h => h.elim))
             have T5 := Lib.hid (T1.out.fr f5 (fun i hi h => h))
             have R5 := Lib.hid (R1.out.fr0 f5 (fun h => h) (fun a ha h => h))
             have B5 := B1.out.fr f5 (fun h => h)
             have u1 := B5.cell 1
             have B5 := Lib.hid B5
             simp only [List.getElem?_cons_zero, List.getElem?_cons_succ] at u1
             clear f5 hb))
        all_goals
          go_wp2
          go_ret
          rw [← E1.out]
          exact ⟨by first | rfl | (congr 2) | (congr 2; apply propext; constructor <;> intro h <;> omega), Gk, T5.out, R5.out, B5.out, HG.out, F5.out⟩
end
end Go.Proofs.YtinieljgcenemaaDoor
namespace Go.Proofs.YtinieljgcenemaaDoor
open Go.RowKit Go.Own Go.Tbl Go.Huf Go.Hin
set_option linter.unusedVariables false
set_option maxRecDepth 100000
attribute [local go_sem ↓] Go.wp_at_zero Go.wp_at_succ

theorem rd_one {w : World} {g : Nat} {f : Fld} (h : Blk w g 38 [.string f.n, .string f.v, .bool f.nv]) : Rd w 3 (some ⟨g, 0, none⟩) 1 (fcellsL [f]) := by
  have := Rd.of_blk (n := 1) (size := 3) h (by simp)
  simpa [fcellsL, fcells] using this
theorem szs_take_succ : ∀ (l : List Fld) (k : Nat) (f : Fld), l[k]? = some f → szs (l.take (k + 1)) = szs (l.take k) + sz f
  | [], k, f, h => by simp at h
  | g :: r, 0, f, h => by
    rw [List.getElem?_cons_zero] at h
    obtain rfl := Option.some.inj h
    simp [szs]
  | g :: r, k + 1, f, h => by
    rw [List.getElem?_cons_succ] at h
    rw [List.take_succ_cons, List.take_succ_cons, szs, szs, szs_take_succ r k f h]
    omega
theorem sz_le_szs : ∀ {l : List Fld} {f : Fld}, f ∈ l → sz f ≤ szs l
  | [], f, h => by cases h
  | g :: r, f, h => by
    rw [szs]
    rcases List.mem_cons.1 h with rfl | h
    · omega
    · have := sz_le_szs h; omega
theorem szs_take_le (l : List Fld) (k : Nat) : szs (l.take k) ≤ szs l := by
  induction l generalizing k with
  | nil => simp [szs]
  | cons f r ih =>
    cases k with
    | zero => simp [szs]
    | succ k =>
      rw [List.take_succ_cons, szs, szs]
      have := ih k
      omega
set_option maxHeartbeats 4000000 in
theorem dSizes_c {w : World} {A : Option Addr} {n c : Nat} {fs : List Fld} (hr : Rd w 3 A n (fcellsL fs)) (hlen : fs.length = n) (hsz : szs fs ≤ 140737488355328) (s : Nat) (hs : szs fs = s) :
    Calls Tryd.prog 47 #[.slice A n c] w fun e w' => e = .returned (.int .i64 (s : Int)) ∧ Below w.heap.size w w' := by
  have Hr := Lib.hid hr
  have Hl := Lib.hid hlen
  have Hs := Lib.hid hs
  have hls := szs_len fs
  have hn : n ≤ 140737488355328 := by omega
  clear hr hlen hs hls
  go_enter Tryd.func47, Tryd.ntmps47
  go_wp2
  go_loopg [8, 3] n (fun gh i u w' => ∃ k : Nat, gh + k = n ∧ i = .int .i64 (k : Int) ∧ u = .int .i64 ((szs (fs.take k) : Nat) : Int) ∧ Below w.heap.size w w')
  case atStart => exact ⟨0, by omega, rfl, by simp [szs], Below.refl _ _⟩
  case round =>
    obtain ⟨k, hk, rfl, rfl, hb⟩ := hrel
    cases gk with
    | succ g1 =>
      have hkn : k < n := by omega
      obtain ⟨f, hf⟩ : ∃ f, fs[k]? = some f := ⟨_, List.getElem?_eq_getElem (by rw [Hl.out]; exact hkn)⟩
      have hst := szs_take_succ fs k f hf
      have hle := szs_take_le fs (k + 1)
      have hf1 : f.n.size ≤ 140737488355328 := by have h1 := sz_le_szs (List.mem_of_getElem? hf); unfold sz at h1; omega
      have hf2 : f.v.size ≤ 140737488355328 := by have h1 := sz_le_szs (List.mem_of_getElem? hf); unfold sz at h1; omega
      obtain ⟨bb, oo, hA, d0, d1, d2⟩ := rd_fld (Hr.out.below hb) hf
      have hbl := World.block_lt_of_cell? _ _ d0
      obtain ⟨M, hM⟩ : ∃ M, sz f = M := ⟨_, rfl⟩
      rw [hM] at hst
      have HM : Hid (f.n.size + f.v.size + 32 = M) := hM
      obtain ⟨S1, hS1⟩ : ∃ S1, szs (fs.take k) = S1 := ⟨_, rfl⟩
      rw [hS1] at hst
      rw [hS1]
      rw [hst] at hle
      have Hst := Lib.hid hst
      have k1 : (k : Int) < (n : Int) := by omega
      have hw : IntKind.i64.wrap ((S1 : Int) + (M : Int)) = ((S1 + M : Nat) : Int) := by rw [IntKind.wrap_i64]; omega
      have B1 := Lib.hid hb
      cases hA
      clear hb hf hst hM hS1
      obtain ⟨n0, v0, nv0⟩ := f
      go_wp2_with (first
        | (go_at_call 55; (with_reducible refine (pSize_n n0 v0 nv0 hf1 hf2 M HM.out _).mono ?_); rintro e w5 ⟨rfl, hb5⟩
           have B5 := Lib.hid ((B1.out.alloc B1.out.size (.cells #[.string n0, .string v0, .bool nv0] 38)).trans (hb5.mono (by have := B1.out.size; simp; omega)))
           clear hb5))
      go_roundg g1
      case measure => omega
      case rel => exact ⟨k + 1, by omega, by go_num, by rw [Hst.out]; first | rfl | go_num, B5.out⟩
    | zero =>
      obtain rfl : k = n := by omega
      have e : Hid (szs (fs.take k) = s) := by rw [← Hs.out, List.take_of_length_le (by rw [Hl.out]; exact Nat.le_refl _)]; exact rfl
      rw [e.out]
      have B1 := Lib.hid hb
      clear hb
      go_wp2
      go_ret
      exact ⟨rfl, B1.out⟩
end Go.Proofs.YtinieljgcenemaaDoor
namespace Go.Proofs.YtinieljgcenemaaDoor
open Go.RowKit Go.Own Go.Tbl Go.Huf Go.Hin
set_option linter.unusedVariables false
set_option maxRecDepth 100000
attribute [local go_sem ↓] Go.wp_at_zero Go.wp_at_succ

theorem statL_sz : ∀ g ∈ statL, sz g ≤ 65536 := by decide +kernel
/-- what a call leaves that reads a block -/
def BlockR (w : World) (q : Nat) (G : Nat → Prop) : Option (List Fld × Nat × List Fld) → Ending → World → Prop
  | some (fs, h', l'), e, w' => ∃ A n c G', e = .returned (.tuple #[.slice A n c, .bool true]) ∧ PT w' q G' h' l' ∧ Ok statL h' l' ∧ (∀ i, G' i → G i ∨ w.heap.size ≤ i) ∧ Fr G w w' ∧ fs.length = n ∧ w'.ownsRow w.heap.size 38 3 (.slice A n c) n (fcellsL fs) ∧ (∀ g, (Value.slice A n c).ownBlock = some g → ¬ G' g)
  | none, e, w' => ∃ v, e = .returned (.tuple #[v, .bool false]) ∧ Fr G w w'
section
variable {w : World} {A0 : Option Addr} {p q h : Nat} {l : List Fld} {G : Nat → Prop} {xs : List UInt8} {lim : Nat} {list : Int} {bk : Bool} {n0 c0 : Nat}
theorem fr_new {w w1 w' : World} {r : Nat} (h1 : Fr (fun _ => False) w w1) (h2 : Fr (fun i => i = r ∨ G i) w1 w') (hr : w.heap.size ≤ r) : Fr G w w' :=
  (h1.mono (fun _ _ h => h.elim)).trans h2 (fun i hi h => h.elim (fun e => by omega) id)
theorem manyD_len1 {h k n : Nat} {l l' : List Fld} {ys : List UInt8} {f : Fld} (ho : oneD statL h l ys = some (f, n, l')) (hOk : Ok statL h l) (hk : ys.length ≤ k + 1) : (ys.drop n).length ≤ k ∧ Ok statL h l' ∧ n ≤ ys.length := by
  obtain ⟨a1, a2, _, a4⟩ := oneD_len hOk statL_sz ho
  rw [List.length_drop]
  exact ⟨by omega, a4, a2⟩
set_option maxHeartbeats 8000000 in
theorem dBlock_at (t : PT w q G h l) (b : Blk w p 58 (decCells q (lim : Int) list bk)) (A1 : Option Addr) (hL : Left w A1 A0 n0 c0 xs) (hAl : ∀ a, A1 = some a → a.block < w.heap.size) (hAG : ∀ a, A1 = some a → ¬ G a.block) (hGp : ¬ G p) (hC : Cnt w) (hcG : ¬ G 0) (hlen : xs.length ≤ 268435456) (hlim : lim ≤ 65536) (hOk : Ok statL h l) (R : Option (List Fld × Nat × List Fld)) (hR : blockD statL lim h l xs = R) :
    Calls Tryd.prog 46 #[.pointer (some ⟨p, 0, none⟩), .slice A0 n0 c0] w (BlockR w q G R) := by
  have hpl : p < w.heap.size := Blk.lt b
  have hcp := hC.pos
  have hGr : ¬ G w.heap.size := fun hg => by have := t.lt _ hg; omega
  have hA1 : ∀ a, A1 = some a → a.block ≠ w.heap.size := fun a ha => by have := hAl a ha; omega
  have ba : Below w.heap.size w (w.alloc (.cells #[.slice A0 n0 c0] 98)) := (Below.refl _ _).alloc (Nat.le_refl _) _
  have f0 : Fr (fun _ => False) w (w.alloc (.cells #[.slice A0 n0 c0] 98)) := (Fr.refl _ _).alloc _
  have T1 : Hid (PT (w.alloc (.cells #[.slice A0 n0 c0] 98)) q G h l) := t.fr f0 (fun i hi h => h)
  have B1 : Hid (Blk (w.alloc (.cells #[.slice A0 n0 c0] 98)) p 58 (decCells q (lim : Int) list bk)) := b.alloc _
  have R1 : Hid (RdAt w (w.alloc (.cells #[.slice A0 n0 c0] 98)) A1 w.heap.size xs) := ⟨A0, n0, c0, hL, Blk.new w 98 [.slice A0 n0 c0], hL.rd.below ba⟩
  have hz1 : w.heap.size < (w.alloc (.cells #[.slice A0 n0 c0] 98)).heap.size := by simp
  have F0 := Lib.hid f0
  have HC := Lib.hid hC
  have HA := Lib.hid hA1
  have HAl := Lib.hid hAl
  have HAG := Lib.hid hAG
  have hcr : 0 ≠ w.heap.size := by omega
  have hpr : p ≠ w.heap.size := by omega
  obtain ⟨U, hU⟩ : ∃ U, updsD lim xs.length h l xs = U := ⟨_, rfl⟩
  have hUo := fun h' l' r (e : U = some (h', l', r)) => updsD_ok (st := statL) hlim _ _ _ _ _ _ _ hOk (hU.trans e)
  rw [blockD, hU] at hR
  have HU := Lib.hid hU
  have hAl1 : Hid (∀ a, A1 = some a → a.block < (w.alloc (.cells #[.slice A0 n0 c0] 98)).heap.size) := fun a ha => by have := hAl a ha; omega
  clear t b hL hC hA1 hAl hAG hOk f0 ba hU
  cases U with
  | none =>
    have HR : Hid (none = R) := hR
    clear hR hUo
    go_enter Tryd.func46, Tryd.ntmps46
    go_wp2_with (first
      | (go_at_call 61; (with_reducible refine (dUpds_c T1.out B1.out R1.out HA.out hAl1.out HAG.out hGr hGp hpr hlim _ HU.out).mono ?_); rintro e w2 ⟨rfl, f2⟩
         have F2 := Lib.hid (fr_new F0.out f2 (Nat.le_refl _))
         clear f2))
    go_ret2
    rw [← HR.out]
    exact ⟨_, rfl, F2.out⟩
  | some z =>
    obtain ⟨h1, l1, ys⟩ := z
    obtain ⟨hok1, hyl, _⟩ := hUo _ _ _ rfl
    clear hUo
    dsimp only at hR
    by_cases hlt : lim < h1
    · rw [if_pos hlt] at hR
      have HR : Hid (none = R) := hR
      have hb : Hid (decide (h1 ≤ lim) = false) := decide_eq_false (by omega)
      clear hR
      go_enter Tryd.func46, Tryd.ntmps46
      go_wp2_with (first
        | (go_at_call 61; (with_reducible refine (dUpds_c T1.out B1.out R1.out HA.out hAl1.out HAG.out hGr hGp hpr hlim _ HU.out).mono ?_); rintro e w2 ⟨rfl, G2, _, _, _, _, f2⟩; rw [hb.out]
           have F2 := Lib.hid (fr_new F0.out f2 (Nat.le_refl _))
           clear f2))
      go_ret2
      rw [← HR.out]
      exact ⟨_, rfl, F2.out⟩
    · rw [if_neg hlt] at hR
      have hb : Hid (decide (h1 ≤ lim) = true) := decide_eq_true (by omega)
      have HR := Lib.hid hR
      have Hok1 := Lib.hid hok1
      clear hR hok1
      go_enter Tryd.func46, Tryd.ntmps46
      go_wp2_with (first
        | (go_at_call 61; (with_reducible refine (dUpds_c T1.out B1.out R1.out HA.out hAl1.out HAG.out hGr hGp hpr hlim _ HU.out).mono ?_); rintro e w2 ⟨rfl, G2, t2, rd2, b2, hG2, f2⟩; rw [hb.out]
           have F2 := Lib.hid (fr_new F0.out f2 (Nat.le_refl _))
           have T2 := Lib.hid t2
           have R2 := Lib.hid rd2
           have B2 := Lib.hid b2
           have HG2 : Hid (∀ i, G2 i → G i ∨ w.heap.size < i) := fun i hi => (hG2 i hi).imp id (fun hh => by omega)
           clear t2 rd2 b2 hG2 f2))
      go_loopg [7] (ys.length + 1) (fun gh u w' => ∃ (k : Nat) (lk : List Fld) (zs : List UInt8) (Gk : Nat → Prop) (fk : List Fld) (A : Option Addr) (nk c : Nat), gh = k + 1 ∧ zs.length ≤ k ∧ (manyD statL h1 k lk zs).map (fun z => (fk ++ z.1, h1, z.2)) = R ∧ nk + zs.length ≤ 268435456 ∧ fk.length = nk ∧ u = .slice A nk c ∧ Ok statL h1 lk ∧ PT w' q Gk h1 lk ∧ RdAt w w' A1 w.heap.size zs ∧ Blk w' p 58 (decCells q (lim : Int) list bk) ∧ w'.ownsRow w.heap.size 38 3 (.slice A nk c) nk (fcellsL fk) ∧ (∀ g, (Value.slice A nk c).ownBlock = some g → ¬ Gk g ∧ w.heap.size < g) ∧ (∀ i, Gk i → G i ∨ w.heap.size < i) ∧ Fr G w w')
      case atStart =>
        refine ⟨ys.length, l1, ys, G2, [], none, 0, 0, rfl, Nat.le_refl _, ?_, by omega, rfl, rfl, Hok1.out, T2.out, R2.out, B2.out, World.ownsRow_nil _ _ _ _, fun g hg => by simp [Value.ownBlock] at hg, HG2.out, F2.out⟩
        rw [← HR.out]
        cases manyD statL h1 ys.length l1 ys <;> rfl
      case round =>
        obtain ⟨k, lk, zs, Gk, fk, A, nk, c, hgk, hzs, e1, hnk, hfk, rfl, hok, t, rd, b, ho, hv, hGk, hf⟩ := hrel
        have hz := hf.size
        have hGkr : ¬ Gk w.heap.size := fun hg => (hGk _ hg).elim hGr (fun hh => by omega)
        have hcGk : ¬ Gk 0 := fun hg => (hGk _ hg).elim hcG (fun hh => by omega)
        have hGkp : ¬ Gk p := fun hg => (hGk _ hg).elim hGp (fun hh => by omega)
        obtain ⟨Ar, nr, cr, hl, hbr, hr⟩ := id rd
        have hln := hl.len
        have y0 := hbr.cell 0
        simp only [List.getElem?_cons_zero] at y0
        have T3 := Lib.hid t
        have B3 := Lib.hid b
        have R3 := Lib.hid rd
        have O3 := Lib.hid ho
        have HV := Lib.hid hv
        have HG := Lib.hid hGk
        have F3 := Lib.hid hf
        have Hok := Lib.hid hok
        have C3 := Lib.hid (HC.out.fr hf hcG)
        have Hfk := Lib.hid hfk
        have hAl3 : Hid (∀ a, A1 = some a → a.block < wr.heap.size) := fun a ha => by have := HAl.out a ha; omega
        have hAG3 : Hid (∀ a, A1 = some a → ¬ Gk a.block) := fun a ha hg => (hGk _ hg).elim (HAG.out a ha) (fun hh => by have := HAl.out a ha; omega)
        have hrl := rd.lt
        clear t b rd ho hv hGk hf hbr hr hl hok hfk T2 R2 B2 HG2 F2 T1 R1 B1 F0
        cases zs with
        | nil =>
          have hn0 : nr = 0 := by simpa using hln.symm
          subst hn0
          have e2 : some (fk, h1, lk) = R := by
            rw [← e1]
            cases k <;> simp [manyD]
          have E2 := Lib.hid e2
          clear e1 e2
          go_wp2
          go_ret2
          rw [← E2.out]
          exact ⟨A, nk, c, Gk, rfl, T3.out, Hok.out, fun i hi => (HG.out i hi).imp id (fun hh => by omega), F3.out, Hfk.out, O3.out, fun g hg => (HV.out g hg).1⟩
        | cons x qs =>
          have hn1 : (0 : Int) < (nr : Int) := by simp at hln; omega
          obtain ⟨k1, rfl⟩ : ∃ k1, k = k1 + 1 := ⟨k - 1, by simp at hzs; omega⟩
          rw [manyD_step (by simp)] at e1
          obtain ⟨O, hO⟩ : ∃ O, oneD statL h1 lk (x :: qs) = O := ⟨_, rfl⟩
          rw [hO] at e1
          have HO := Lib.hid hO
          have hlen3 : (x :: qs).length ≤ 536870912 := by omega
          cases O with
          | none =>
            have E1 : Hid (none = R) := e1
            clear e1 hO
            go_wp2_with (first
              | (go_at_call 62; (with_reducible refine (dField_c T3.out B3.out R3.out HA.out hAl3.out hAG3.out hGkr hpr C3.out hcr hcGk hlen3 Hok.out statL_sz _ HO.out).mono ?_); rintro e w5 ⟨fa, fb, fc, rfl, f5⟩
                 have F5 := Lib.hid (F3.out.trans f5 (fun i hi h => h.elim (fun e => by omega) (fun h => (HG.out i h).elim id (fun hh => by omega))))
                 clear f5))
            go_ret2
            rw [← E1.out]
            exact ⟨_, rfl, F5.out.alloc _⟩
          | some z =>
            obtain ⟨f, n, l2⟩ := z
            obtain ⟨g1, g2, g3⟩ := manyD_len1 hO Hok.out hzs
            have e2 : (manyD statL h1 k1 l2 ((x :: qs).drop n)).map (fun z => ((fk ++ [f]) ++ z.1, h1, z.2)) = R := by
              rw [← e1]
              dsimp only
              cases manyD statL h1 k1 l2 ((x :: qs).drop n) <;> simp
            have hn : 1 ≤ n := (oneD_len Hok.out statL_sz hO).1
            have hnk2 : nk + 1 + ((x :: qs).drop n).length ≤ 268435456 := by rw [List.length_drop]; omega
            have E2 := Lib.hid e2
            have G2 := Lib.hid g2
            clear e1 e2 hO g2
            obtain ⟨fn, fv, fnv⟩ := f
            go_wp2_with (first
              | (go_at_call 62; (with_reducible refine (dField_c T3.out B3.out R3.out HA.out hAl3.out hAG3.out hGkr hpr C3.out hcr hcGk hlen3 Hok.out statL_sz _ HO.out).mono ?_); rintro e w5 ⟨rfl, G5, t5, rd5, hG5, f5⟩
                 have b5 := B3.out.fr f5 (fun h => h.elim (fun e => by omega) hGkp)
                 have hv5 : ∀ g, (Value.slice A nk c).ownBlock = some g → ¬ G5 g ∧ w.heap.size < g ∧ g < w5.heap.size := fun g hg => by
                   have h1 := HV.out g hg
                   have h2 := own_lt O3.out hg
                   have h3 := f5.size
                   exact ⟨fun hh => (hG5 g hh).elim h1.1 (fun h => by omega), h1.2, by omega⟩
                 have o5 := own_fr O3.out f5 (fun g hg h => h.elim (fun e => by have := (HV.out g hg).2; omega) (HV.out g hg).1)
                 have T5 := Lib.hid t5
                 have R5 := Lib.hid rd5
                 have B5 := Lib.hid b5
                 have O5 := Lib.hid o5
                 have HV5 := Lib.hid hv5
                 have HG5 : Hid (∀ i, G5 i → (G i ∨ w.heap.size < i) ∧ i < w5.heap.size) := fun i hi => ⟨(hG5 i hi).elim (HG.out i) (fun h => .inr (by omega)), t5.lt i hi⟩
                 have F5 := Lib.hid (F3.out.trans f5 (fun i hi h => h.elim (fun e => by omega) (fun h => (HG.out i h).elim id (fun hh => by omega))))
                 have fa : Fr (fun _ => False) w5 ((w5.alloc (.cells #[.string fn, .string fv, .bool fnv] 38)).alloc (.cells #[.string fn, .string fv, .bool fnv] 38)) := ((Fr.refl _ _).alloc _).alloc _
                 have hz5 : ((w5.alloc (.cells #[.string fn, .string fv, .bool fnv] 38)).alloc (.cells #[.string fn, .string fv, .bool fnv] 38)).heap.size = w5.heap.size + 2 := by simp
                 have O6 := Lib.hid (own_fr o5 fa (fun g hg h => h))
                 have x6 : (Blk ((w5.alloc (.cells #[.string fn, .string fv, .bool fnv] 38)).alloc (.cells #[.string fn, .string fv, .bool fnv] 38)) (w5.heap.size + 1) 38 [.string fn, .string fv, .bool fnv]) := by
                   have := Blk.new (w5.alloc (.cells #[.string fn, .string fv, .bool fnv] 38)) 38 [.string fn, .string fv, .bool fnv]
                   simpa using this
                 have X6 := Lib.hid x6
                 have hzw : w.heap.size ≤ w5.heap.size := by have := f5.size; omega
                 have FA := Lib.hid fa
                 clear t5 rd5 b5 o5 hv5 hG5 f5 fa x6)
              | (at_builtin
                 refine wpList_append_rd rfl (.tmp 26) (.tmp 28) 28 rfl EF (.slice A nk c) nk (fcellsL fk) rfl O6.out (some ⟨w5.heap.size + 1, 0, none⟩) 1 1 (fcellsL [⟨fn, fv, fnv⟩]) rfl (rd_one (f := ⟨fn, fv, fnv⟩) X6.out) (fcells_one _) (by omega) (by unfold maxLen; omega) (by rw [hz5]; omega) ?_
                 intro A7 c7 w7 ho7 hf7 h27
                 rw [← fcellsL_append] at ho7
                 have fab : Fr (fun i => some i = (Value.slice A nk c).ownBlock) w5 w7 := (FA.out.mono (S' := fun i => some i = (Value.slice A nk c).ownBlock) (fun _ _ h => h.elim)).trans hf7 (fun _ _ h => h)
                 have T7 := Lib.hid (T5.out.fr fab (fun i hi e => (HV5.out i e.symm).1 hi))
                 have R7 := Lib.hid (R5.out.fr0 fab (fun e => by have := (HV5.out _ e.symm).2.1; omega) (fun a ha e => by have h1 := HAl.out a ha; have := (HV5.out _ e.symm).2.1; omega))
                 have B7 := Lib.hid (B5.out.fr fab (fun e => by have := (HV5.out _ e.symm).2.1; omega))
                 have F7 := Lib.hid (F5.out.trans fab (fun i hi e => by have := (HV5.out _ e.symm).2.1; omega))
                 have O7 := Lib.hid ho7
                 have HV7 : Hid (∀ g, (Value.slice A7 (nk + 1) c7).ownBlock = some g → ¬ G5 g ∧ w.heap.size < g) := fun g hg => by
                   rcases h27 with h27 | h27
                   · have := HV5.out g (h27 ▸ hg)
                     exact ⟨this.1, this.2.1⟩
                   · rw [h27] at hg
                     cases hg
                     refine ⟨fun hh => ?_, by rw [hz5]; omega⟩
                     have := (HG5.out _ hh).2
                     rw [hz5] at this
                     omega
                 clear ho7 hf7 h27 fab))
            go_roundg (k1 + 1)
            case measure => omega
            case rel => exact ⟨k1, l2, (x :: qs).drop n, G5, fk ++ [⟨fn, fv, fnv⟩], A7, nk + 1, c7, rfl, g1, E2.out, hnk2, by rw [List.length_append, Hfk.out]; rfl, rfl, G2.out, T7.out, R7.out, B7.out, O7.out, HV7.out, fun i hi => (HG5.out i hi).1, F7.out⟩
end
end Go.Proofs.YtinieljgcenemaaDoor
namespace Go.Proofs.YtinieljgcenemaaDoor
open Go.RowKit Go.Own Go.Tbl Go.Huf Go.Hin
set_option linter.unusedVariables false
set_option maxRecDepth 100000
attribute [local go_sem ↓] Go.wp_at_zero Go.wp_at_succ

section
variable {w : World} {p h : Nat} {l : List Fld} {pd : Pend} {F : Nat → Prop}
theorem pTSize_n {q : Nat} (t : PT w q F h l) (s : Nat) (hs : szs l = s) : Calls Tryd.prog 43 #[.pointer (some ⟨q, 0, none⟩)] w fun e w' => e = .returned (.int .i64 (s : Int)) ∧ Below w.heap.size w w' := by
  subst hs
  exact pTSize_c t
set_option maxHeartbeats 1000000 in
theorem eSizeT {q : Nat} {t0 : TypeId} {cs : List Value} {G : Nat → Prop} (b : Blk w p t0 (.pointer (some ⟨q, 0, none⟩) :: cs)) (t : PT w q G h l) (s : Nat) (hs : szs l = s) : Calls Tryd.prog 21 #[.pointer (some ⟨p, 0, none⟩)] w fun e w' => e = .returned (.int .i64 (s : Int)) ∧ Below w.heap.size w w' := by
  have y0 : w.cell? ⟨p, 0, none⟩ = some (.pointer (some ⟨q, 0, none⟩)) := b.cell 0
  have T := Lib.hid t
  have HS := Lib.hid hs
  clear b t hs
  go_enter Tryd.func21, Tryd.ntmps21
  go_wp2_with (first
    | (go_at_call 43; (with_reducible refine (pTSize_n T.out s HS.out).mono ?_); rintro e w3 ⟨rfl, hb⟩
       have B3 := Lib.hid hb
       clear hb))
  go_ret
  exact ⟨rfl, B3.out⟩
set_option maxHeartbeats 1000000 in
theorem eMaxT {q : Nat} {t0 : TypeId} {cs : List Value} {G : Nat → Prop} (b : Blk w p t0 (.pointer (some ⟨q, 0, none⟩) :: cs)) (t : PT w q G h l) : Calls Tryd.prog 23 #[.pointer (some ⟨p, 0, none⟩)] w fun e w' => e = .returned (.int .i64 (h : Int)) ∧ Below w.heap.size w w' := by
  have y0 : w.cell? ⟨p, 0, none⟩ = some (.pointer (some ⟨q, 0, none⟩)) := b.cell 0
  have T := Lib.hid t
  clear b t
  go_enter Tryd.func23, Tryd.ntmps23
  go_wp2_with (first
    | (go_at_call 45; (with_reducible refine (pMax_i T.out).mono ?_); rintro e w3 ⟨rfl, hb⟩
       have B3 := Lib.hid hb
       clear hb))
  go_ret
  exact ⟨rfl, B3.out⟩
theorem eSize_c (t : PEo p h l pd w F) (s : Nat) (hs : szs l = s) : Calls Tryd.prog 21 #[.pointer (some ⟨p, 0, none⟩)] w fun e w' => e = .returned (.int .i64 (s : Int)) ∧ Below w.heap.size w w' := by
  obtain ⟨_, q, a, b, _, F1, F2, ⟨h1, _⟩, h2, _, _⟩ := t
  exact eSizeT h1 h2 s hs
theorem eMax_c (t : PEo p h l pd w F) : Calls Tryd.prog 23 #[.pointer (some ⟨p, 0, none⟩)] w fun e w' => e = .returned (.int .i64 (h : Int)) ∧ Below w.heap.size w w' := by
  obtain ⟨_, q, a, b, _, F1, F2, ⟨h1, _⟩, h2, _, _⟩ := t
  exact eMaxT h1 h2
theorem below_size_lt {w w' : World} {i : Nat} (h : i < w.heap.size) (hb : Below w.heap.size w w') : i < w'.heap.size := Nat.lt_of_lt_of_le h hb.size
set_option maxHeartbeats 4000000 in
theorem eSetMax_c (t : PEo p h l pd w F) (x : Int) (hx : i64 x) (n : Nat) (hn : clampI x = n) : Calls Tryd.prog 15 #[.pointer (some ⟨p, 0, none⟩), .int .i64 x] w fun e w' => e = .returned (.tuple #[]) ∧ St F w w' [PEo p h l (tell n pd)] := by
  have hn2 : n ≤ 65536 := hn ▸ clampI_le x
  obtain ⟨hk, q, a, b, hp, s0⟩ := pe_open (pe_start t)
  have S0 := Lib.hid s0
  have Hx := Lib.hid hx
  have Hn := Lib.hid hn
  have Hk := Lib.hid hk
  have hpl : p < w.heap.size := Blk.lt S0.out.blk0
  clear s0 hx hn t hk
  cases pd with
  | none =>
    have S0 : Hid (St F w w [BLo p 44 (encCells q false a b), PTo q h l]) := S0
    go_enter Tryd.func15, Tryd.ntmps15
    go_wp2_with (first
      | (go_at_call 37; (with_reducible refine (eCnt_c x Hx.out n Hn.out _).mono ?_); rintro e w2 ⟨rfl, hb⟩
         have S2 := Lib.hid (S0.out.next hb)
         have X2 := S2.out.blk0
         have z0 := X2.cell 0
         have z1 := X2.cell 1
         have z2 := X2.cell 2
         have z3 := X2.cell 3
         have zf := X2.frozen
         simp only [List.getElem?_cons_zero, List.getElem?_cons_succ] at z0 z1 z2 z3
         clear hb X2))
    have S3 : Hid (St F w (w2.setCell ⟨p, 3, none⟩ (.int .i64 (n : Int))) [BLo p 44 (encCells q false a (n : Int)), PTo q h l]) := S2.out.set0 3 (.int .i64 (n : Int))
    clear S2 z0 z1 z2 z3 zf
    generalize w2.setCell ⟨p, 3, none⟩ (.int .i64 (n : Int)) = w3 at S3 ⊢
    have X3 := S3.out.blk0
    have z0 := X3.cell 0
    have z1 := X3.cell 1
    have z2 := X3.cell 2
    have z3 := X3.cell 3
    have zf := X3.frozen
    simp only [List.getElem?_cons_zero, List.getElem?_cons_succ] at z0 z1 z2 z3
    clear X3
    go_quiet (fail)
    simp only [Exit.then]
    refine ‹∀ (a : Act) (w : World), Code.wp Tryd.prog (Code.cond _ _ _) _ a w → _› _ _ ?_
    try simp [Act.put, List.getElem_toArray]
    have S4 := Lib.hid (S3.out.drewN nq)
    have X4 := S4.out.blk0
    have u0 := X4.cell 0
    have u1 := X4.cell 1
    have u2 := X4.cell 2
    have u3 := X4.cell 3
    have uf := X4.frozen
    simp only [List.getElem?_cons_zero, List.getElem?_cons_succ] at u0 u1 u2 u3
    clear X4 S3
    go_wp2
    go_end0
    refine ⟨rfl, ?_⟩
    have s5 : St F w _ [BLo p 44 (encCells q true (n : Int) (n : Int)), PTo q h l] := (S4.out.set0 2 (.int .i64 (n : Int))).set0 1 (.bool true)
    exact pe_close (pd := some (n, n)) s5 Hk.out ⟨rfl, rfl, hn2, hn2⟩
  | some z =>
    obtain ⟨x0, y0⟩ := z
    obtain ⟨rfl, rfl, hx0, hy0⟩ := hp
    by_cases hlt : n < x0
    · have S0 : Hid (St F w w [BLo p 44 (encCells q true (x0 : Int) (y0 : Int)), PTo q h l]) := S0
      have kl : (n : Int) < (x0 : Int) := by omega
      have kb : decide (n < x0) = true := decide_eq_true hlt
      go_enter Tryd.func15, Tryd.ntmps15
      go_wp2_with (first
        | (go_at_call 37; (with_reducible refine (eCnt_c x Hx.out n Hn.out _).mono ?_); rintro e w2 ⟨rfl, hb⟩
           have S2 := Lib.hid (S0.out.next hb)
           have X2 := S2.out.blk0
           have z0 := X2.cell 0
           have z1 := X2.cell 1
           have z2 := X2.cell 2
           have z3 := X2.cell 3
           have zf := X2.frozen
           simp only [List.getElem?_cons_zero, List.getElem?_cons_succ] at z0 z1 z2 z3
           clear hb X2))
      have S3 : Hid (St F w (w2.setCell ⟨p, 3, none⟩ (.int .i64 (n : Int))) [BLo p 44 (encCells q true (x0 : Int) (n : Int)), PTo q h l]) := S2.out.set0 3 (.int .i64 (n : Int))
      clear S2 z0 z1 z2 z3 zf
      generalize w2.setCell ⟨p, 3, none⟩ (.int .i64 (n : Int)) = w3 at S3 ⊢
      have X3 := S3.out.blk0
      have z0 := X3.cell 0
      have z1 := X3.cell 1
      have z2 := X3.cell 2
      have z3 := X3.cell 3
      have zf := X3.frozen
      simp only [List.getElem?_cons_zero, List.getElem?_cons_succ] at z0 z1 z2 z3
      clear X3
      go_quiet (fail)
      simp only [Exit.then]
      refine ‹∀ (a : Act) (w : World), Code.wp Tryd.prog (Code.cond _ _ _) _ a w → _› _ _ ?_
      try simp [Act.put, List.getElem_toArray]
      have S4 := Lib.hid (S3.out.drewN nq)
      have X4 := S4.out.blk0
      have u0 := X4.cell 0
      have u1 := X4.cell 1
      have u2 := X4.cell 2
      have u3 := X4.cell 3
      have uf := X4.frozen
      simp only [List.getElem?_cons_zero, List.getElem?_cons_succ] at u0 u1 u2 u3
      clear X4 S3
      go_wp2
      go_end0
      refine ⟨rfl, ?_⟩
      have s5 : St F w _ [BLo p 44 (encCells q true (n : Int) (n : Int)), PTo q h l] := (S4.out.set0 2 (.int .i64 (n : Int))).set0 1 (.bool true)
      exact pe_close (pd := some (min x0 n, n)) s5 Hk.out ⟨(by omega), rfl, (by omega), hn2⟩
  
    · have S0 : Hid (St F w w [BLo p 44 (encCells q true (x0 : Int) (y0 : Int)), PTo q h l]) := S0
      have kl : ¬ (n : Int) < (x0 : Int) := by omega
      have kb : decide (n < x0) = false := decide_eq_false hlt
      go_enter Tryd.func15, Tryd.ntmps15
      go_wp2_with (first
        | (go_at_call 37; (with_reducible refine (eCnt_c x Hx.out n Hn.out _).mono ?_); rintro e w2 ⟨rfl, hb⟩
           have S2 := Lib.hid (S0.out.next hb)
           have X2 := S2.out.blk0
           have z0 := X2.cell 0
           have z1 := X2.cell 1
           have z2 := X2.cell 2
           have z3 := X2.cell 3
           have zf := X2.frozen
           simp only [List.getElem?_cons_zero, List.getElem?_cons_succ] at z0 z1 z2 z3
           clear hb X2))
      have S3 : Hid (St F w (w2.setCell ⟨p, 3, none⟩ (.int .i64 (n : Int))) [BLo p 44 (encCells q true (x0 : Int) (n : Int)), PTo q h l]) := S2.out.set0 3 (.int .i64 (n : Int))
      clear S2 z0 z1 z2 z3 zf
      generalize w2.setCell ⟨p, 3, none⟩ (.int .i64 (n : Int)) = w3 at S3 ⊢
      have X3 := S3.out.blk0
      have z0 := X3.cell 0
      have z1 := X3.cell 1
      have z2 := X3.cell 2
      have z3 := X3.cell 3
      have zf := X3.frozen
      simp only [List.getElem?_cons_zero, List.getElem?_cons_succ] at z0 z1 z2 z3
      clear X3
      go_quiet (fail)
      simp only [Exit.then]
      refine ‹∀ (a : Act) (w : World), Code.wp Tryd.prog (Code.cond _ _ _) _ a w → _› _ _ ?_
      try simp [Act.put, List.getElem_toArray]
      have S4 := Lib.hid (S3.out.drewN nq)
      have X4 := S4.out.blk0
      have u0 := X4.cell 0
      have u1 := X4.cell 1
      have u2 := X4.cell 2
      have u3 := X4.cell 3
      have uf := X4.frozen
      simp only [List.getElem?_cons_zero, List.getElem?_cons_succ] at u0 u1 u2 u3
      clear X4 S3
      go_wp2
      go_end0
      refine ⟨rfl, ?_⟩
      have s5 : St F w _ [BLo p 44 (encCells q true (x0 : Int) (n : Int)), PTo q h l] := S4.out.set0 1 (.bool true)
      exact pe_close (pd := some (min x0 n, n)) s5 Hk.out ⟨(by omega), rfl, (by omega), hn2⟩
  
end
end Go.Proofs.YtinieljgcenemaaDoor
