/- The document's decoder: a field. -/
import Derived.Test.YtinieljgcenemaaDoorR5C
import Derived.Deep.RegionHeld
namespace Go.Proofs.YtinieljgcenemaaDoor
open Go.RowKit Go.Own Go.Tbl Go.Huf Go.Hin
set_option linter.unusedVariables false
set_option maxRecDepth 100000
attribute [local go_sem ↓] Go.wp_at_zero Go.wp_at_succ

abbrev zF : Obj := .cells #[.string ⟨#[]⟩, .string ⟨#[]⟩, .bool false] 38
/-- what a call leaves that reads a field -/
def OneP (w : World) (r h : Nat) (G : Nat → Prop) : Option (Fld × Nat × List Fld) → Ending → World → Prop
  | some (f, n, l'), e, w' => e = .returned (.tuple #[.agg #[.string f.n, .string f.v, .bool f.nv], .int .i64 (n : Int), .bool true]) ∧ St G w w' [RXo r h l']
  | none, e, w' => ∃ (a b : ByteArray) (c : Bool) (n : Nat), e = .returned (.tuple #[.agg #[.string a, .string b, .bool c], .int .i64 (n : Int), .bool false]) ∧ Below w.heap.size w w'
section
variable {w : World} {p r h : Nat} {l : List Fld} {G : Nat → Prop} {vs : List Value}
theorem str_0 {x : UInt8} {q : List UInt8} {S : ByteArray} (hS : ofB (x :: q) = S) : ∃ hk : 0 < S.size, S[0]'hk = x := by
  subst hS
  refine ⟨by rw [ofB_size]; simp, ?_⟩
  exact str_get (x :: q) 0 x rfl (by rw [str_size]; simp)
set_option maxHeartbeats 4000000 in
theorem r5oneD_at (t : RX w r G h l) (b : Blk w p 56 (.pointer (some ⟨r, 0, none⟩) :: vs)) (x : UInt8) (q : List UInt8) (S : ByteArray) (hS : ofB (x :: q) = S) (n0 : Nat) (hn0 : (x :: q).length = n0) (hn : n0 ≤ 1000) (hx : 128 ≤ x.toNat) (R0 : Go.Hin.G) (hR0 : getN 7 (x :: q) = R0) (i n : Nat) (hi6 : i ≤ 2147483647) (c : Int) (hv : getV R0 = .tuple #[.int .i64 (i : Int), .int .i64 (n : Int), .int .i64 c]) (R : Option Fld) (hM : nth (statL ++ l) i = R) (g : Fld) (okb : Bool) (hat : atV R = .tuple #[.agg #[.string g.n, .string g.v, .bool g.nv], .bool okb]) (cb : Bool) (hc : (c == 0) = cb) :
    Calls Tryd.prog 64 #[.pointer (some ⟨p, 0, none⟩), .string S] w fun e w' => e = .returned (.tuple #[.agg #[.string g.n, .string g.v, .bool g.nv], .int .i64 (n : Int), .bool (cb && okb)]) ∧ Below w.heap.size w w' := by
  obtain ⟨hk, hs0⟩ := str_0 hS
  have y0 : w.cell? ⟨p, 0, none⟩ = some (.pointer (some ⟨r, 0, none⟩)) := b.cell 0
  have ba : Below w.heap.size w (w.alloc zF) := (Below.refl _ _).alloc (Nat.le_refl _) _
  have fa : Fr (fun _ => False) w (w.alloc zF) := (Fr.refl _ _).alloc _
  have T2 : Hid (RX (w.alloc zF) r G h l) := RX.fr t fa (fun _ _ h => h)
  have X2 : Hid (Blk (w.alloc zF) w.heap.size 38 zeroF) := Blk.new w 38 zeroF
  have B2 := Lib.hid ba
  have hpl : p < w.heap.size := Blk.lt b
  have HS := Lib.hid hS
  have Hn0 := Lib.hid hn0
  have HR := Lib.hid hR0
  have HV := Lib.hid hv
  have HM := Lib.hid hM
  have HA := Lib.hid hat
  have kx : (128 : Int) ≤ (x.toNat : Int) := by omega
  have kx2 : ¬ (x.toNat : Int) < 128 := by omega
  clear t b ba fa hS hn0 hR0 hv hM hat
  cases cb
  all_goals
    go_enter Tryd.func64, Tryd.ntmps64
    go_wp2_with (first
      | (go_at_call 63; (with_reducible refine (r3GetInt_p (x :: q) S HS.out n0 Hn0.out hn 7 (by omega) (by omega) 7 rfl R0 HR.out _ HV.out _).mono ?_); rintro e wq ⟨rfl, rfl⟩)
      | (go_at_call 79; (with_reducible refine (xrAt_n T2.out i hi6 R HM.out).mono ?_); rintro e w3 ⟨rfl, hb⟩; rw [HA.out]
         have X3 := X2.out.below hb (Blk.lt X2.out)
         have B3 := Lib.hid (B2.out.trans (hb.mono B2.out.size))
         have x0 := X3.cell 0
         have x1 := X3.cell 1
         have x2 := X3.cell 2
         have xf := X3.frozen
         simp only [List.getElem?_cons_zero, List.getElem?_cons_succ] at x0 x1 x2
         have xl := Blk.lt X3
         have X3 := Lib.hid X3
         clear hb))
    have X9 := (blk_set3 X3.out (.string g.n) (.string g.v) (.bool g.nv)).alloc (.cells #[.string g.n, .string g.v, .bool g.nv] 38)
    have B9 := (below_set3 B3.out (Nat.le_refl _) (.string g.n) (.string g.v) (.bool g.nv)).alloc (below_set3 B3.out (Nat.le_refl _) (.string g.n) (.string g.v) (.bool g.nv)).size (.cells #[.string g.n, .string g.v, .bool g.nv] 38)
    have z0 := X9.cell 0
    have z1 := X9.cell 1
    have z2 := X9.cell 2
    simp only [List.getElem?_cons_zero, List.getElem?_cons_succ] at z0 z1 z2
    refine bodyPost_ret (v := .tuple #[.agg #[.string g.n, .string g.v, .bool g.nv], .int .i64 (n : Int), .bool _]) (by simp [results, Tryd.results64, go_sem, z0, z1, z2]; first | done | exact rfl) rfl ?_
    exact ⟨by simp, B9⟩
set_option maxHeartbeats 4000000 in
theorem r5oneD_addno (t : RX w r G h l) (b : Blk w p 56 (.pointer (some ⟨r, 0, none⟩) :: vs)) (x : UInt8) (q : List UInt8) (S : ByteArray) (hS : ofB (x :: q) = S) (n0 : Nat) (hn0 : (x :: q).length = n0) (hn : n0 ≤ 1000) (hx : ¬ 128 ≤ x.toNat) (hx2 : 64 ≤ x.toNat) (R : Option (Fld × Nat)) (hR : litD (statL ++ l) 6 (x :: q) = R) (g : Fld) (m : Nat) (hlv : litV R = .tuple #[.agg #[.string g.n, .string g.v, .bool g.nv], .int .i64 (m : Int), .bool false]) :
    Calls Tryd.prog 64 #[.pointer (some ⟨p, 0, none⟩), .string S] w fun e w' => e = .returned (.tuple #[.agg #[.string g.n, .string g.v, .bool g.nv], .int .i64 (m : Int), .bool false]) ∧ Below w.heap.size w w' := by
  obtain ⟨hk, hs0⟩ := str_0 hS
  have y0 : w.cell? ⟨p, 0, none⟩ = some (.pointer (some ⟨r, 0, none⟩)) := b.cell 0
  have ba : Below w.heap.size w (w.alloc zF) := (Below.refl _ _).alloc (Nat.le_refl _) _
  have fa : Fr (fun _ => False) w (w.alloc zF) := (Fr.refl _ _).alloc _
  have T2 : Hid (RX (w.alloc zF) r G h l) := RX.fr t fa (fun _ _ h => h)
  have P2 : Hid (Blk (w.alloc zF) p 56 (.pointer (some ⟨r, 0, none⟩) :: vs)) := b.alloc _
  have X2 : Hid (Blk (w.alloc zF) w.heap.size 38 zeroF) := Blk.new w 38 zeroF
  have B2 := Lib.hid ba
  have hpl : p < w.heap.size := Blk.lt b
  have HS := Lib.hid hS
  have Hn0 := Lib.hid hn0
  have HGlt : Hid (∀ i, G i → i < w.heap.size) := t.lt
  have HR := Lib.hid hR
  have HV := Lib.hid hlv
  have kx : ¬ (128 : Int) ≤ (x.toNat : Int) := by omega
  have kx3 : (64 : Int) ≤ (x.toNat : Int) := by omega
  clear t b ba fa hS hn0 hR hlv
  go_enter Tryd.func64, Tryd.ntmps64
  go_wp2_with (first
    | (go_at_call 80; (with_reducible refine (r5Dlit_c T2.out P2.out (x :: q) S HS.out n0 Hn0.out hn 6 (by omega) (by omega) 6 rfl R HR.out).mono ?_); rintro e w3 ⟨rfl, hb⟩; rw [HV.out]
       have X3 := X2.out.below hb (Blk.lt X2.out)
       have T3 := Lib.hid (T2.out.fr (Fr.of_below (S := fun _ => False) hb (fun i h1 h2 => by omega)) (fun i _ h => h))
       have b3 := P2.out.below hb (Blk.lt P2.out)
       have y3 := b3.cell 0
       have B3 := Lib.hid (B2.out.trans (hb.mono B2.out.size))
       have x0 := X3.cell 0
       have x1 := X3.cell 1
       have x2 := X3.cell 2
       have xf := X3.frozen
       simp only [List.getElem?_cons_zero, List.getElem?_cons_succ] at x0 x1 x2 y3
       have xl := Blk.lt X3
       have X3 := Lib.hid X3
       have P3 := Lib.hid b3
       clear hb b3))
  have X9 := (blk_set3 X3.out (.string g.n) (.string g.v) (.bool g.nv)).alloc (.cells #[.string g.n, .string g.v, .bool g.nv] 38)
  have B9 := (below_set3 B3.out (Nat.le_refl _) (.string g.n) (.string g.v) (.bool g.nv)).alloc (below_set3 B3.out (Nat.le_refl _) (.string g.n) (.string g.v) (.bool g.nv)).size (.cells #[.string g.n, .string g.v, .bool g.nv] 38)
  have z0 := X9.cell 0
  have z1 := X9.cell 1
  have z2 := X9.cell 2
  simp only [List.getElem?_cons_zero, List.getElem?_cons_succ] at z0 z1 z2
  refine bodyPost_ret (v := .tuple #[.agg #[.string g.n, .string g.v, .bool g.nv], .int .i64 (m : Int), .bool false]) (by simp [results, Tryd.results64, go_sem, z0, z1, z2]) rfl ?_
  exact ⟨rfl, B9⟩
set_option maxHeartbeats 4000000 in
theorem r5oneD_addok (t : RX w r G h l) (b : Blk w p 56 (.pointer (some ⟨r, 0, none⟩) :: vs)) (x : UInt8) (q : List UInt8) (S : ByteArray) (hS : ofB (x :: q) = S) (n0 : Nat) (hn0 : (x :: q).length = n0) (hn : n0 ≤ 1000) (hx : ¬ 128 ≤ x.toNat) (hx2 : 64 ≤ x.toNat) (R : Option (Fld × Nat)) (hR : litD (statL ++ l) 6 (x :: q) = R) (g : Fld) (m : Nat) (hlv : litV R = .tuple #[.agg #[.string g.n, .string g.v, .bool g.nv], .int .i64 (m : Int), .bool true]) (hf : fok g) :
    Calls Tryd.prog 64 #[.pointer (some ⟨p, 0, none⟩), .string S] w fun e w' => ∃ G', e = .returned (.tuple #[.agg #[.string g.n, .string g.v, .bool g.nv], .int .i64 (m : Int), .bool true]) ∧ RX w' r G' h (addF h g l) ∧ (∀ i, G' i → G i ∨ w.heap.size ≤ i) ∧ Fr G w w' := by
  obtain ⟨hk, hs0⟩ := str_0 hS
  have y0 : w.cell? ⟨p, 0, none⟩ = some (.pointer (some ⟨r, 0, none⟩)) := b.cell 0
  have ba : Below w.heap.size w (w.alloc zF) := (Below.refl _ _).alloc (Nat.le_refl _) _
  have fa : Fr (fun _ => False) w (w.alloc zF) := (Fr.refl _ _).alloc _
  have T2 : Hid (RX (w.alloc zF) r G h l) := RX.fr t fa (fun _ _ h => h)
  have P2 : Hid (Blk (w.alloc zF) p 56 (.pointer (some ⟨r, 0, none⟩) :: vs)) := b.alloc _
  have X2 : Hid (Blk (w.alloc zF) w.heap.size 38 zeroF) := Blk.new w 38 zeroF
  have B2 := Lib.hid ba
  have hpl : p < w.heap.size := Blk.lt b
  have HS := Lib.hid hS
  have Hn0 := Lib.hid hn0
  have HGlt : Hid (∀ i, G i → i < w.heap.size) := t.lt
  have HR := Lib.hid hR
  have HV := Lib.hid hlv
  have HF := Lib.hid hf
  have kx : ¬ (128 : Int) ≤ (x.toNat : Int) := by omega
  have kx3 : (64 : Int) ≤ (x.toNat : Int) := by omega
  clear t b ba fa hS hn0 hR hlv hf
  go_enter Tryd.func64, Tryd.ntmps64
  go_wp2_with (first
    | (go_at_call 80; (with_reducible refine (r5Dlit_c T2.out P2.out (x :: q) S HS.out n0 Hn0.out hn 6 (by omega) (by omega) 6 rfl R HR.out).mono ?_); rintro e w3 ⟨rfl, hb⟩; rw [HV.out]
       have X3 := X2.out.below hb (Blk.lt X2.out)
       have T3 := Lib.hid (T2.out.fr (Fr.of_below (S := fun _ => False) hb (fun i h1 h2 => by omega)) (fun i _ h => h))
       have b3 := P2.out.below hb (Blk.lt P2.out)
       have y3 := b3.cell 0
       have B3 := Lib.hid (B2.out.trans (hb.mono B2.out.size))
       have x0 := X3.cell 0
       have x1 := X3.cell 1
       have x2 := X3.cell 2
       have xf := X3.frozen
       simp only [List.getElem?_cons_zero, List.getElem?_cons_succ] at x0 x1 x2 y3
       have xl := Blk.lt X3
       have X3 := Lib.hid X3
       have P3 := Lib.hid b3
       clear hb b3))
  have F3 : Hid (Fr (fun _ => False) w w3) := Fr.of_below (S := fun _ => False) B3.out (fun i h1 h2 => by omega)
  have fa : Fr (fun _ => False) w3 (w3.alloc (.cells #[.string g.n, .string g.v, .bool g.nv] 38)).drew := ((Fr.refl _ _).alloc _).drew
  have T4 : Hid (RX (w3.alloc (.cells #[.string g.n, .string g.v, .bool g.nv] 38)).drew r G h l) := T3.out.fr fa (fun i _ h => h)
  have hy4 : (w3.alloc (.cells #[.string g.n, .string g.v, .bool g.nv] 38)).cell? ⟨p, 0, none⟩ = some (.pointer (some ⟨r, 0, none⟩)) := (P3.out.alloc (.cells #[.string g.n, .string g.v, .bool g.nv] 38)).cell 0
  have hy4d : (w3.alloc (.cells #[.string g.n, .string g.v, .bool g.nv] 38)).drew.cell? ⟨p, 0, none⟩ = some (.pointer (some ⟨r, 0, none⟩)) := hy4
  have V4 := (Blk.new w3 38 [.string g.n, .string g.v, .bool g.nv])
  have v0 : (w3.alloc (.cells #[.string g.n, .string g.v, .bool g.nv] 38)).cell? ⟨w3.heap.size, 0, none⟩ = some (.string g.n) := V4.cell 0
  have v1 : (w3.alloc (.cells #[.string g.n, .string g.v, .bool g.nv] 38)).cell? ⟨w3.heap.size, 1, none⟩ = some (.string g.v) := V4.cell 1
  have v2 : (w3.alloc (.cells #[.string g.n, .string g.v, .bool g.nv] 38)).cell? ⟨w3.heap.size, 2, none⟩ = some (.bool g.nv) := V4.cell 2
  have v0d : (w3.alloc (.cells #[.string g.n, .string g.v, .bool g.nv] 38)).drew.cell? ⟨w3.heap.size, 0, none⟩ = some (.string g.n) := v0
  have v1d : (w3.alloc (.cells #[.string g.n, .string g.v, .bool g.nv] 38)).drew.cell? ⟨w3.heap.size, 1, none⟩ = some (.string g.v) := v1
  have v2d : (w3.alloc (.cells #[.string g.n, .string g.v, .bool g.nv] 38)).drew.cell? ⟨w3.heap.size, 2, none⟩ = some (.bool g.nv) := v2
  have V4d : Hid (Blk (w3.alloc (.cells #[.string g.n, .string g.v, .bool g.nv] 38)).drew w3.heap.size 38 [.string g.n, .string g.v, .bool g.nv]) := V4.fr (S := fun _ => False) ((Fr.refl _ _).drew) (fun h => h)
  have X4d : Hid (Blk (w3.alloc (.cells #[.string g.n, .string g.v, .bool g.nv] 38)).drew w.heap.size 38 zeroF) := X3.out.fr fa (fun h => h)
  have FA := Lib.hid fa
  have hw3 := F3.out.size
  have hGn : Hid (∀ i, G i → i < w.heap.size) := HGlt.out
  clear fa V4 x0 x1 x2 xf
  go_region_with
    (first
    | (go_at_call 60; (with_reducible refine (xrAdd T4.out g HF.out).mono ?_); rintro e w5 ⟨G5, rfl, t5, hG5, f5⟩
       have T5 := Lib.hid t5
       have HG5 := Lib.hid hG5
       have F5 := Lib.hid f5
       have v5 := V4d.out.fr f5 (fun hg => by have := hGn.out _ hg; omega)
       have x5 := X4d.out.fr f5 (fun hg => by have := hGn.out _ hg; omega)
       have u0 := v5.cell 0
       have u1 := v5.cell 1
       have u2 := v5.cell 2
       have x0 := x5.cell 0
       have x1 := x5.cell 1
       have x2 := x5.cell 2
       have xf := x5.frozen
       have X5 := Lib.hid x5
       simp only [List.getElem?_cons_zero, List.getElem?_cons_succ] at u0 u1 u2 x0 x1 x2
       clear t5 hG5 f5 v5 x5))
  all_goals
    go_wp2
    have X9 := blk_set3 X5.out (.string g.n) (.string g.v) (.bool g.nv)
    have z0 := X9.cell 0
    have z1 := X9.cell 1
    have z2 := X9.cell 2
    simp only [List.getElem?_cons_zero, List.getElem?_cons_succ] at z0 z1 z2
    refine bodyPost_ret (v := .tuple #[.agg #[.string g.n, .string g.v, .bool g.nv], .int .i64 (m : Int), .bool true]) (by simp [results, Tryd.results64, go_sem, z0, z1, z2]) rfl ?_
    have hF0 : Fr G w w5 := (F3.out.mono (fun _ _ h => h.elim)).trans ((FA.out.mono (S' := G) (fun _ _ h => h.elim)).trans F5.out (fun _ _ h => h)) (fun _ _ h => h)
    have hF9 : Fr G w (set3 w5 w.heap.size (.string g.n) (.string g.v) (.bool g.nv)) := by
      have h1 := hF0.trans (S' := fun i => i = w.heap.size) (((((Fr.refl (fun i => i = w.heap.size) w5).setCell (p := ⟨w.heap.size, 0, none⟩) (.inl rfl) (.string g.n)).setCell (p := ⟨w.heap.size, 1, none⟩) (.inl rfl) (.string g.v)).setCell (p := ⟨w.heap.size, 2, none⟩) (.inl rfl) (.bool g.nv))) (fun i hi e => by omega)
      exact h1
    refine ⟨G5, rfl, ?_, fun i hi => (HG5.out i hi).imp id (fun h => by simp at h; omega), hF9⟩
    refine T5.out.fr (S := fun i => i = w.heap.size) (((((Fr.refl (fun i => i = w.heap.size) w5).setCell (p := ⟨w.heap.size, 0, none⟩) (.inl rfl) (.string g.n)).setCell (p := ⟨w.heap.size, 1, none⟩) (.inl rfl) (.string g.v)).setCell (p := ⟨w.heap.size, 2, none⟩) (.inl rfl) (.bool g.nv))) (fun i hi e => ?_)
    rcases HG5.out i hi with h | h
    · have := hGn.out i h; omega
    · simp at h; omega
set_option maxHeartbeats 4000000 in
theorem r5oneD_upd (t : RX w r G h l) (b : Blk w p 56 (.pointer (some ⟨r, 0, none⟩) :: vs)) (x : UInt8) (q : List UInt8) (S : ByteArray) (hS : ofB (x :: q) = S) (n0 : Nat) (hn0 : (x :: q).length = n0) (hn : n0 ≤ 1000) (hx : ¬ 64 ≤ x.toNat) (hx2 : 32 ≤ x.toNat)  :
    Calls Tryd.prog 64 #[.pointer (some ⟨p, 0, none⟩), .string S] w fun e w' => e = .returned (.tuple #[.agg #[.string ⟨#[]⟩, .string ⟨#[]⟩, .bool false], .int .i64 0, .bool false]) ∧ Below w.heap.size w w' := by
  obtain ⟨hk, hs0⟩ := str_0 hS
  have y0 : w.cell? ⟨p, 0, none⟩ = some (.pointer (some ⟨r, 0, none⟩)) := b.cell 0
  have ba : Below w.heap.size w (w.alloc zF) := (Below.refl _ _).alloc (Nat.le_refl _) _
  have fa : Fr (fun _ => False) w (w.alloc zF) := (Fr.refl _ _).alloc _
  have T2 : Hid (RX (w.alloc zF) r G h l) := RX.fr t fa (fun _ _ h => h)
  have P2 : Hid (Blk (w.alloc zF) p 56 (.pointer (some ⟨r, 0, none⟩) :: vs)) := b.alloc _
  have X2 : Hid (Blk (w.alloc zF) w.heap.size 38 zeroF) := Blk.new w 38 zeroF
  have B2 := Lib.hid ba
  have hpl : p < w.heap.size := Blk.lt b
  have HS := Lib.hid hS
  have Hn0 := Lib.hid hn0
  have HGlt : Hid (∀ i, G i → i < w.heap.size) := t.lt
  have kx : ¬ (128 : Int) ≤ (x.toNat : Int) := by omega
  have kx3 : ¬ (64 : Int) ≤ (x.toNat : Int) := by omega
  have kx4 : (32 : Int) ≤ (x.toNat : Int) := by omega
  clear t b ba fa hS hn0
  go_enter Tryd.func64, Tryd.ntmps64
  go_wp2
  have z0 := X2.out.cell 0
  have z1 := X2.out.cell 1
  have z2 := X2.out.cell 2
  simp only [List.getElem?_cons_zero, List.getElem?_cons_succ] at z0 z1 z2
  refine bodyPost_ret (v := .tuple #[.agg #[.string ⟨#[]⟩, .string ⟨#[]⟩, .bool false], .int .i64 0, .bool false]) (by simp [results, Tryd.results64, go_sem, z0, z1, z2]) rfl ?_
  exact ⟨rfl, B2.out⟩
set_option maxHeartbeats 4000000 in
theorem r5oneD_lit (t : RX w r G h l) (b : Blk w p 56 (.pointer (some ⟨r, 0, none⟩) :: vs)) (x : UInt8) (q : List UInt8) (S : ByteArray) (hS : ofB (x :: q) = S) (n0 : Nat) (hn0 : (x :: q).length = n0) (hn : n0 ≤ 1000) (hx : ¬ 32 ≤ x.toNat) (nb : Bool) (hnb : decide (16 ≤ (x.toNat : Int)) = nb) (R : Option (Fld × Nat)) (hR : litD (statL ++ l) 4 (x :: q) = R) (g : Fld) (m : Nat) (okb : Bool) (hlv : litV R = .tuple #[.agg #[.string g.n, .string g.v, .bool g.nv], .int .i64 (m : Int), .bool okb]) :
    Calls Tryd.prog 64 #[.pointer (some ⟨p, 0, none⟩), .string S] w fun e w' => e = .returned (.tuple #[.agg #[.string g.n, .string g.v, .bool nb], .int .i64 (m : Int), .bool okb]) ∧ Below w.heap.size w w' := by
  obtain ⟨hk, hs0⟩ := str_0 hS
  have y0 : w.cell? ⟨p, 0, none⟩ = some (.pointer (some ⟨r, 0, none⟩)) := b.cell 0
  have ba : Below w.heap.size w (w.alloc zF) := (Below.refl _ _).alloc (Nat.le_refl _) _
  have fa : Fr (fun _ => False) w (w.alloc zF) := (Fr.refl _ _).alloc _
  have T2 : Hid (RX (w.alloc zF) r G h l) := RX.fr t fa (fun _ _ h => h)
  have P2 : Hid (Blk (w.alloc zF) p 56 (.pointer (some ⟨r, 0, none⟩) :: vs)) := b.alloc _
  have X2 : Hid (Blk (w.alloc zF) w.heap.size 38 zeroF) := Blk.new w 38 zeroF
  have B2 := Lib.hid ba
  have hpl : p < w.heap.size := Blk.lt b
  have HS := Lib.hid hS
  have Hn0 := Lib.hid hn0
  have HGlt : Hid (∀ i, G i → i < w.heap.size) := t.lt
  have HR := Lib.hid hR
  have HV := Lib.hid hlv
  have kx : ¬ (128 : Int) ≤ (x.toNat : Int) := by omega
  have kx3 : ¬ (64 : Int) ≤ (x.toNat : Int) := by omega
  have kx4 : ¬ (32 : Int) ≤ (x.toNat : Int) := by omega
  clear t b ba fa hS hn0 hR hlv
  go_enter Tryd.func64, Tryd.ntmps64
  go_wp2_with (first
    | (go_at_call 80; (with_reducible refine (r5Dlit_c T2.out P2.out (x :: q) S HS.out n0 Hn0.out hn 4 (by omega) (by omega) 4 rfl R HR.out).mono ?_); rintro e w3 ⟨rfl, hb⟩; rw [HV.out]
       have X3 := X2.out.below hb (Blk.lt X2.out)
       have T3 := Lib.hid (T2.out.fr (Fr.of_below (S := fun _ => False) hb (fun i h1 h2 => by omega)) (fun i _ h => h))
       have b3 := P2.out.below hb (Blk.lt P2.out)
       have y3 := b3.cell 0
       have B3 := Lib.hid (B2.out.trans (hb.mono B2.out.size))
       have x0 := X3.cell 0
       have x1 := X3.cell 1
       have x2 := X3.cell 2
       have xf := X3.frozen
       simp only [List.getElem?_cons_zero, List.getElem?_cons_succ] at x0 x1 x2 y3
       have xl := Blk.lt X3
       have X3 := Lib.hid X3
       have P3 := Lib.hid b3
       clear hb b3))
  have X9 := (blk_set3 X3.out (.string g.n) (.string g.v) (.bool nb)).alloc (.cells #[.string g.n, .string g.v, .bool nb] 38)
  have B9 := (below_set3 B3.out (Nat.le_refl _) (.string g.n) (.string g.v) (.bool nb)).alloc (below_set3 B3.out (Nat.le_refl _) (.string g.n) (.string g.v) (.bool nb)).size (.cells #[.string g.n, .string g.v, .bool nb] 38)
  have z0 := X9.cell 0
  have z1 := X9.cell 1
  have z2 := X9.cell 2
  simp only [List.getElem?_cons_zero, List.getElem?_cons_succ] at z0 z1 z2
  refine bodyPost_ret (v := .tuple #[.agg #[.string g.n, .string g.v, .bool nb], .int .i64 (m : Int), .bool okb]) (by simp [results, Tryd.results64, go_sem, z0, z1, z2]) rfl ?_
  exact ⟨rfl, B9⟩
theorem RX.stb {w w' : World} {r h : Nat} {G : Nat → Prop} {l : List Fld} (t : RX w r G h l) (hb : Below w.heap.size w w') : St G w w' [RXo r h l] :=
  RX.st (t.fr (Fr.of_below (S := fun _ => False) hb (fun i h1 h2 => by omega)) (fun i _ h => h)) (fun i hi => .inl hi) (Fr.of_below hb (fun i h1 h2 => by omega))
/-- a field, read -/
theorem r5oneD_c (t : RX w r G h l) (b : Blk w p 56 (.pointer (some ⟨r, 0, none⟩) :: vs)) (x : UInt8) (q : List UInt8) (S : ByteArray) (hS : ofB (x :: q) = S) (n0 : Nat) (hn0 : (x :: q).length = n0) (hn : n0 ≤ 1000) (hOk : Ok statL h l) (R : Option (Fld × Nat × List Fld)) (hR : oneD statL h l (x :: q) = R) :
    Calls Tryd.prog 64 #[.pointer (some ⟨p, 0, none⟩), .string S] w (OneP w r h G R) := by
  subst hR
  rw [oneD]
  by_cases h128 : 128 ≤ x.toNat
  · rw [if_pos h128]
    have no : ∀ (R0 : Go.Hin.G) (c : Int), getN 7 (x :: q) = R0 → getV R0 = .tuple #[.int .i64 ((0 : Nat) : Int), .int .i64 ((0 : Nat) : Int), .int .i64 c] → (c == 0) = false → Calls Tryd.prog 64 #[.pointer (some ⟨p, 0, none⟩), .string S] w (OneP w r h G none) := fun R0 c h1 h2 h3 => by
      refine (r5oneD_at t b x q S hS n0 hn0 hn h128 R0 h1 0 0 (by omega) c h2 none rfl ⟨⟨#[]⟩, ⟨#[]⟩, false⟩ false rfl false h3).mono ?_
      rintro e w' ⟨rfl, hb⟩
      exact ⟨_, _, _, _, rfl, hb⟩
    cases hG : getN 7 (x :: q) with
    | arg => exact no _ 1 hG rfl rfl
    | more => exact no _ 2 hG rfl rfl
    | form => exact no _ 3 hG rfl rfl
    | ok i n =>
      obtain ⟨_, _, _, _, _, _, hi6⟩ := getN_least hG
      dsimp only
      cases hM : nth (statL ++ l) i with
      | none =>
        refine (r5oneD_at t b x q S hS n0 hn0 hn h128 _ hG i n hi6 0 rfl none hM ⟨⟨#[]⟩, ⟨#[]⟩, false⟩ false rfl true rfl).mono ?_
        rintro e w' ⟨rfl, hb⟩
        exact ⟨_, _, _, _, rfl, hb⟩
      | some g =>
        refine (r5oneD_at t b x q S hS n0 hn0 hn h128 _ hG i n hi6 0 rfl (some g) hM g true rfl true rfl).mono ?_
        rintro e w' ⟨rfl, hb⟩
        exact ⟨rfl, t.stb hb⟩
  · rw [if_neg h128]
    by_cases h64 : 64 ≤ x.toNat
    · rw [if_pos h64]
      cases hL : litD (statL ++ l) 6 (x :: q) with
      | none =>
        refine (r5oneD_addno t b x q S hS n0 hn0 hn h128 h64 none hL ⟨⟨#[]⟩, ⟨#[]⟩, false⟩ 0 rfl).mono ?_
        rintro e w' ⟨rfl, hb⟩
        exact ⟨_, _, _, _, rfl, hb⟩
      | some z =>
        obtain ⟨g, m⟩ := z
        have hz := hOk.sizes statL_sz
        obtain ⟨_, _, l1, l2, _⟩ := litD_len (B := 65536) (fun g hg => by have := hz g hg; unfold sz at this; omega) hL
        rw [hn0] at l1 l2
        have hf : fok g := ⟨by omega, by omega⟩
        refine (r5oneD_addok t b x q S hS n0 hn0 hn h128 h64 (some (g, m)) hL g m rfl hf).mono ?_
        rintro e w' ⟨G', rfl, t', hG', hf'⟩
        exact ⟨rfl, RX.st t' hG' hf'⟩
    · rw [if_neg h64]
      by_cases h32 : 32 ≤ x.toNat
      · rw [if_pos h32]
        refine (r5oneD_upd t b x q S hS n0 hn0 hn h64 h32).mono ?_
        rintro e w' ⟨rfl, hb⟩
        exact ⟨_, _, _, 0, rfl, hb⟩
      · rw [if_neg h32]
        cases hL : litD (statL ++ l) 4 (x :: q) with
        | none =>
          refine (r5oneD_lit t b x q S hS n0 hn0 hn h32 _ rfl none hL ⟨⟨#[]⟩, ⟨#[]⟩, false⟩ 0 false rfl).mono ?_
          rintro e w' ⟨rfl, hb⟩
          exact ⟨_, _, _, _, rfl, hb⟩
        | some z =>
          obtain ⟨g, m⟩ := z
          refine (r5oneD_lit t b x q S hS n0 hn0 hn h32 _ rfl (some (g, m)) hL g m true rfl).mono ?_
          rintro e w' ⟨rfl, hb⟩
          have e16 : decide (16 ≤ (x.toNat : Int)) = decide (16 ≤ x.toNat) := by
            by_cases h : 16 ≤ x.toNat
            · rw [decide_eq_true h, decide_eq_true (by omega)]
            · rw [decide_eq_false h, decide_eq_false (by omega)]
          rw [e16]
          exact ⟨rfl, t.stb hb⟩
end
end Go.Proofs.YtinieljgcenemaaDoor
