/- The document's decoder: what its GetInt, GetText answer; a field whose value is told. -/
import Derived.Test.YtinieljgcenemaaDoorR5B
namespace Go.Proofs.YtinieljgcenemaaDoor
open Go.RowKit Go.Own Go.Tbl Go.Huf Go.Hin
set_option linter.unusedVariables false
set_option maxRecDepth 100000
attribute [local go_sem ↓] Go.wp_at_zero Go.wp_at_succ

theorem r3GetInt_p (xs : List UInt8) (S : ByteArray) (hS : ofB xs = S) (n0 : Nat) (hn0 : xs.length = n0) (hn : n0 ≤ 1000) (p : Nat) (h1 : 1 ≤ p) (h8 : p ≤ 8) (z : Int) (hz : z = (p : Int)) (R0 : Go.Hin.G) (hR : getN p xs = R0) (v : Value) (hv : getV R0 = v) (w : World) :
    Calls Tryd.prog 63 #[.string S, .int .i64 z] w fun e w' => e = .returned v ∧ w = w' := by
  subst hv hS hz
  refine rGetInt_any xs n0 hn0 (by omega) (p : Int) R0 ?_ w
  rw [getI, if_pos ⟨by omega, by omega⟩]
  exact hR
theorem r3GetText_p (xs : List UInt8) (S : ByteArray) (hS : ofB xs = S) (n0 : Nat) (hn0 : xs.length = n0) (hn : n0 ≤ 1000) (R0 : T) (hR : getT big xs = R0) (v : Value) (hv : textV R0 = v) (w : World) :
    Calls Tryd.prog 97 #[.string S] w fun e w' => e = .returned v ∧ Below w.heap.size w w' := by
  subst hv
  refine rGetText_any xs n0 hn0 hn R0 ?_ S hS w
  rw [← hR]
  refine getT_most _ _ _ ?_ ?_
  · omega
  · rw [show big = 9223372036854775807 from rfl]; omega
theorem xrAt_n {w : World} {r h : Nat} {G : Nat → Prop} {l : List Fld} (t : RX w r G h l) (i : Nat) (hi : i ≤ 2147483647) (R : Option Fld) (hR : nth (statL ++ l) i = R) : Calls Tryd.prog 79 #[.pointer (some ⟨r, 0, none⟩), .int .i64 (i : Int)] w fun e w' => e = .returned (atV R) ∧ Below w.heap.size w w' := by
  subst hR
  rw [← atL_nth]
  exact xrAt t (i : Int) (by omega)
/-- a field that was read -/
def litV : Option (Fld × Nat) → Value
  | some (f, m) => .tuple #[.agg #[.string f.n, .string f.v, .bool f.nv], .int .i64 (m : Int), .bool true]
  | none => .tuple #[.agg #[.string ⟨#[]⟩, .string ⟨#[]⟩, .bool false], .int .i64 0, .bool false]
theorem ofB_extract (xs : List UInt8) (S : ByteArray) (hS : ofB xs = S) (n0 : Nat) (hn0 : xs.length = n0) (n : Nat) : S.extract n n0 = ofB (xs.drop n) := by
  have h : (str xs).extract n n0 = str ((xs.drop n).take (n0 - n)) := str_extract xs n n0
  rw [List.take_of_length_le (by rw [List.length_drop]; omega)] at h
  rw [← hS]
  exact h
abbrev zeroF : List Value := [.string ⟨#[]⟩, .string ⟨#[]⟩, .bool false]
section
variable {w : World} {p r h : Nat} {l : List Fld} {G : Nat → Prop} {vs : List Value}
theorem blk_sb {w w' : World} {b g i : Nat} {t : TypeId} {cs : List Value} {u : Value} (X : Blk w b t cs) (hb : Below (w.setCell ⟨g, i, none⟩ u).heap.size (w.setCell ⟨g, i, none⟩ u) w') (hne : b ≠ g) : Blk w' b t cs := by
  have h := X.fr ((Fr.refl (fun j => j = g) w).setCell (p := ⟨g, i, none⟩) (.inl rfl) u) hne
  exact h.below hb (Blk.lt h)
theorem blk_ss {w w' : World} {b i : Nat} {t : TypeId} {cs : List Value} {u : Value} (X : Blk w b t cs) (hb : Below (w.setCell ⟨b, i, none⟩ u).heap.size (w.setCell ⟨b, i, none⟩ u) w') : Blk w' b t (cs.set i u) := (X.set_ i u).below hb (Blk.lt (X.set_ i u))
theorem below_sb {w0 w w' : World} {g i : Nat} {u : Value} (B : Below w0.heap.size w0 w) (hg : w0.heap.size ≤ g) (hb : Below (w.setCell ⟨g, i, none⟩ u).heap.size (w.setCell ⟨g, i, none⟩ u) w') : Below w0.heap.size w0 w' := by
  have h := B.setCell (p := ⟨g, i, none⟩) hg u
  exact h.trans (hb.mono h.size)
set_option maxHeartbeats 4000000 in
theorem r5Dlit_nonum (xs : List UInt8) (S : ByteArray) (hS : ofB xs = S) (n0 : Nat) (hn0 : xs.length = n0) (hn : n0 ≤ 1000) (pf : Nat) (h1 : 1 ≤ pf) (h8 : pf ≤ 8) (z : Int) (hz : z = (pf : Int)) (R0 : Go.Hin.G) (hR0 : getN pf xs = R0) (c : Int) (hc : (c == 0) = false) (hv : getV R0 = .tuple #[.int .i64 0, .int .i64 0, .int .i64 c]) (P : Value) :
    Calls Tryd.prog 80 #[P, .string S, .int .i64 z] w fun e w' => e = .returned (litV none) ∧ Below w.heap.size w w' := by
  have HS := Lib.hid hS
  have Hn0 := Lib.hid hn0
  have Hz := Lib.hid hz
  have HR := Lib.hid hR0
  have HV := Lib.hid hv
  have X1 : Hid (Blk (w.alloc (.cells #[.string ⟨#[]⟩, .string ⟨#[]⟩, .bool false] 38)) w.heap.size 38 zeroF) := Blk.new w 38 _
  have B1 : Hid (Below w.heap.size w (w.alloc (.cells #[.string ⟨#[]⟩, .string ⟨#[]⟩, .bool false] 38))) := (Below.refl _ _).alloc (Nat.le_refl _) _
  clear hS hn0 hz hR0 hv
  go_enter Tryd.func80, Tryd.ntmps80
  go_wp2_with (first
    | (go_at_call 63; (with_reducible refine (r3GetInt_p xs S HS.out n0 Hn0.out hn pf h1 h8 z Hz.out R0 HR.out _ HV.out _).mono ?_); rintro e w2 ⟨rfl, rfl⟩))
  have z0 := X1.out.cell 0
  have z1 := X1.out.cell 1
  have z2 := X1.out.cell 2
  simp only [List.getElem?_cons_zero, List.getElem?_cons_succ] at z0 z1 z2
  refine bodyPost_ret (v := litV none) (by simp [results, Tryd.results80, go_sem, z0, z1, z2, litV]) rfl ?_
  exact ⟨rfl, B1.out⟩
theorem blk_sab {w w' : World} {b g i : Nat} {t : TypeId} {cs : List Value} {u : Value} {o : Obj} (X : Blk w b t cs) (hb : Below ((w.setCell ⟨g, i, none⟩ u).alloc o).heap.size ((w.setCell ⟨g, i, none⟩ u).alloc o) w') (hne : b ≠ g) : Blk w' b t cs := by
  have h := (X.fr ((Fr.refl (fun j => j = g) w).setCell (p := ⟨g, i, none⟩) (.inl rfl) u) hne).alloc o
  exact h.below hb (Blk.lt h)
theorem blk_ssab {w w' : World} {b i : Nat} {t : TypeId} {cs : List Value} {u : Value} {o : Obj} (X : Blk w b t cs) (hb : Below ((w.setCell ⟨b, i, none⟩ u).alloc o).heap.size ((w.setCell ⟨b, i, none⟩ u).alloc o) w') : Blk w' b t (cs.set i u) := ((X.set_ i u).alloc o).below hb (Blk.lt ((X.set_ i u).alloc o))
theorem below_sab {w0 w w' : World} {g i : Nat} {u : Value} {o : Obj} (B : Below w0.heap.size w0 w) (hg : w0.heap.size ≤ g) (hb : Below ((w.setCell ⟨g, i, none⟩ u).alloc o).heap.size ((w.setCell ⟨g, i, none⟩ u).alloc o) w') : Below w0.heap.size w0 w' := by
  have h1 := B.setCell (p := ⟨g, i, none⟩) hg u
  have h := h1.alloc h1.size o
  exact h.trans (hb.mono h.size)
abbrev set3 (w : World) (b : Nat) (x y z : Value) : World := ((w.setCell ⟨b, 0, none⟩ x).setCell ⟨b, 1, none⟩ y).setCell ⟨b, 2, none⟩ z
theorem blk_set3 {w : World} {b : Nat} {t : TypeId} {x0 y0 z0 : Value} (X : Blk w b t [x0, y0, z0]) (x y z : Value) : Blk (set3 w b x y z) b t [x, y, z] := ((X.set_ 0 x).set_ 1 y).set_ 2 z
theorem below_set3 {w0 w : World} {n b : Nat} (B : Below n w0 w) (hb : n ≤ b) (x y z : Value) : Below n w0 (set3 w b x y z) := ((B.setCell (p := ⟨b, 0, none⟩) hb x).setCell (p := ⟨b, 1, none⟩) hb y).setCell (p := ⟨b, 2, none⟩) hb z
set_option maxHeartbeats 4000000 in
theorem r5Dlit_atnone (t : RX w r G h l) (b : Blk w p 56 (.pointer (some ⟨r, 0, none⟩) :: vs)) (xs : List UInt8) (S : ByteArray) (hS : ofB xs = S) (n0 : Nat) (hn0 : xs.length = n0) (hn : n0 ≤ 1000) (pf : Nat) (h1 : 1 ≤ pf) (h8 : pf ≤ 8) (z : Int) (hz : z = (pf : Int)) (i n : Nat) (hR0 : getN pf xs = .ok i n) (h0 : 0 < i) (hM : nth (statL ++ l) i = none) :
    Calls Tryd.prog 80 #[.pointer (some ⟨p, 0, none⟩), .string S, .int .i64 z] w fun e w' => e = .returned (litV none) ∧ Below w.heap.size w w' := by
  obtain ⟨_, _, _, n1, n2, _, hi6⟩ := getN_least hR0
  rw [hn0] at n2
  have hSs : S.size = n0 := by rw [← hS, ofB_size, hn0]
  have y0 : w.cell? ⟨p, 0, none⟩ = some (.pointer (some ⟨r, 0, none⟩)) := b.cell 0
  have ba : Below w.heap.size w ((w.alloc (.cells #[.string ⟨#[]⟩, .string ⟨#[]⟩, .bool false] 38)).alloc (.cells #[.string ⟨#[]⟩, .string ⟨#[]⟩, .bool false] 38)) := ((Below.refl _ _).alloc (Nat.le_refl _) _).alloc (by simp) _
  have fa : Fr (fun _ => False) w ((w.alloc (.cells #[.string ⟨#[]⟩, .string ⟨#[]⟩, .bool false] 38)).alloc (.cells #[.string ⟨#[]⟩, .string ⟨#[]⟩, .bool false] 38)) := ((Fr.refl _ _).alloc _).alloc _
  have T2 : Hid (RX ((w.alloc (.cells #[.string ⟨#[]⟩, .string ⟨#[]⟩, .bool false] 38)).alloc (.cells #[.string ⟨#[]⟩, .string ⟨#[]⟩, .bool false] 38)) r G h l) := RX.fr t fa (fun _ _ h => h)
  have X2 : Hid (Blk ((w.alloc (.cells #[.string ⟨#[]⟩, .string ⟨#[]⟩, .bool false] 38)).alloc (.cells #[.string ⟨#[]⟩, .string ⟨#[]⟩, .bool false] 38)) w.heap.size 38 zeroF) := (Blk.new w 38 zeroF).alloc _
  have Y2 : Hid (Blk ((w.alloc (.cells #[.string ⟨#[]⟩, .string ⟨#[]⟩, .bool false] 38)).alloc (.cells #[.string ⟨#[]⟩, .string ⟨#[]⟩, .bool false] 38)) (w.heap.size + 1) 38 zeroF) := by
    have := Blk.new (w.alloc (.cells #[.string ⟨#[]⟩, .string ⟨#[]⟩, .bool false] 38)) 38 zeroF
    have e : (w.alloc (.cells #[.string ⟨#[]⟩, .string ⟨#[]⟩, .bool false] 38)).heap.size = w.heap.size + 1 := by simp
    rw [e] at this
    exact this
  have B2 := Lib.hid ba
  have hpl : p < w.heap.size := Blk.lt b
  have HS := Lib.hid hS
  have Hn0 := Lib.hid hn0
  have Hz := Lib.hid hz
  have HR := Lib.hid hR0
  have k0 : (0 : Int) < (i : Int) := by omega
  have HM := Lib.hid hM
  clear t b ba fa hS hn0 hz hR0 hM
  go_enter Tryd.func80, Tryd.ntmps80
  go_wp2_with (first
    | (go_at_call 63; (with_reducible refine (r3GetInt_p xs S HS.out n0 Hn0.out hn pf h1 h8 z Hz.out _ HR.out _ rfl _).mono ?_); rintro e wq ⟨rfl, rfl⟩; unfold getV)
    | (go_at_call 79; (with_reducible refine (xrAt_n T2.out i hi6 _ HM.out).mono ?_); rintro e w3 ⟨rfl, hb⟩; unfold atV
       have X3 := X2.out.below hb (Blk.lt X2.out)
       have Y3 := Y2.out.below hb (Blk.lt Y2.out)
       have B3 := Lib.hid (B2.out.trans (hb.mono B2.out.size))
       have x0 := X3.cell 0
       have x1 := X3.cell 1
       have x2 := X3.cell 2
       have xf := X3.frozen
       have y0' := Y3.cell 0
       have y1' := Y3.cell 1
       have y2' := Y3.cell 2
       have yf := Y3.frozen
       simp only [List.getElem?_cons_zero, List.getElem?_cons_succ] at x0 x1 x2 y0' y1' y2'
       have xl := Blk.lt X3
       have yl := Blk.lt Y3
       have X3 := Lib.hid X3
       have Y3 := Lib.hid Y3
       clear hb))
  have X9 := (blk_set3 X3.out (.string ⟨#[]⟩) (.string ⟨#[]⟩) (.bool false)).alloc (.cells #[.string ⟨#[]⟩, .string ⟨#[]⟩, .bool false] 38)
  have B9 := (below_set3 B3.out (Nat.le_refl _) (.string ⟨#[]⟩) (.string ⟨#[]⟩) (.bool false)).alloc (below_set3 B3.out (Nat.le_refl _) (.string ⟨#[]⟩) (.string ⟨#[]⟩) (.bool false)).size (.cells #[.string ⟨#[]⟩, .string ⟨#[]⟩, .bool false] 38)
  have z0 := X9.cell 0
  have z1 := X9.cell 1
  have z2 := X9.cell 2
  simp only [List.getElem?_cons_zero, List.getElem?_cons_succ] at z0 z1 z2
  refine bodyPost_ret (v := litV none) (by simp [results, Tryd.results80, go_sem, z0, z1, z2, litV]) rfl ?_
  exact ⟨rfl, B9⟩
set_option maxHeartbeats 4000000 in
theorem r5Dlit_aterr (t : RX w r G h l) (b : Blk w p 56 (.pointer (some ⟨r, 0, none⟩) :: vs)) (xs : List UInt8) (S : ByteArray) (hS : ofB xs = S) (n0 : Nat) (hn0 : xs.length = n0) (hn : n0 ≤ 1000) (pf : Nat) (h1 : 1 ≤ pf) (h8 : pf ≤ 8) (z : Int) (hz : z = (pf : Int)) (i n : Nat) (hR0 : getN pf xs = .ok i n) (h0 : 0 < i) (g : Fld) (hM : nth (statL ++ l) i = some g) (c : Nat) (hT : getT big (xs.drop n) = .err c) :
    Calls Tryd.prog 80 #[.pointer (some ⟨p, 0, none⟩), .string S, .int .i64 z] w fun e w' => e = .returned (litV none) ∧ Below w.heap.size w w' := by
  obtain ⟨_, _, _, n1, n2, _, hi6⟩ := getN_least hR0
  rw [hn0] at n2
  have hSs : S.size = n0 := by rw [← hS, ofB_size, hn0]
  have y0 : w.cell? ⟨p, 0, none⟩ = some (.pointer (some ⟨r, 0, none⟩)) := b.cell 0
  have ba : Below w.heap.size w ((w.alloc (.cells #[.string ⟨#[]⟩, .string ⟨#[]⟩, .bool false] 38)).alloc (.cells #[.string ⟨#[]⟩, .string ⟨#[]⟩, .bool false] 38)) := ((Below.refl _ _).alloc (Nat.le_refl _) _).alloc (by simp) _
  have fa : Fr (fun _ => False) w ((w.alloc (.cells #[.string ⟨#[]⟩, .string ⟨#[]⟩, .bool false] 38)).alloc (.cells #[.string ⟨#[]⟩, .string ⟨#[]⟩, .bool false] 38)) := ((Fr.refl _ _).alloc _).alloc _
  have T2 : Hid (RX ((w.alloc (.cells #[.string ⟨#[]⟩, .string ⟨#[]⟩, .bool false] 38)).alloc (.cells #[.string ⟨#[]⟩, .string ⟨#[]⟩, .bool false] 38)) r G h l) := RX.fr t fa (fun _ _ h => h)
  have X2 : Hid (Blk ((w.alloc (.cells #[.string ⟨#[]⟩, .string ⟨#[]⟩, .bool false] 38)).alloc (.cells #[.string ⟨#[]⟩, .string ⟨#[]⟩, .bool false] 38)) w.heap.size 38 zeroF) := (Blk.new w 38 zeroF).alloc _
  have Y2 : Hid (Blk ((w.alloc (.cells #[.string ⟨#[]⟩, .string ⟨#[]⟩, .bool false] 38)).alloc (.cells #[.string ⟨#[]⟩, .string ⟨#[]⟩, .bool false] 38)) (w.heap.size + 1) 38 zeroF) := by
    have := Blk.new (w.alloc (.cells #[.string ⟨#[]⟩, .string ⟨#[]⟩, .bool false] 38)) 38 zeroF
    have e : (w.alloc (.cells #[.string ⟨#[]⟩, .string ⟨#[]⟩, .bool false] 38)).heap.size = w.heap.size + 1 := by simp
    rw [e] at this
    exact this
  have B2 := Lib.hid ba
  have hpl : p < w.heap.size := Blk.lt b
  have HS := Lib.hid hS
  have Hn0 := Lib.hid hn0
  have Hz := Lib.hid hz
  have HR := Lib.hid hR0
  have k0 : (0 : Int) < (i : Int) := by omega
  have HM := Lib.hid hM
  obtain ⟨Y, hY⟩ : ∃ Y, ofB (xs.drop n) = Y := ⟨_, rfl⟩
  have hext : S.extract n n0 = Y := by rw [← hY]; exact ofB_extract xs S hS n0 hn0 n
  have hyl : (xs.drop n).length = n0 - n := by rw [List.length_drop, hn0]
  have HY := Lib.hid hY
  have Hyl := Lib.hid hyl
  have e3 : (n : Int) ≤ (n0 : Int) := by omega
  clear hY hyl
  have hcb : ((c : Int) == 0) = false := by have := getT_err hT; simp; omega
  have HT := Lib.hid hT
  have HV : Hid (textV (.err c) = .tuple #[.string ⟨#[]⟩, .int .i64 0, .int .i64 (c : Int)]) := rfl
  clear t b ba fa hS hn0 hz hR0 hM hT
  go_enter Tryd.func80, Tryd.ntmps80
  go_wp2_with (first
    | (go_at_call 63; (with_reducible refine (r3GetInt_p xs S HS.out n0 Hn0.out hn pf h1 h8 z Hz.out _ HR.out _ rfl _).mono ?_); rintro e wq ⟨rfl, rfl⟩; unfold getV)
    | (go_at_call 79; (with_reducible refine (xrAt_n T2.out i hi6 _ HM.out).mono ?_); rintro e w3 ⟨rfl, hb⟩; unfold atV
       have X3 := X2.out.below hb (Blk.lt X2.out)
       have Y3 := Y2.out.below hb (Blk.lt Y2.out)
       have B3 := Lib.hid (B2.out.trans (hb.mono B2.out.size))
       have x0 := X3.cell 0
       have x1 := X3.cell 1
       have x2 := X3.cell 2
       have xf := X3.frozen
       have y0' := Y3.cell 0
       have y1' := Y3.cell 1
       have y2' := Y3.cell 2
       have yf := Y3.frozen
       simp only [List.getElem?_cons_zero, List.getElem?_cons_succ] at x0 x1 x2 y0' y1' y2'
       have xl := Blk.lt X3
       have yl := Blk.lt Y3
       have X3 := Lib.hid X3
       have Y3 := Lib.hid Y3
       clear hb)
    | (go_at_call 97; (with_reducible refine (r3GetText_p _ Y HY.out _ Hyl.out (by omega) _ HT.out _ HV.out _).mono ?_); rintro e w5 ⟨rfl, hb⟩
       have X5 := blk_sab X3.out hb (by omega)
       have Y5 := blk_ssab Y3.out hb
       have B5 := Lib.hid (below_sab B3.out (by omega) hb)
       have x0 := X5.cell 0
       have x1 := X5.cell 1
       have x2 := X5.cell 2
       have xf := X5.frozen
       have y0' := Y5.cell 0
       have y1' := Y5.cell 1
       have y2' := Y5.cell 2
       have yf := Y5.frozen
       simp only [List.getElem?_cons_zero, List.getElem?_cons_succ, List.set_cons_zero] at x0 x1 x2 y0' y1' y2'
       have xl := Blk.lt X5
       have yl := Blk.lt Y5
       have X5 := Lib.hid X5
       have Y5 := Lib.hid Y5
       clear hb))
  have X9 := (blk_set3 X5.out (.string ⟨#[]⟩) (.string ⟨#[]⟩) (.bool false))
  have B9 := below_set3 B5.out (Nat.le_refl _) (.string ⟨#[]⟩) (.string ⟨#[]⟩) (.bool false)
  have z0 := X9.cell 0
  have z1 := X9.cell 1
  have z2 := X9.cell 2
  simp only [List.getElem?_cons_zero, List.getElem?_cons_succ] at z0 z1 z2
  refine bodyPost_ret (v := litV none) (by simp [results, Tryd.results80, go_sem, z0, z1, z2, litV]) rfl ?_
  exact ⟨rfl, B9⟩
set_option maxHeartbeats 4000000 in
theorem r5Dlit_atok (t : RX w r G h l) (b : Blk w p 56 (.pointer (some ⟨r, 0, none⟩) :: vs)) (xs : List UInt8) (S : ByteArray) (hS : ofB xs = S) (n0 : Nat) (hn0 : xs.length = n0) (hn : n0 ≤ 1000) (pf : Nat) (h1 : 1 ≤ pf) (h8 : pf ≤ 8) (z : Int) (hz : z = (pf : Int)) (i n : Nat) (hR0 : getN pf xs = .ok i n) (h0 : 0 < i) (g : Fld) (hM : nth (statL ++ l) i = some g) (t0 : List UInt8) (m : Nat) (hT : getT big (xs.drop n) = .ok t0 m) :
    Calls Tryd.prog 80 #[.pointer (some ⟨p, 0, none⟩), .string S, .int .i64 z] w fun e w' => e = .returned (litV (some (⟨g.n, ofB t0, false⟩, n + m))) ∧ Below w.heap.size w w' := by
  obtain ⟨_, _, _, n1, n2, _, hi6⟩ := getN_least hR0
  rw [hn0] at n2
  have hSs : S.size = n0 := by rw [← hS, ofB_size, hn0]
  have y0 : w.cell? ⟨p, 0, none⟩ = some (.pointer (some ⟨r, 0, none⟩)) := b.cell 0
  have ba : Below w.heap.size w ((w.alloc (.cells #[.string ⟨#[]⟩, .string ⟨#[]⟩, .bool false] 38)).alloc (.cells #[.string ⟨#[]⟩, .string ⟨#[]⟩, .bool false] 38)) := ((Below.refl _ _).alloc (Nat.le_refl _) _).alloc (by simp) _
  have fa : Fr (fun _ => False) w ((w.alloc (.cells #[.string ⟨#[]⟩, .string ⟨#[]⟩, .bool false] 38)).alloc (.cells #[.string ⟨#[]⟩, .string ⟨#[]⟩, .bool false] 38)) := ((Fr.refl _ _).alloc _).alloc _
  have T2 : Hid (RX ((w.alloc (.cells #[.string ⟨#[]⟩, .string ⟨#[]⟩, .bool false] 38)).alloc (.cells #[.string ⟨#[]⟩, .string ⟨#[]⟩, .bool false] 38)) r G h l) := RX.fr t fa (fun _ _ h => h)
  have X2 : Hid (Blk ((w.alloc (.cells #[.string ⟨#[]⟩, .string ⟨#[]⟩, .bool false] 38)).alloc (.cells #[.string ⟨#[]⟩, .string ⟨#[]⟩, .bool false] 38)) w.heap.size 38 zeroF) := (Blk.new w 38 zeroF).alloc _
  have Y2 : Hid (Blk ((w.alloc (.cells #[.string ⟨#[]⟩, .string ⟨#[]⟩, .bool false] 38)).alloc (.cells #[.string ⟨#[]⟩, .string ⟨#[]⟩, .bool false] 38)) (w.heap.size + 1) 38 zeroF) := by
    have := Blk.new (w.alloc (.cells #[.string ⟨#[]⟩, .string ⟨#[]⟩, .bool false] 38)) 38 zeroF
    have e : (w.alloc (.cells #[.string ⟨#[]⟩, .string ⟨#[]⟩, .bool false] 38)).heap.size = w.heap.size + 1 := by simp
    rw [e] at this
    exact this
  have B2 := Lib.hid ba
  have hpl : p < w.heap.size := Blk.lt b
  have HS := Lib.hid hS
  have Hn0 := Lib.hid hn0
  have Hz := Lib.hid hz
  have HR := Lib.hid hR0
  have k0 : (0 : Int) < (i : Int) := by omega
  have HM := Lib.hid hM
  obtain ⟨Y, hY⟩ : ∃ Y, ofB (xs.drop n) = Y := ⟨_, rfl⟩
  have hext : S.extract n n0 = Y := by rw [← hY]; exact ofB_extract xs S hS n0 hn0 n
  have hyl : (xs.drop n).length = n0 - n := by rw [List.length_drop, hn0]
  have hyl' := hyl
  have HY := Lib.hid hY
  have Hyl := Lib.hid hyl
  have e3 : (n : Int) ≤ (n0 : Int) := by omega
  clear hY hyl
  obtain ⟨U, hU⟩ : ∃ U, ofB t0 = U := ⟨_, rfl⟩
  have hm0 := (getT_len hT).2.1
  rw [hyl'] at hm0
  obtain ⟨nm, hnm⟩ : ∃ nm, n + m = nm := ⟨_, rfl⟩
  have e1 : (n : Int) + (m : Int) = (nm : Int) := by omega
  have HT := Lib.hid hT
  have HV : Hid (textV (.ok t0 m) = .tuple #[.string U, .int .i64 (m : Int), .int .i64 0]) := by rw [← hU]; rfl
  clear t b ba fa hS hn0 hz hR0 hM hT
  rw [hU, hnm]
  go_enter Tryd.func80, Tryd.ntmps80
  go_wp2_with (first
    | (go_at_call 63; (with_reducible refine (r3GetInt_p xs S HS.out n0 Hn0.out hn pf h1 h8 z Hz.out _ HR.out _ rfl _).mono ?_); rintro e wq ⟨rfl, rfl⟩; unfold getV)
    | (go_at_call 79; (with_reducible refine (xrAt_n T2.out i hi6 _ HM.out).mono ?_); rintro e w3 ⟨rfl, hb⟩; unfold atV
       have X3 := X2.out.below hb (Blk.lt X2.out)
       have Y3 := Y2.out.below hb (Blk.lt Y2.out)
       have B3 := Lib.hid (B2.out.trans (hb.mono B2.out.size))
       have x0 := X3.cell 0
       have x1 := X3.cell 1
       have x2 := X3.cell 2
       have xf := X3.frozen
       have y0' := Y3.cell 0
       have y1' := Y3.cell 1
       have y2' := Y3.cell 2
       have yf := Y3.frozen
       simp only [List.getElem?_cons_zero, List.getElem?_cons_succ] at x0 x1 x2 y0' y1' y2'
       have xl := Blk.lt X3
       have yl := Blk.lt Y3
       have X3 := Lib.hid X3
       have Y3 := Lib.hid Y3
       clear hb)
    | (go_at_call 97; (with_reducible refine (r3GetText_p _ Y HY.out _ Hyl.out (by omega) _ HT.out _ HV.out _).mono ?_); rintro e w5 ⟨rfl, hb⟩
       have X5 := blk_sab X3.out hb (by omega)
       have Y5 := blk_ssab Y3.out hb
       have B5 := Lib.hid (below_sab B3.out (by omega) hb)
       have x0 := X5.cell 0
       have x1 := X5.cell 1
       have x2 := X5.cell 2
       have xf := X5.frozen
       have y0' := Y5.cell 0
       have y1' := Y5.cell 1
       have y2' := Y5.cell 2
       have yf := Y5.frozen
       simp only [List.getElem?_cons_zero, List.getElem?_cons_succ, List.set_cons_zero] at x0 x1 x2 y0' y1' y2'
       have xl := Blk.lt X5
       have yl := Blk.lt Y5
       have X5 := Lib.hid X5
       have Y5 := Lib.hid Y5
       clear hb))
  have X6 := X5.out.fr ((Fr.refl (fun j => j = w.heap.size + 1) w5).setCell (p := ⟨w.heap.size + 1, 1, none⟩) (.inl rfl) (.string U)) (by omega)
  have B6 := B5.out.setCell (p := ⟨w.heap.size + 1, 1, none⟩) (Nat.le_succ _) (.string U)
  have X9 := (blk_set3 X6 (.string g.n) (.string U) (.bool false))
  have B9 := below_set3 B6 (Nat.le_refl _) (.string g.n) (.string U) (.bool false)
  have z0 := X9.cell 0
  have z1 := X9.cell 1
  have z2 := X9.cell 2
  simp only [List.getElem?_cons_zero, List.getElem?_cons_succ] at z0 z1 z2
  refine bodyPost_ret (v := litV (some (⟨g.n, U, false⟩, nm))) (by simp [results, Tryd.results80, go_sem, z0, z1, z2, litV]) rfl ?_
  exact ⟨rfl, B9⟩
set_option maxHeartbeats 4000000 in
theorem r5Dlit_nmerr (t : RX w r G h l) (b : Blk w p 56 (.pointer (some ⟨r, 0, none⟩) :: vs)) (xs : List UInt8) (S : ByteArray) (hS : ofB xs = S) (n0 : Nat) (hn0 : xs.length = n0) (hn : n0 ≤ 1000) (pf : Nat) (h1 : 1 ≤ pf) (h8 : pf ≤ 8) (z : Int) (hz : z = (pf : Int)) (i n : Nat) (hR0 : getN pf xs = .ok i n) (h0 : i = 0) (c : Nat) (hT : getT big (xs.drop n) = .err c) :
    Calls Tryd.prog 80 #[.pointer (some ⟨p, 0, none⟩), .string S, .int .i64 z] w fun e w' => e = .returned (litV none) ∧ Below w.heap.size w w' := by
  obtain ⟨_, _, _, n1, n2, _, hi6⟩ := getN_least hR0
  rw [hn0] at n2
  have hSs : S.size = n0 := by rw [← hS, ofB_size, hn0]
  have y0 : w.cell? ⟨p, 0, none⟩ = some (.pointer (some ⟨r, 0, none⟩)) := b.cell 0
  have ba : Below w.heap.size w ((w.alloc (.cells #[.string ⟨#[]⟩, .string ⟨#[]⟩, .bool false] 38)).alloc (.cells #[.string ⟨#[]⟩, .string ⟨#[]⟩, .bool false] 38)) := ((Below.refl _ _).alloc (Nat.le_refl _) _).alloc (by simp) _
  have fa : Fr (fun _ => False) w ((w.alloc (.cells #[.string ⟨#[]⟩, .string ⟨#[]⟩, .bool false] 38)).alloc (.cells #[.string ⟨#[]⟩, .string ⟨#[]⟩, .bool false] 38)) := ((Fr.refl _ _).alloc _).alloc _
  have T2 : Hid (RX ((w.alloc (.cells #[.string ⟨#[]⟩, .string ⟨#[]⟩, .bool false] 38)).alloc (.cells #[.string ⟨#[]⟩, .string ⟨#[]⟩, .bool false] 38)) r G h l) := RX.fr t fa (fun _ _ h => h)
  have X2 : Hid (Blk ((w.alloc (.cells #[.string ⟨#[]⟩, .string ⟨#[]⟩, .bool false] 38)).alloc (.cells #[.string ⟨#[]⟩, .string ⟨#[]⟩, .bool false] 38)) w.heap.size 38 zeroF) := (Blk.new w 38 zeroF).alloc _
  have Y2 : Hid (Blk ((w.alloc (.cells #[.string ⟨#[]⟩, .string ⟨#[]⟩, .bool false] 38)).alloc (.cells #[.string ⟨#[]⟩, .string ⟨#[]⟩, .bool false] 38)) (w.heap.size + 1) 38 zeroF) := by
    have := Blk.new (w.alloc (.cells #[.string ⟨#[]⟩, .string ⟨#[]⟩, .bool false] 38)) 38 zeroF
    have e : (w.alloc (.cells #[.string ⟨#[]⟩, .string ⟨#[]⟩, .bool false] 38)).heap.size = w.heap.size + 1 := by simp
    rw [e] at this
    exact this
  have B2 := Lib.hid ba
  have hpl : p < w.heap.size := Blk.lt b
  have HS := Lib.hid hS
  have Hn0 := Lib.hid hn0
  have Hz := Lib.hid hz
  have HR := Lib.hid hR0
  have k0 : ¬ (0 : Int) < (i : Int) := by omega
  obtain ⟨Y, hY⟩ : ∃ Y, ofB (xs.drop n) = Y := ⟨_, rfl⟩
  have hext : S.extract n n0 = Y := by rw [← hY]; exact ofB_extract xs S hS n0 hn0 n
  have hyl : (xs.drop n).length = n0 - n := by rw [List.length_drop, hn0]
  have HY := Lib.hid hY
  have Hyl := Lib.hid hyl
  have e3 : (n : Int) ≤ (n0 : Int) := by omega
  clear hY hyl
  have hcb : ((c : Int) == 0) = false := by have := getT_err hT; simp; omega
  have HT := Lib.hid hT
  have HV : Hid (textV (.err c) = .tuple #[.string ⟨#[]⟩, .int .i64 0, .int .i64 (c : Int)]) := rfl
  clear t b ba fa hS hn0 hz hR0 hT
  go_enter Tryd.func80, Tryd.ntmps80
  go_wp2_with (first
    | (go_at_call 63; (with_reducible refine (r3GetInt_p xs S HS.out n0 Hn0.out hn pf h1 h8 z Hz.out _ HR.out _ rfl _).mono ?_); rintro e wq ⟨rfl, rfl⟩; unfold getV)
    | (go_at_call 97; (with_reducible refine (r3GetText_p _ Y HY.out _ Hyl.out (by omega) _ HT.out _ HV.out _).mono ?_); rintro e w5 ⟨rfl, hb⟩
       have X5 := X2.out.below hb (Blk.lt X2.out)
       have Y5 := Y2.out.below hb (Blk.lt Y2.out)
       have B5 := Lib.hid (B2.out.trans (hb.mono B2.out.size))
       have x0 := X5.cell 0
       have x1 := X5.cell 1
       have x2 := X5.cell 2
       have xf := X5.frozen
       have y0' := Y5.cell 0
       have y1' := Y5.cell 1
       have y2' := Y5.cell 2
       have yf := Y5.frozen
       simp only [List.getElem?_cons_zero, List.getElem?_cons_succ] at x0 x1 x2 y0' y1' y2'
       have xl := Blk.lt X5
       have yl := Blk.lt Y5
       have X5 := Lib.hid X5
       have Y5 := Lib.hid Y5
       clear hb))
  have X9 := (blk_set3 X5.out (.string ⟨#[]⟩) (.string ⟨#[]⟩) (.bool false))
  have B9 := below_set3 B5.out (Nat.le_refl _) (.string ⟨#[]⟩) (.string ⟨#[]⟩) (.bool false)
  have z0 := X9.cell 0
  have z1 := X9.cell 1
  have z2 := X9.cell 2
  simp only [List.getElem?_cons_zero, List.getElem?_cons_succ] at z0 z1 z2
  refine bodyPost_ret (v := litV none) (by simp [results, Tryd.results80, go_sem, z0, z1, z2, litV]) rfl ?_
  exact ⟨rfl, B9⟩
set_option maxHeartbeats 4000000 in
theorem r5Dlit_nmerr2 (t : RX w r G h l) (b : Blk w p 56 (.pointer (some ⟨r, 0, none⟩) :: vs)) (xs : List UInt8) (S : ByteArray) (hS : ofB xs = S) (n0 : Nat) (hn0 : xs.length = n0) (hn : n0 ≤ 1000) (pf : Nat) (h1 : 1 ≤ pf) (h8 : pf ≤ 8) (z : Int) (hz : z = (pf : Int)) (i n : Nat) (hR0 : getN pf xs = .ok i n) (h0 : i = 0) (s0 : List UInt8) (k : Nat) (hTk : getT big (xs.drop n) = .ok s0 k) (c : Nat) (hT : getT big (xs.drop (n + k)) = .err c) :
    Calls Tryd.prog 80 #[.pointer (some ⟨p, 0, none⟩), .string S, .int .i64 z] w fun e w' => e = .returned (litV none) ∧ Below w.heap.size w w' := by
  obtain ⟨_, _, _, n1, n2, _, hi6⟩ := getN_least hR0
  rw [hn0] at n2
  have hSs : S.size = n0 := by rw [← hS, ofB_size, hn0]
  have y0 : w.cell? ⟨p, 0, none⟩ = some (.pointer (some ⟨r, 0, none⟩)) := b.cell 0
  have ba : Below w.heap.size w ((w.alloc (.cells #[.string ⟨#[]⟩, .string ⟨#[]⟩, .bool false] 38)).alloc (.cells #[.string ⟨#[]⟩, .string ⟨#[]⟩, .bool false] 38)) := ((Below.refl _ _).alloc (Nat.le_refl _) _).alloc (by simp) _
  have fa : Fr (fun _ => False) w ((w.alloc (.cells #[.string ⟨#[]⟩, .string ⟨#[]⟩, .bool false] 38)).alloc (.cells #[.string ⟨#[]⟩, .string ⟨#[]⟩, .bool false] 38)) := ((Fr.refl _ _).alloc _).alloc _
  have T2 : Hid (RX ((w.alloc (.cells #[.string ⟨#[]⟩, .string ⟨#[]⟩, .bool false] 38)).alloc (.cells #[.string ⟨#[]⟩, .string ⟨#[]⟩, .bool false] 38)) r G h l) := RX.fr t fa (fun _ _ h => h)
  have X2 : Hid (Blk ((w.alloc (.cells #[.string ⟨#[]⟩, .string ⟨#[]⟩, .bool false] 38)).alloc (.cells #[.string ⟨#[]⟩, .string ⟨#[]⟩, .bool false] 38)) w.heap.size 38 zeroF) := (Blk.new w 38 zeroF).alloc _
  have Y2 : Hid (Blk ((w.alloc (.cells #[.string ⟨#[]⟩, .string ⟨#[]⟩, .bool false] 38)).alloc (.cells #[.string ⟨#[]⟩, .string ⟨#[]⟩, .bool false] 38)) (w.heap.size + 1) 38 zeroF) := by
    have := Blk.new (w.alloc (.cells #[.string ⟨#[]⟩, .string ⟨#[]⟩, .bool false] 38)) 38 zeroF
    have e : (w.alloc (.cells #[.string ⟨#[]⟩, .string ⟨#[]⟩, .bool false] 38)).heap.size = w.heap.size + 1 := by simp
    rw [e] at this
    exact this
  have B2 := Lib.hid ba
  have hpl : p < w.heap.size := Blk.lt b
  have HS := Lib.hid hS
  have Hn0 := Lib.hid hn0
  have Hz := Lib.hid hz
  have HR := Lib.hid hR0
  have k0 : ¬ (0 : Int) < (i : Int) := by omega
  obtain ⟨Y, hY⟩ : ∃ Y, ofB (xs.drop n) = Y := ⟨_, rfl⟩
  have hext : S.extract n n0 = Y := by rw [← hY]; exact ofB_extract xs S hS n0 hn0 n
  have hyl : (xs.drop n).length = n0 - n := by rw [List.length_drop, hn0]
  have hyl' := hyl
  have HY := Lib.hid hY
  have Hyl := Lib.hid hyl
  have e3 : (n : Int) ≤ (n0 : Int) := by omega
  clear hY
  obtain ⟨Uk, hUk⟩ : ∃ U, ofB s0 = U := ⟨_, rfl⟩
  have hk0 := (getT_len hTk).2.1
  rw [hyl'] at hk0
  obtain ⟨nk, hnk⟩ : ∃ nk, n + k = nk := ⟨_, rfl⟩
  have ek : (n : Int) + (k : Int) = (nk : Int) := by omega
  have ek3 : (nk : Int) ≤ (n0 : Int) := by omega
  have HTk := Lib.hid hTk
  have HVk : Hid (textV (.ok s0 k) = .tuple #[.string Uk, .int .i64 (k : Int), .int .i64 0]) := by rw [← hUk]; rfl
  rw [hnk] at hT
  obtain ⟨Zt, hZt⟩ : ∃ Y, ofB (xs.drop nk) = Y := ⟨_, rfl⟩
  have hextz : S.extract nk n0 = Zt := by rw [← hZt]; exact ofB_extract xs S hS n0 hn0 nk
  have hzl : (xs.drop nk).length = n0 - nk := by rw [List.length_drop, hn0]
  have HZt := Lib.hid hZt
  have Hzl := Lib.hid hzl
  have hcb : ((c : Int) == 0) = false := by have := getT_err hT; simp; omega
  have HT := Lib.hid hT
  have HV : Hid (textV (.err c) = .tuple #[.string ⟨#[]⟩, .int .i64 0, .int .i64 (c : Int)]) := rfl
  clear t b ba fa hS hn0 hz hR0 hT hTk hZt hzl hyl
  go_enter Tryd.func80, Tryd.ntmps80
  go_wp2_with (first
    | (go_at_call 63; (with_reducible refine (r3GetInt_p xs S HS.out n0 Hn0.out hn pf h1 h8 z Hz.out _ HR.out _ rfl _).mono ?_); rintro e wq ⟨rfl, rfl⟩; unfold getV)
    | (go_at_call 97; (with_reducible refine (r3GetText_p _ Zt HZt.out _ Hzl.out (by omega) _ HT.out _ HV.out _).mono ?_); rintro e w7 ⟨rfl, hb⟩
       have X7 := blk_sb X5.out hb (by omega)
       have Y7 := blk_ss Y5.out hb
       have B7 := Lib.hid (below_sb B5.out (by omega) hb)
       have x0 := X7.cell 0
       have x1 := X7.cell 1
       have x2 := X7.cell 2
       have xf := X7.frozen
       have y0' := Y7.cell 0
       have y1' := Y7.cell 1
       have y2' := Y7.cell 2
       have yf := Y7.frozen
       simp only [List.getElem?_cons_zero, List.getElem?_cons_succ, List.set_cons_zero] at x0 x1 x2 y0' y1' y2'
       have xl := Blk.lt X7
       have yl := Blk.lt Y7
       have X7 := Lib.hid X7
       have Y7 := Lib.hid Y7
       clear hb)
    | (go_at_call 97; (with_reducible refine (r3GetText_p _ Y HY.out _ Hyl.out (by omega) _ HTk.out _ HVk.out _).mono ?_); rintro e w5 ⟨rfl, hb⟩
       have X5 := X2.out.below hb (Blk.lt X2.out)
       have Y5 := Y2.out.below hb (Blk.lt Y2.out)
       have B5 := Lib.hid (B2.out.trans (hb.mono B2.out.size))
       have x0 := X5.cell 0
       have x1 := X5.cell 1
       have x2 := X5.cell 2
       have xf := X5.frozen
       have y0' := Y5.cell 0
       have y1' := Y5.cell 1
       have y2' := Y5.cell 2
       have yf := Y5.frozen
       simp only [List.getElem?_cons_zero, List.getElem?_cons_succ] at x0 x1 x2 y0' y1' y2'
       have xl := Blk.lt X5
       have yl := Blk.lt Y5
       have X5 := Lib.hid X5
       have Y5 := Lib.hid Y5
       clear hb))
  have X9 := (blk_set3 X7.out (.string ⟨#[]⟩) (.string ⟨#[]⟩) (.bool false))
  have B9 := below_set3 B7.out (Nat.le_refl _) (.string ⟨#[]⟩) (.string ⟨#[]⟩) (.bool false)
  have z0 := X9.cell 0
  have z1 := X9.cell 1
  have z2 := X9.cell 2
  simp only [List.getElem?_cons_zero, List.getElem?_cons_succ] at z0 z1 z2
  refine bodyPost_ret (v := litV none) (by simp [results, Tryd.results80, go_sem, z0, z1, z2, litV]) rfl ?_
  exact ⟨rfl, B9⟩
set_option maxHeartbeats 4000000 in
theorem r5Dlit_nmok (t : RX w r G h l) (b : Blk w p 56 (.pointer (some ⟨r, 0, none⟩) :: vs)) (xs : List UInt8) (S : ByteArray) (hS : ofB xs = S) (n0 : Nat) (hn0 : xs.length = n0) (hn : n0 ≤ 1000) (pf : Nat) (h1 : 1 ≤ pf) (h8 : pf ≤ 8) (z : Int) (hz : z = (pf : Int)) (i n : Nat) (hR0 : getN pf xs = .ok i n) (h0 : i = 0) (s0 : List UInt8) (k : Nat) (hTk : getT big (xs.drop n) = .ok s0 k) (t0 : List UInt8) (m : Nat) (hT : getT big (xs.drop (n + k)) = .ok t0 m) :
    Calls Tryd.prog 80 #[.pointer (some ⟨p, 0, none⟩), .string S, .int .i64 z] w fun e w' => e = .returned (litV (some (⟨ofB s0, ofB t0, false⟩, n + k + m))) ∧ Below w.heap.size w w' := by
  obtain ⟨_, _, _, n1, n2, _, hi6⟩ := getN_least hR0
  rw [hn0] at n2
  have hSs : S.size = n0 := by rw [← hS, ofB_size, hn0]
  have y0 : w.cell? ⟨p, 0, none⟩ = some (.pointer (some ⟨r, 0, none⟩)) := b.cell 0
  have ba : Below w.heap.size w ((w.alloc (.cells #[.string ⟨#[]⟩, .string ⟨#[]⟩, .bool false] 38)).alloc (.cells #[.string ⟨#[]⟩, .string ⟨#[]⟩, .bool false] 38)) := ((Below.refl _ _).alloc (Nat.le_refl _) _).alloc (by simp) _
  have fa : Fr (fun _ => False) w ((w.alloc (.cells #[.string ⟨#[]⟩, .string ⟨#[]⟩, .bool false] 38)).alloc (.cells #[.string ⟨#[]⟩, .string ⟨#[]⟩, .bool false] 38)) := ((Fr.refl _ _).alloc _).alloc _
  have T2 : Hid (RX ((w.alloc (.cells #[.string ⟨#[]⟩, .string ⟨#[]⟩, .bool false] 38)).alloc (.cells #[.string ⟨#[]⟩, .string ⟨#[]⟩, .bool false] 38)) r G h l) := RX.fr t fa (fun _ _ h => h)
  have X2 : Hid (Blk ((w.alloc (.cells #[.string ⟨#[]⟩, .string ⟨#[]⟩, .bool false] 38)).alloc (.cells #[.string ⟨#[]⟩, .string ⟨#[]⟩, .bool false] 38)) w.heap.size 38 zeroF) := (Blk.new w 38 zeroF).alloc _
  have Y2 : Hid (Blk ((w.alloc (.cells #[.string ⟨#[]⟩, .string ⟨#[]⟩, .bool false] 38)).alloc (.cells #[.string ⟨#[]⟩, .string ⟨#[]⟩, .bool false] 38)) (w.heap.size + 1) 38 zeroF) := by
    have := Blk.new (w.alloc (.cells #[.string ⟨#[]⟩, .string ⟨#[]⟩, .bool false] 38)) 38 zeroF
    have e : (w.alloc (.cells #[.string ⟨#[]⟩, .string ⟨#[]⟩, .bool false] 38)).heap.size = w.heap.size + 1 := by simp
    rw [e] at this
    exact this
  have B2 := Lib.hid ba
  have hpl : p < w.heap.size := Blk.lt b
  have HS := Lib.hid hS
  have Hn0 := Lib.hid hn0
  have Hz := Lib.hid hz
  have HR := Lib.hid hR0
  have k0 : ¬ (0 : Int) < (i : Int) := by omega
  obtain ⟨Y, hY⟩ : ∃ Y, ofB (xs.drop n) = Y := ⟨_, rfl⟩
  have hext : S.extract n n0 = Y := by rw [← hY]; exact ofB_extract xs S hS n0 hn0 n
  have hyl : (xs.drop n).length = n0 - n := by rw [List.length_drop, hn0]
  have hyl' := hyl
  have HY := Lib.hid hY
  have Hyl := Lib.hid hyl
  have e3 : (n : Int) ≤ (n0 : Int) := by omega
  clear hY
  obtain ⟨Uk, hUk⟩ : ∃ U, ofB s0 = U := ⟨_, rfl⟩
  have hk0 := (getT_len hTk).2.1
  rw [hyl'] at hk0
  obtain ⟨nk, hnk⟩ : ∃ nk, n + k = nk := ⟨_, rfl⟩
  have ek : (n : Int) + (k : Int) = (nk : Int) := by omega
  have ek3 : (nk : Int) ≤ (n0 : Int) := by omega
  have HTk := Lib.hid hTk
  have HVk : Hid (textV (.ok s0 k) = .tuple #[.string Uk, .int .i64 (k : Int), .int .i64 0]) := by rw [← hUk]; rfl
  rw [hnk] at hT
  obtain ⟨Zt, hZt⟩ : ∃ Y, ofB (xs.drop nk) = Y := ⟨_, rfl⟩
  have hextz : S.extract nk n0 = Zt := by rw [← hZt]; exact ofB_extract xs S hS n0 hn0 nk
  have hzl : (xs.drop nk).length = n0 - nk := by rw [List.length_drop, hn0]
  have HZt := Lib.hid hZt
  have Hzl := Lib.hid hzl
  have hzl' := hzl
  obtain ⟨U, hU⟩ : ∃ U, ofB t0 = U := ⟨_, rfl⟩
  have hm0 := (getT_len hT).2.1
  rw [hzl'] at hm0
  obtain ⟨nm, hnm⟩ : ∃ nm, nk + m = nm := ⟨_, rfl⟩
  have e1 : (nk : Int) + (m : Int) = (nm : Int) := by omega
  have HT := Lib.hid hT
  have HV : Hid (textV (.ok t0 m) = .tuple #[.string U, .int .i64 (m : Int), .int .i64 0]) := by rw [← hU]; rfl
  clear t b ba fa hS hn0 hz hR0 hT hTk hZt hzl hyl
  rw [hU, hUk, hnk, hnm]
  go_enter Tryd.func80, Tryd.ntmps80
  go_wp2_with (first
    | (go_at_call 63; (with_reducible refine (r3GetInt_p xs S HS.out n0 Hn0.out hn pf h1 h8 z Hz.out _ HR.out _ rfl _).mono ?_); rintro e wq ⟨rfl, rfl⟩; unfold getV)
    | (go_at_call 97; (with_reducible refine (r3GetText_p _ Zt HZt.out _ Hzl.out (by omega) _ HT.out _ HV.out _).mono ?_); rintro e w7 ⟨rfl, hb⟩
       have X7 := blk_sb X5.out hb (by omega)
       have Y7 := blk_ss Y5.out hb
       have B7 := Lib.hid (below_sb B5.out (by omega) hb)
       have x0 := X7.cell 0
       have x1 := X7.cell 1
       have x2 := X7.cell 2
       have xf := X7.frozen
       have y0' := Y7.cell 0
       have y1' := Y7.cell 1
       have y2' := Y7.cell 2
       have yf := Y7.frozen
       simp only [List.getElem?_cons_zero, List.getElem?_cons_succ, List.set_cons_zero] at x0 x1 x2 y0' y1' y2'
       have xl := Blk.lt X7
       have yl := Blk.lt Y7
       have X7 := Lib.hid X7
       have Y7 := Lib.hid Y7
       clear hb)
    | (go_at_call 97; (with_reducible refine (r3GetText_p _ Y HY.out _ Hyl.out (by omega) _ HTk.out _ HVk.out _).mono ?_); rintro e w5 ⟨rfl, hb⟩
       have X5 := X2.out.below hb (Blk.lt X2.out)
       have Y5 := Y2.out.below hb (Blk.lt Y2.out)
       have B5 := Lib.hid (B2.out.trans (hb.mono B2.out.size))
       have x0 := X5.cell 0
       have x1 := X5.cell 1
       have x2 := X5.cell 2
       have xf := X5.frozen
       have y0' := Y5.cell 0
       have y1' := Y5.cell 1
       have y2' := Y5.cell 2
       have yf := Y5.frozen
       simp only [List.getElem?_cons_zero, List.getElem?_cons_succ] at x0 x1 x2 y0' y1' y2'
       have xl := Blk.lt X5
       have yl := Blk.lt Y5
       have X5 := Lib.hid X5
       have Y5 := Lib.hid Y5
       clear hb))
  have X8 := X7.out.fr ((Fr.refl (fun j => j = w.heap.size + 1) w7).setCell (p := ⟨w.heap.size + 1, 1, none⟩) (.inl rfl) (.string U)) (by omega)
  have B8 := B7.out.setCell (p := ⟨w.heap.size + 1, 1, none⟩) (Nat.le_succ _) (.string U)
  have X9 := (blk_set3 X8 (.string Uk) (.string U) (.bool false))
  have B9 := below_set3 B8 (Nat.le_refl _) (.string Uk) (.string U) (.bool false)
  have z0 := X9.cell 0
  have z1 := X9.cell 1
  have z2 := X9.cell 2
  simp only [List.getElem?_cons_zero, List.getElem?_cons_succ] at z0 z1 z2
  refine bodyPost_ret (v := litV (some (⟨Uk, U, false⟩, nm))) (by simp [results, Tryd.results80, go_sem, z0, z1, z2, litV]) rfl ?_
  exact ⟨rfl, B9⟩
/-- a field whose value is told, read -/
theorem r5Dlit_c (t : RX w r G h l) (b : Blk w p 56 (.pointer (some ⟨r, 0, none⟩) :: vs)) (xs : List UInt8) (S : ByteArray) (hS : ofB xs = S) (n0 : Nat) (hn0 : xs.length = n0) (hn : n0 ≤ 1000) (pf : Nat) (h1 : 1 ≤ pf) (h8 : pf ≤ 8) (z : Int) (hz : z = (pf : Int)) (R : Option (Fld × Nat)) (hR : litD (statL ++ l) pf xs = R) :
    Calls Tryd.prog 80 #[.pointer (some ⟨p, 0, none⟩), .string S, .int .i64 z] w fun e w' => e = .returned (litV R) ∧ Below w.heap.size w w' := by
  subst hR
  unfold litD
  cases hN : getN pf xs with
  | arg => exact r5Dlit_nonum xs S hS n0 hn0 hn pf h1 h8 z hz _ hN 1 rfl rfl _
  | more => exact r5Dlit_nonum xs S hS n0 hn0 hn pf h1 h8 z hz _ hN 2 rfl rfl _
  | form => exact r5Dlit_nonum xs S hS n0 hn0 hn pf h1 h8 z hz _ hN 3 rfl rfl _
  | ok i n =>
    dsimp only
    by_cases h0 : 0 < i
    · rw [if_pos h0]
      cases hM : nth (statL ++ l) i with
      | none => exact r5Dlit_atnone t b xs S hS n0 hn0 hn pf h1 h8 z hz i n hN h0 hM
      | some g =>
        dsimp only
        cases hT : getT big (xs.drop n) with
        | err c => exact r5Dlit_aterr t b xs S hS n0 hn0 hn pf h1 h8 z hz i n hN h0 g hM c hT
        | ok t0 m => exact r5Dlit_atok t b xs S hS n0 hn0 hn pf h1 h8 z hz i n hN h0 g hM t0 m hT
    · rw [if_neg h0]
      cases hTk : getT big (xs.drop n) with
      | err c => exact r5Dlit_nmerr t b xs S hS n0 hn0 hn pf h1 h8 z hz i n hN (by omega) c hTk
      | ok s0 k =>
        dsimp only
        cases hT : getT big (xs.drop (n + k)) with
        | err c => exact r5Dlit_nmerr2 t b xs S hS n0 hn0 hn pf h1 h8 z hz i n hN (by omega) s0 k hTk c hT
        | ok t0 m => exact r5Dlit_nmok t b xs S hS n0 hn0 hn pf h1 h8 z hz i n hN (by omega) s0 k hTk t0 m hT
end
end Go.Proofs.YtinieljgcenemaaDoor
