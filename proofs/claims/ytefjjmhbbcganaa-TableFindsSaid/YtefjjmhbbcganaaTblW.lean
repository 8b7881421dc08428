/- The table laws' common case 'shown' (over the interface TblPT). -/
import Derived.Test.YtefjjmhbbcganaaTblB
namespace Go.Proofs.Ytefjjmhbbcganaa
open Go.RowKit Go.Own Go.Tbl
set_option linter.unusedVariables false

abbrev shA : Fld := ⟨⟨#[97]⟩, ⟨#[49]⟩, false⟩
abbrev shB : Fld := ⟨⟨#[98]⟩, ⟨#[50]⟩, true⟩
abbrev shC : Fld := ⟨⟨#[99]⟩, ⟨#[51]⟩, false⟩
theorem sh_ok : fok shA ∧ fok shB ∧ fok shC := by unfold fok; decide +kernel
theorem sh_1 : addF 100 shA [] = [shA] := by kernel_rfl
theorem sh_2 : addF 100 shB [shA] = [shB.plain, shA] := by kernel_rfl
theorem sh_3 : addF 100 shC [shB.plain, shA] = [shC, shB.plain] := by kernel_rfl
theorem sh_f1 : findF (statL ++ [shC, shB.plain]) ⟨⟨#[58, 109, 101, 116, 104, 111, 100]⟩, ⟨#[80, 85, 84]⟩, false⟩ = (2, false) := by kernel_rfl
theorem sh_f2 : findF (statL ++ [shC, shB.plain]) ⟨⟨#[58, 112, 97, 116, 104]⟩, ⟨#[47]⟩, false⟩ = (4, true) := by kernel_rfl
theorem sh_at : atL (statL ++ [shC, shB.plain]) 63 = some ⟨⟨#[98]⟩, ⟨#[50]⟩, false⟩ := by kernel_rfl
theorem sh_sz : szs [shC, shB.plain] = 68 := by kernel_rfl
theorem bAddE {B : Nat} {w0 w : World} {p h : Nat} {l : List Fld} (t : PB B w0 w p h l) (n v : ByteArray) (b : Bool) (hf : fok ⟨n, v, b⟩) (L : List Fld) (hL : addF h ⟨n, v, b⟩ l = L) : Calls Try.prog 18 #[.pointer (some ⟨p, 0, none⟩), .agg #[.string n, .string v, .bool b]] w fun e w' => e = .returned (.tuple #[]) ∧ PB B w0 w' p h L := bAdd t ⟨n, v, b⟩ hf L hL
theorem bFindE {B : Nat} {w0 w : World} {p h : Nat} {l : List Fld} (t : PB B w0 w p h l) (n v : ByteArray) (b : Bool) (hf : fok ⟨n, v, b⟩) (R1 : Nat) (R2 : Bool) (hR : findF (statL ++ l) ⟨n, v, b⟩ = (R1, R2)) (z : Int) (hz : z = (R1 : Int)) : Calls Try.prog 24 #[.pointer (some ⟨p, 0, none⟩), .agg #[.string n, .string v, .bool b]] w fun e w' => e = .returned (.tuple #[.int .i64 z, .bool R2]) ∧ PB B w0 w' p h l ∧ Below w.heap.size w w' := by
  subst hz
  exact bFind t ⟨n, v, b⟩ hf R1 R2 hR
theorem bAtE {B : Nat} {w0 w : World} {p h : Nat} {l : List Fld} (t : PB B w0 w p h l) (i : Int) (hi : i64 i) (n v : ByteArray) (b : Bool) (hR : atL (statL ++ l) i = some ⟨n, v, b⟩) : Calls Try.prog 22 #[.pointer (some ⟨p, 0, none⟩), .int .i64 i] w fun e w' => e = .returned (.tuple #[.agg #[.string n, .string v, .bool b], .bool true]) ∧ PB B w0 w' p h l ∧ Below w.heap.size w w' := bAt t i hi _ hR
theorem bLenE {B : Nat} {w0 w : World} {p h : Nat} {l : List Fld} (t : PB B w0 w p h l) (n : Nat) (hn : l.length = n) (z : Int) (hz : z = (n : Int)) : Calls Try.prog 29 #[.pointer (some ⟨p, 0, none⟩)] w fun e w' => e = .returned (.int .i64 z) ∧ PB B w0 w' p h l ∧ Below w.heap.size w w' := by
  subst hz
  exact bLen t n hn
theorem bTSizeE {B : Nat} {w0 w : World} {p h : Nat} {l : List Fld} (t : PB B w0 w p h l) (n : Nat) (hn : szs l = n) (z : Int) (hz : z = (n : Int)) : Calls Try.prog 30 #[.pointer (some ⟨p, 0, none⟩)] w fun e w' => e = .returned (.int .i64 z) ∧ PB B w0 w' p h l ∧ Below w.heap.size w w' := by
  subst hz
  exact bTSize t n hn
theorem bMaxE {B : Nat} {w0 w : World} {p h : Nat} {l : List Fld} (t : PB B w0 w p h l) (z : Int) (hz : z = (h : Int)) : Calls Try.prog 31 #[.pointer (some ⟨p, 0, none⟩)] w fun e w' => e = .returned (.int .i64 z) ∧ PB B w0 w' p h l ∧ Below w.heap.size w w' := by
  subst hz
  exact bMax t
set_option maxRecDepth 100000 in
set_option maxHeartbeats 2000000 in
theorem shown4 (w : World) : Calls Try.prog 10 #[] w fun e w' => e = .returned (.bool true) ∧ Below w.heap.size w w' := by
  obtain ⟨oa, ob, oc⟩ := sh_ok
  have i100 : i64 100 := by unfold i64; omega
  have i63 : i64 63 := by unfold i64; omega
  have of1 : fok ⟨⟨#[58, 109, 101, 116, 104, 111, 100]⟩, ⟨#[80, 85, 84]⟩, false⟩ := by unfold fok; decide +kernel
  have of2 : fok ⟨⟨#[58, 112, 97, 116, 104]⟩, ⟨#[47]⟩, false⟩ := by unfold fok; decide +kernel
  go_enter Try.func10, Try.ntmps10
  go_wp2_with (first
    | (go_at_call 15; (with_reducible refine (bNew (B := w.heap.size) (w0 := w) 100 i100 (Nat.le_refl _) (Below.refl _ _)).mono ?_); rintro e w1 ⟨p, rfl, t1⟩; have T1 : Hid (PB w.heap.size w w1 p 100 []) := t1; clear t1)
    | (go_at_call 18; (with_reducible refine (bAddE T1.out ⟨#[97]⟩ ⟨#[49]⟩ false oa _ sh_1).mono ?_); rintro e w2 ⟨rfl, t2⟩; have T2 := Lib.hid t2; clear t2)
    | (go_at_call 18; (with_reducible refine (bAddE T2.out ⟨#[98]⟩ ⟨#[50]⟩ true ob _ sh_2).mono ?_); rintro e w3 ⟨rfl, t3⟩; have T3 := Lib.hid t3; clear t3)
    | (go_at_call 18; (with_reducible refine (bAddE T3.out ⟨#[99]⟩ ⟨#[51]⟩ false oc _ sh_3).mono ?_); rintro e w4 ⟨rfl, t4⟩; have T4 := Lib.hid t4; clear t4)
    | (go_at_call 24; (with_reducible refine (bFindE T4.out ⟨#[58, 109, 101, 116, 104, 111, 100]⟩ ⟨#[80, 85, 84]⟩ false of1 2 false sh_f1 2 rfl).mono ?_); rintro e w5 ⟨rfl, t5, b5⟩; have T5 := Lib.hid t5; clear t5 b5)
    | (go_at_call 24; (with_reducible refine (bFindE T5.out ⟨#[58, 112, 97, 116, 104]⟩ ⟨#[47]⟩ false of2 4 true sh_f2 4 rfl).mono ?_); rintro e w6 ⟨rfl, t6, b6⟩; have T6 := Lib.hid t6; clear t6 b6)
    | (go_at_call 22; (with_reducible refine (bAtE T6.out 63 i63 ⟨#[98]⟩ ⟨#[50]⟩ false sh_at).mono ?_); rintro e w7 ⟨rfl, t7, b7⟩; have T7 := Lib.hid t7; clear t7 b7)
    | (go_at_call 29; (with_reducible refine (bLenE (T7.out.alloc _) 2 rfl 2 rfl).mono ?_); rintro e w8 ⟨rfl, t8, b8⟩; have T8 := Lib.hid t8; have X8 := Lib.hid ((Blk.new w7 23 [.string ⟨#[98]⟩, .string ⟨#[50]⟩, .bool false]).below b8 (by simp)); clear t8 b8)
    | (go_at_call 30; (with_reducible refine (bTSizeE T8.out 68 sh_sz 68 rfl).mono ?_); rintro e w9 ⟨rfl, t9, b9⟩; have T9 := Lib.hid t9; have X9 := Lib.hid (X8.out.below b9 (Blk.lt X8.out)); clear t9 b9)
    | (go_at_call 31; (with_reducible refine (bMaxE T9.out 100 rfl).mono ?_); rintro e w10 ⟨rfl, t10, b10⟩; have T10 := Lib.hid t10; have X10 := Lib.hid (X9.out.below b10 (Blk.lt X9.out)); have q0 := X10.out.cell 0; have q1 := X10.out.cell 1; have q2 := X10.out.cell 2; simp only [List.getElem?_cons_zero, List.getElem?_cons_succ] at q0 q1 q2; clear t10 b10))
  go_ret
  exact ⟨rfl, T10.out.below⟩
end Go.Proofs.Ytefjjmhbbcganaa
