/- Several texts in one: Wc0, Wch, Wo. -/
import Derived.Test.YtokbdkbljgdcpaaDoorY2
import Derived.Test.YtokbdkbljgdcpaaDoorY7
import Derived.Test.YtokbdkbljgdcpaaDoorY11
import Derived.Test.YtokbdkbljgdcpaaDoorY6
import Derived.Test.YtokbdkbljgdcpaaDoorY8
import Derived.Deep.RegionHeld
import Derived.Test.YtokbdkbljgdcpaaDoorY1
/- isInBounds and mayBe: their words, and the document's. -/
namespace Go.Proofs.YtokbdkbljgdcpaaDoor
open Go.RowKit Go.Own Go.Frm
set_option linter.unusedVariables false
/-- what isInBounds answers -/
def inbB (f : Fm) : Bool :=
  (decide (0 ≤ f.pad) && decide (f.pad ≤ 256)) && (decide (0 ≤ f.depend) && decide (f.depend ≤ 2147483647)) && ((decide (1 ≤ f.weight) && decide (f.weight ≤ 256)) || !(hW f.k || f.prio)) && (decide (0 ≤ f.flags) && decide (f.flags ≤ 255)) && (decide (0 ≤ f.last) && decide (f.last ≤ 2147483647)) && ((f.last != 0) || (f.kind != 5)) && ((decide (1 ≤ f.inc) && decide (f.inc ≤ 2147483647)) || !(hI f.k)) && idsOk f.list && (decide (f.list.length = 0) || !f.ack) && (decide (f.pay.length = 8) || (f.kind != 6))
theorem has_prty (k : Nat) (pr : Bool) : (bits .and .i64 ((partN k pr : Nat) : Int) 32 != 0) = (hW k || pr) := by
  rw [partN_eq]; exact has_bit (partL k pr) rfl 5 (by omega) 32 rfl
theorem has_inc (k : Nat) (pr : Bool) : (bits .and .i64 ((partN k pr : Nat) : Int) 2048 != 0) = hI k := by
  rw [partN_eq]; exact has_bit (partL k pr) rfl 11 (by omega) 2048 rfl
theorem has_last (k : Nat) (pr : Bool) : (bits .and .i64 ((partN k pr : Nat) : Int) 512 != 0) = hT k := by
  rw [partN_eq]; exact has_bit (partL k pr) rfl 9 (by omega) 512 rfl
theorem has_code (k : Nat) (pr : Bool) : (bits .and .i64 ((partN k pr : Nat) : Int) 1024 != 0) = hC k := by
  rw [partN_eq]; exact has_bit (partL k pr) rfl 10 (by omega) 1024 rfl
theorem has_only (f : Fm) : (bits .and .i64 ((fillN f : Nat) : Int) (-1 - ((partN f.k f.prio : Nat) : Int)) != 0) = !only f := by
  rw [partN_eq, fillN, ← only_fill]
  exact and_compl (fillL f) (partL f.k f.prio) rfl rfl
theorem xor_all (p : Nat) (hp : p < 4096) : bits .xor .i64 (-1) (p : Int) = -1 - (p : Int) := by
  show IntKind.i64.wrap ((BitVec.ofInt 64 (-1) ^^^ BitVec.ofInt 64 (p : Int)).toNat : Int) = _
  have h : BitVec.ofInt 64 (-1) = BitVec.allOnes 64 := by decide
  rw [h, BitVec.allOnes_xor, BitVec.toNat_not, ofInt64 p (by omega), IntKind.wrap_i64]
  omega
theorem has_onlyX (f : Fm) : (bits .and .i64 ((fillN f : Nat) : Int) (bits .xor .i64 (-1) ((partN f.k f.prio : Nat) : Int)) != 0) = !only f := by
  rw [xor_all _ (partN_lt _ _)]
  exact has_only f
theorem len0 {α : Type} (l : List α) : decide (l.length = 0) = l.isEmpty := by cases l <;> simp
theorem inb_eq (f : Fm) (h0 : 0 ≤ f.kind) (ho : only f = true) : inbB f = bounds f := by
  have k5 : (f.kind != 5) = (f.k != 5) := by unfold Fm.k; rw [Bool.eq_iff_iff]; simp; omega
  have k6 : (f.kind != 6) = (f.k != 6) := by unfold Fm.k; rw [Bool.eq_iff_iff]; simp; omega
  have k8 : hI f.k = !(f.k != 8) := by unfold hI bne; rw [Bool.not_not]
  simp only [only, Bool.and_eq_true] at ho
  obtain ⟨⟨⟨⟨⟨⟨⟨⟨⟨⟨⟨_, _⟩, _⟩, ho4⟩, _⟩, _⟩, _⟩, _⟩, _⟩, _⟩, _⟩, ho12⟩ := ho
  have hw : (hW f.k || f.prio) = f.weighed := by
    unfold Fm.weighed
    cases hp : f.prio
    · simp
    · rw [hp] at ho4; simp at ho4; simp [ho4]
  have hd : ((decide (0 ≤ f.depend) && decide (f.depend ≤ 2147483647)) && ((decide (1 ≤ f.weight) && decide (f.weight ≤ 256)) || !f.weighed)) = (!f.weighed || (decide (0 ≤ f.depend) && decide (f.depend ≤ 2147483647) && decide (1 ≤ f.weight) && decide (f.weight ≤ 256))) := by
    cases hw2 : f.weighed
    · rw [hw2] at ho12
      simp at ho12
      simp [ho12.1.1]
    · simp [Bool.and_assoc]
  unfold inbB bounds
  rw [hw, k5, k6, k8, len0, Bool.not_not, ← hd]
  generalize (decide (0 ≤ f.depend) && decide (f.depend ≤ 2147483647)) = a
  generalize ((decide (1 ≤ f.weight) && decide (f.weight ≤ 256)) || !f.weighed) = b
  have e8 : (f.pay.length == 8) = decide (f.pay.length = 8) := rfl
  rw [e8]
  generalize decide (0 ≤ f.pad) = c1
  generalize decide (f.pad ≤ 256) = c2
  generalize decide (0 ≤ f.flags) = c3
  generalize decide (f.flags ≤ 255) = c4
  generalize decide (0 ≤ f.last) = c5
  generalize decide (f.last ≤ 2147483647) = c6
  generalize (f.last != 0) = c7
  generalize (f.k != 5) = c8
  generalize (decide (1 ≤ f.inc) && decide (f.inc ≤ 2147483647)) = c9
  generalize (f.k != 8) = c10
  generalize idsOk f.list = c11
  generalize f.list.isEmpty = c12
  generalize f.ack = c13
  generalize decide (f.pay.length = 8) = c14
  generalize (f.k != 6) = c15
  cases a <;> cases b <;> cases c11 <;> simp only [Bool.and_false, Bool.false_and, Bool.and_true] <;>
    cases c1 <;> cases c2 <;> cases c3 <;> simp only [Bool.and_false, Bool.false_and, Bool.and_true, Bool.true_and] <;>
    cases c4 <;> cases c5 <;> cases c6 <;> simp only [Bool.and_false, Bool.false_and, Bool.and_true, Bool.true_and] <;>
    cases c7 <;> cases c8 <;> cases c9 <;> cases c10 <;> simp only [Bool.or_false, Bool.or_true, Bool.and_false, Bool.false_and, Bool.and_true, Bool.true_and] <;>
    cases c12 <;> cases c13 <;> cases c14 <;> cases c15 <;> rfl
/-- the sixteen cells -/
theorem frCells {w : World} {r : Nat} {f : Fm} {pv lv : Value} (h : Blk w r 27 (frC f pv lv)) : w.cell? ⟨r, 0, none⟩ = some (.int .i64 f.kind) ∧ w.cell? ⟨r, 1, none⟩ = some (.int .i64 f.stream) ∧ w.cell? ⟨r, 2, none⟩ = some (.bool f.fin) ∧ w.cell? ⟨r, 3, none⟩ = some (.bool f.eh) ∧ w.cell? ⟨r, 4, none⟩ = some (.bool f.ack) ∧ w.cell? ⟨r, 5, none⟩ = some (.bool f.prio) ∧ w.cell? ⟨r, 6, none⟩ = some (pv) ∧ w.cell? ⟨r, 7, none⟩ = some (.int .i64 f.flags) ∧ w.cell? ⟨r, 8, none⟩ = some (.int .i64 f.pad) ∧ w.cell? ⟨r, 9, none⟩ = some (.int .i64 f.depend) ∧ w.cell? ⟨r, 10, none⟩ = some (.bool f.excl) ∧ w.cell? ⟨r, 11, none⟩ = some (.int .i64 f.weight) ∧ w.cell? ⟨r, 12, none⟩ = some (.int .u32 (f.code : Int)) ∧ w.cell? ⟨r, 13, none⟩ = some (lv) ∧ w.cell? ⟨r, 14, none⟩ = some (.int .i64 f.last) ∧ w.cell? ⟨r, 15, none⟩ = some (.int .i64 f.inc) :=
  ⟨h.cell 0, h.cell 1, h.cell 2, h.cell 3, h.cell 4, h.cell 5, h.cell 6, h.cell 7, h.cell 8, h.cell 9, h.cell 10, h.cell 11, h.cell 12, h.cell 13, h.cell 14, h.cell 15⟩
end Go.Proofs.YtokbdkbljgdcpaaDoor

/- The contract of mayBe. -/
namespace Go.Proofs.YtokbdkbljgdcpaaDoor
open Go.RowKit Go.Own Go.Frm
set_option linter.unusedVariables false
set_option maxRecDepth 100000
theorem inB_c (f : Fm) (k : Nat) (hk : f.kind = (k : Int)) (A B : Option Addr) (n c m d : Nat) {w : World} (hG : Gl w) (hn : f.pay.length = n) (hl : f.list.length = m) (hrd : Rd w 2 B m (scells f.list)) (hm : m ≤ 9223372036854775807) :
    Calls Tryd.prog 56 #[frV f (.slice A n c) (.slice B m d)] w fun e w' => e = .returned (.bool (inbB f)) ∧ Below w.heap.size w w' := by
  have hkk : f.k = k := by unfold Fm.k; omega
  have h := inBounds_any f k hk A B n c m d hG _ _ _ (hW f.k || f.prio) _ _ _ (hI f.k) _ _ _ _ _ _ rfl rfl rfl rfl rfl rfl rfl (by rw [hkk]; exact has_prty k f.prio) (by rw [hkk]; exact has_inc k f.prio) rfl rfl rfl rfl rfl hrd hm
  rw [← hn, ← hl] at h
  rw [← hn, ← hl]
  exact h
end Go.Proofs.YtokbdkbljgdcpaaDoor

/- put, as mustOf and Write call it. -/
namespace Go.Proofs.YtokbdkbljgdcpaaDoor
open Go.RowKit Go.Own Go.Frm
set_option linter.unusedVariables false
section
variable {w : World} {base p v : Nat} {xs : List UInt8}
theorem Wt.below {w' : World} (h : Wt base p xs w) (hb : Below w.heap.size w w') : Wt base p xs w' := h.fr (S := fun _ => False) (Fr.of_below hb (fun i h1 h2 => absurd h2 (by omega))) (fun _ _ h => h)
theorem put1_c (h : Wt base p xs w) (hv : v < 9223372036854775808) (hx : xs.length ≤ 1073741824) : Calls Tryd.prog 33 #[.pointer (some ⟨p, 0, none⟩), .int .i64 (v : Int), .int .i64 1] w fun e w' => e = .returned (.tuple #[]) ∧ Wt base p (xs ++ be v 1) w' ∧ Below base w w' := (put_c h v 1 (by omega) (by omega) hv hx).mono (fun _ _ h => ⟨h.1, h.2.1, h.2.2.1⟩)
theorem put2_c (h : Wt base p xs w) (hv : v < 9223372036854775808) (hx : xs.length ≤ 1073741824) : Calls Tryd.prog 33 #[.pointer (some ⟨p, 0, none⟩), .int .i64 (v : Int), .int .i64 2] w fun e w' => e = .returned (.tuple #[]) ∧ Wt base p (xs ++ be v 2) w' ∧ Below base w w' := (put_c h v 2 (by omega) (by omega) hv hx).mono (fun _ _ h => ⟨h.1, h.2.1, h.2.2.1⟩)
theorem put2s_c (h : Wt base p xs w) (hv : v < 9223372036854775808) (hx : xs.length ≤ 1073741824) : Calls Tryd.prog 33 #[.pointer (some ⟨p, 0, none⟩), .int .i64 (v : Int), .int .i64 2] w fun e w' => e = .returned (.tuple #[]) ∧ Wt base p (xs ++ be v 2) w' ∧ Below base w w' ∧ ∀ g t cs, Blk w g t cs → g ≠ p → t ≠ 5 → Blk w' g t cs := put_c h v 2 (by omega) (by omega) hv hx
theorem put3_c (h : Wt base p xs w) (hv : v < 9223372036854775808) (hx : xs.length ≤ 1073741824) : Calls Tryd.prog 33 #[.pointer (some ⟨p, 0, none⟩), .int .i64 (v : Int), .int .i64 3] w fun e w' => e = .returned (.tuple #[]) ∧ Wt base p (xs ++ be v 3) w' ∧ Below base w w' := (put_c h v 3 (by omega) (by omega) hv hx).mono (fun _ _ h => ⟨h.1, h.2.1, h.2.2.1⟩)
theorem put4_c (h : Wt base p xs w) (hv : v < 9223372036854775808) (hx : xs.length ≤ 1073741824) : Calls Tryd.prog 33 #[.pointer (some ⟨p, 0, none⟩), .int .i64 (v : Int), .int .i64 4] w fun e w' => e = .returned (.tuple #[]) ∧ Wt base p (xs ++ be v 4) w' ∧ Below base w w' := (put_c h v 4 (by omega) (by omega) hv hx).mono (fun _ _ h => ⟨h.1, h.2.1, h.2.2.1⟩)
end
theorem own_low {w : World} {e : TypeId} {size b n : Nat} {v : Value} {xs : List Value} (h : w.ownsRow (b + 1) e size v n xs) : w.ownsRow b e size v n xs := by
  refine ⟨h.1, h.2.imp id ?_⟩
  rintro ⟨g, cap, cur, h1, h2, h3⟩
  exact ⟨g, cap, cur, h1, Nat.le_of_succ_le h2, h3⟩
/-- what mustOf answers -/
def MuP (w : World) (xs : List UInt8) (e : Ending) (w' : World) : Prop := ∃ A c, e = .returned (.slice A xs.length c) ∧ w'.ownsRow w.heap.size 5 1 (.slice A xs.length c) xs.length (xs.map BV) ∧ Below w.heap.size w w'
end Go.Proofs.YtokbdkbljgdcpaaDoor
