/- What ends a law's walk, and what begins one. -/
import Derived.Test.YtdmheinepkeglaaDoorBk
namespace Go.Proofs.YtdmheinepkeglaaDoor
open Go.RowKit Go.Own Go.Huf
set_option linter.unusedVariables false

theorem octet_bits (l : List Bool) (h : l.length = 8) : bits8 [UInt8.ofNat (numB l)] = l := by
  have hl := numB_lt l
  rw [h] at hl
  have := bitsN_numB l
  rw [h] at this
  rw [bits8_cons, show bits8 [] = [] from rfl, List.append_nil, ofNat_toNat _ (by omega), this]
theorem pk_exists : ∀ (n : Nat) (bs : List Bool), bs.length ≤ n → ∃ xs, Pk bs xs
  | 0, bs, h => ⟨[], 0, by omega, by rw [List.eq_nil_of_length_eq_zero (by omega : bs.length = 0)]; rfl⟩
  | n + 1, bs, h => by
    by_cases h0 : bs.length = 0
    · exact ⟨[], 0, by omega, by rw [List.eq_nil_of_length_eq_zero h0]; rfl⟩
    · by_cases h8 : bs.length < 8
      · refine ⟨[UInt8.ofNat (numB (bs ++ List.replicate (8 - bs.length) true))], 8 - bs.length, by omega, octet_bits _ (by simp; omega)⟩
      · obtain ⟨xs, k, hk, e⟩ := pk_exists n (bs.drop 8) (by rw [List.length_drop]; omega)
        refine ⟨UInt8.ofNat (numB (bs.take 8)) :: xs, k, hk, ?_⟩
        rw [show UInt8.ofNat (numB (bs.take 8)) :: xs = [UInt8.ofNat (numB (bs.take 8))] ++ xs from rfl, bits8_append, octet_bits _ (by rw [List.length_take]; omega), e, ← List.append_assoc, List.take_append_drop]
theorem below_drew {B : Nat} {a w : World} (h : Below B a w) : Below B a w.drew := ⟨h.os, h.tape, h.output, h.size, h.block⟩
/-- the end of a law: its slot holds true -/
theorem ret_true {f : Func} {p : Nat} (hf : f.results = #[.tmp p]) {Q0 : Ending → World → Prop} {a : Act} {w : World} (h2 : a.tmps.getD p undef = .bool true) (hd : a.defers = []) (h : Q0 (.returned (.bool true)) w) : Code.wp Tryd.prog Code.ret (bodyPost Tryd.prog f Q0) a w :=
  wp_ret (bodyPost_ret (v := .bool true) (by rw [results_tmp hf, h2]) hd h)
theorem resV_shape (R0 : R) : ∃ S E, resV R0 = .tuple #[.string S, .int .i64 E] := by cases R0 <;> exact ⟨_, _, rfl⟩
theorem rd_alloc {w : World} {size n : Nat} {A : Option Addr} {vs : List Value} (h : Rd w size A n vs) (o : Obj) : Rd (w.alloc o) size A n vs := h.fr (S := fun _ => False) ((Fr.refl _ _).alloc o) (fun _ _ h => h)
theorem below_empty {w2 w3 : World} {B : Nat} {o : Obj} (hf : Fr (fun i => some i = (Value.slice (some ⟨w2.heap.size, 0, none⟩) 0 0).ownBlock) (w2.alloc o) w3) (hB : B ≤ w2.heap.size) : Below B w2 w3 :=
  ((Below.refl _ _).alloc hB o).trans (hf.below (by simp; omega) (fun i _ e => by simp [Value.ownBlock] at e; omega))

end Go.Proofs.YtdmheinepkeglaaDoor
