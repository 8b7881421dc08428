/- Several texts in one: Fu, FA. -/
import Derived.Test.YtokbdkbljgdcpaaDoorY32
/- frame: the walk where the head tells no fault. -/
namespace Go.Proofs.YtokbdkbljgdcpaaDoor
open Go.RowKit Go.Own Go.Frm
set_option linter.unusedVariables false
set_option maxRecDepth 100000

section
variable {w : World} {A : Option Addr} {n c k fl s : Nat} {xs : List UInt8}
theorem FrOwn.lower {w : World} {b B : Nat} {f : Fm} {pv lv : Value} (h : FrOwn w b f pv lv) (hB : B ≤ b) : FrOwn w B f pv lv := by
  obtain ⟨A, c, D, d, h1, h2, h3, h4⟩ := h
  exact ⟨A, c, D, d, h1, h2, own_lower h3 hB, own_lower h4 hB⟩
theorem FrOwn.fr {w w' : World} {b : Nat} {f : Fm} {pv lv : Value} {S : Nat → Prop} (h : FrOwn w b f pv lv) (hf : Fr S w w') (hs : ∀ i, b ≤ i → ¬ S i) : FrOwn w' b f pv lv := by
  obtain ⟨A, c, D, d, h1, h2, h3, h4⟩ := h
  exact ⟨A, c, D, d, h1, h2, own_fr h3 hf (fun g hg => hs g (h3.lt g hg).1), own_fr h4 hf (fun g hg => hs g (h4.lt g hg).1)⟩
theorem frOwn_drew {w : World} {b : Nat} {f : Fm} {pv lv : Value} (h : FrOwn w b f pv lv) : FrOwn w.drew b f pv lv := h.fr (S := fun _ => False) (Fr.refl _ _).drew (fun _ _ h => h)
theorem check_ok {w : World} (hG : Gl w) (hn : n < 16777216) (hx : chkP n k fl s = noF) : Calls Tryd.prog 61 #[hdV n k fl s] w fun e w' => e = .returned (.agg #[.bool false, .int .u32 0, .int .i64 0]) ∧ Below w.heap.size w w' := check_any n k fl s hG hn false 0 0 hx
end
end Go.Proofs.YtokbdkbljgdcpaaDoor

/- padding, its two ways. -/
namespace Go.Proofs.YtokbdkbljgdcpaaDoor
open Go.RowKit Go.Own Go.Frm
set_option linter.unusedVariables false
set_option maxRecDepth 100000
section
variable {w : World} {r : Nat} {cs : List Value} {xs : List UInt8}
theorem padding_bad (h : RG w r cs xs) (hx : 1 ≤ xs.length) (most : Nat) (hm : most ≤ 16777215) (hbig : most + 1 ≤ xs.length) (hlt : most < (xs.headD 0).toNat) : Calls Tryd.prog 63 #[.pointer (some ⟨r, 0, none⟩), .int .i64 (most : Int)] w fun e w' => e = .returned (.agg #[.bool true, .int .u32 1, .int .i64 0]) ∧ Fr (· = r) w w' := by
  refine (padding_c h hx most hm hbig).mono ?_
  rintro e w' ⟨hf, ⟨_, he⟩ | ⟨hn, _⟩⟩
  · exact ⟨he, hf⟩
  · exact absurd hlt hn
theorem padding_ok (h : RG w r cs xs) (hx : 1 ≤ xs.length) (most : Nat) (hm : most ≤ 16777215) (hbig : most + 1 ≤ xs.length) (hlt : ¬ most < (xs.headD 0).toNat) : Calls Tryd.prog 63 #[.pointer (some ⟨r, 0, none⟩), .int .i64 (most : Int)] w fun e w' => e = .returned (.agg #[.bool false, .int .u32 0, .int .i64 0]) ∧ RG w' r (cs.set 8 (.int .i64 (((xs.headD 0).toNat + 1 : Nat) : Int))) (unpad true xs) ∧ Fr (· = r) w w' := by
  refine (padding_c h hx most hm hbig).mono ?_
  rintro e w' ⟨hf, ⟨hn, _⟩ | ⟨_, he, hr⟩⟩
  · exact absurd hn hlt
  · exact ⟨he, hr, hf⟩
end
end Go.Proofs.YtokbdkbljgdcpaaDoor
