/- Several texts in one: Wq2. -/
import Derived.Test.YtokbdkbljgdcpaaDoorY18
import Derived.Test.YtokbdkbljgdcpaaDoorY27
import Derived.Test.YtokbdkbljgdcpaaDoorY23
import Derived.Test.YtokbdkbljgdcpaaDoorY26
/- The contract of Write: way 2. -/
namespace Go.Proofs.YtokbdkbljgdcpaaDoor
open Go.RowKit Go.Own Go.Frm
set_option linter.unusedVariables false
set_option maxRecDepth 100000
set_option maxHeartbeats 4000000 in
theorem write_2 (f : Fm) (hc : okF f) (A B : Option Addr) (n c m d : Nat) {w : World} (hG : Gl w) (hp : Rd w 1 A n (f.pay.map BV)) (hn : n ≤ 100000000) (hnc : n ≤ c) (hrd : Rd w 2 B m (scells f.list)) (hm : m ≤ 100000000) (hmay : mayB f = true) (hbig : 16777215 < (body f).length) :
    Calls Tryd.prog 14 #[frV f (.slice A n c) (.slice B m d)] w fun e w' => e = .returned (.tuple #[.slice none 0 0, .int .i64 4]) ∧ Below w.heap.size w w' := by
  have hpl : f.pay.length = n := by simpa using hp.1
  have hll := rd_set_len hrd
  have P := (may_iff f).1 hmay
  have hk : f.kind = ((f.k : Nat) : Int) := by have := P.k0; unfold Fm.k; omega
  have hs : f.stream = ((f.stream.toNat : Nat) : Int) := by have := P.s0; omega
  obtain ⟨pd, hpad⟩ : ∃ pd : Nat, f.pad = (pd : Int) := ⟨f.pad.toNat, by have := P.p0; omega⟩
  have hp0 := P.p1
  have hbl := body_len f
  rw [padA_len, padZ_len, hpad, hpl] at hbl
  obtain ⟨mu, hmu⟩ : ∃ mu, mustB f = mu := ⟨_, rfl⟩
  obtain ⟨l1, hl1⟩ : ∃ l1, mu.length = l1 := ⟨_, rfl⟩
  rw [hmu, hl1] at hbl
  have hcmu := fun W (hg : Gl W) (hr : Rd W 2 B m (scells f.list)) => mustOf_c f P hc A B n c m d hg hr hm
  rw [hmu] at hcmu
  obtain ⟨k, hkv⟩ : ∃ k, f.k = k := ⟨_, rfl⟩
  obtain ⟨s, hsv⟩ : ∃ s, f.stream.toNat = s := ⟨_, rfl⟩
  rw [hkv] at hk
  rw [hsv] at hs
  have hL2 : 16777215 < l1 + n + pd := by
    have e : (bif decide ((0 : Int) < (pd : Int)) then 1 else 0) + (bif decide ((0 : Int) < (pd : Int)) then ((pd : Int) - 1).toNat else 0) = pd := by
      cases pd with
      | zero => rfl
      | succ q => rw [show decide ((0 : Int) < ((q + 1 : Nat) : Int)) = true by rw [decide_eq_true_eq]; omega]; simp only [cond_true]; omega
    omega
  have hcma := fun W (hg : Gl W) (hr : Rd W 2 B m (scells f.list)) => mayBe_any f A B n c m d hg hpl hll hr (by omega) _ hmay
  have hmul : mu.length ≤ 700000100 := by
    rw [← hmu, mustB_len, hll]
    cases (f.prio || hW f.k) <;> cases hT f.k <;> cases hC f.k <;> cases hI f.k <;> simp <;> omega
  rw [hl1] at hmul
  obtain ⟨kind, stream, fin, eh, ack, prio, pay, flags, pad, depend, excl, weight, code, list, last, inc⟩ := f
  simp only at *
  subst hk hs hpad
  have HG := Lib.hid (hG.alloc (.cells #[(.int .i64 (k : Int)), (.int .i64 (s : Int)), (.bool fin), (.bool eh), (.bool ack), (.bool prio), (.slice A n c), (.int .i64 flags), (.int .i64 (pd : Int)), (.int .i64 depend), (.bool excl), (.int .i64 weight), (.int .u32 (code : Int)), (.slice B m d), (.int .i64 last), (.int .i64 inc)] 27))
  have HX := Lib.hid (Blk.new w 27 (frC (Fm.mk (k : Int) (s : Int) fin eh ack prio pay flags (pd : Int) depend excl weight code list last inc) (.slice A n c) (.slice B m d)))
  have HB : Hid (Below w.heap.size w (w.alloc (.cells #[(.int .i64 (k : Int)), (.int .i64 (s : Int)), (.bool fin), (.bool eh), (.bool ack), (.bool prio), (.slice A n c), (.int .i64 flags), (.int .i64 (pd : Int)), (.int .i64 depend), (.bool excl), (.int .i64 weight), (.int .u32 (code : Int)), (.slice B m d), (.int .i64 last), (.int .i64 inc)] 27))) := (Below.refl _ _).alloc (Nat.le_refl _) _
  have HP := Lib.hid hp
  have HR := Lib.hid hrd
  have HMA := Lib.hid hcma
  have HMU := Lib.hid hcmu
  have HL1 := Lib.hid hl1
  obtain ⟨ln, hln⟩ : ∃ ln, l1 + n = ln := ⟨_, rfl⟩
  obtain ⟨lp, hlp⟩ : ∃ lp, ln + pd = lp := ⟨_, rfl⟩
  have wa : IntKind.i64.wrap ((l1 : Int) + (n : Int)) = (ln : Int) := by rw [IntKind.wrap_i64]; omega
  have wb : IntKind.i64.wrap ((ln : Int) + (pd : Int)) = (lp : Int) := by rw [IntKind.wrap_i64]; omega
  have wc : (16777215 : Int) < (lp : Int) := by omega
  have wd : 16777215 < lp := by omega
  clear hG hp hrd hcma hmay hpl hll hcmu hl1 hmu hkv hsv P
  go_enter Tryd.func14, Tryd.ntmps14
  go_wp2_with (first
    | (go_at_call 31; (with_reducible refine (HMA.out _ HG.out (HR.out.below HB.out)).mono ?_); rintro e w1 ⟨rfl, hb⟩
       have hx5 := blk_below HX.out hb
       have hb5 := HB.out.trans (hb.mono HB.out.size)
       have hg5 := HG.out.below hb
       clear HX HB HG 
       have HX := Lib.hid hx5
       have HB := Lib.hid hb5
       have HG := Lib.hid hg5
       obtain ⟨z0, z1, z2, z3, z4, z5, z6, z7, z8, z9, z10, z11, z12, z13, z14, z15⟩ := frCells HX.out
       simp only at z0 z1 z2 z3 z4 z5 z6 z7 z8 z9 z10 z11 z12 z13 z14 z15
       clear hb hx5 hb5 hg5)
    | (go_at_call 32; (with_reducible refine (HMU.out _ HG.out (HR.out.below HB.out)).mono ?_); rintro e w1 ⟨A1, c1, rfl, ho1, hb⟩
       rw [HL1.out] at ho1 ⊢
       have hx5 := blk_below HX.out hb
       have hb5 := HB.out.trans (hb.mono HB.out.size)
       have hg5 := HG.out.below hb
       clear HX HB HG z0 z1 z2 z3 z4 z5 z6 z7 z8 z9 z10 z11 z12 z13 z14 z15
       have HX := Lib.hid hx5
       have HB := Lib.hid hb5
       have HG := Lib.hid hg5
       obtain ⟨z0, z1, z2, z3, z4, z5, z6, z7, z8, z9, z10, z11, z12, z13, z14, z15⟩ := frCells HX.out
       simp only at z0 z1 z2 z3 z4 z5 z6 z7 z8 z9 z10 z11 z12 z13 z14 z15
       clear hb hx5 hb5 hg5))
  go_ret2
  exact ⟨rfl, HB.out⟩
end Go.Proofs.YtokbdkbljgdcpaaDoor
