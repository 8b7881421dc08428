/- Several texts in one: Wq1. -/
import Derived.Test.YtokbdkbljgdcpaaDoorY18
import Derived.Test.YtokbdkbljgdcpaaDoorY23
import Derived.Test.YtokbdkbljgdcpaaDoorY26
/- The contract of Write: way 1. -/
namespace Go.Proofs.YtokbdkbljgdcpaaDoor
open Go.RowKit Go.Own Go.Frm
set_option linter.unusedVariables false
set_option maxRecDepth 100000
/-- what Write answers -/
def WrP (w : World) (xs : List UInt8) (e : Ending) (w' : World) : Prop := ∃ A c, e = .returned (.tuple #[.slice A xs.length c, .int .i64 0]) ∧ w'.ownsRow w.heap.size 5 1 (.slice A xs.length c) xs.length (xs.map BV) ∧ Below w.heap.size w w'
set_option maxHeartbeats 4000000 in
theorem write_1 (f : Fm) (hc : okF f) (A B : Option Addr) (n c m d : Nat) {w : World} (hG : Gl w) (hp : Rd w 1 A n (f.pay.map BV)) (hn : n ≤ 100000000) (hnc : n ≤ c) (hrd : Rd w 2 B m (scells f.list)) (hm : m ≤ 100000000) (hmay : mayB f = false) :
    Calls Tryd.prog 14 #[frV f (.slice A n c) (.slice B m d)] w fun e w' => e = .returned (.tuple #[.slice none 0 0, .int .i64 1]) ∧ Below w.heap.size w w' := by
  have hpl : f.pay.length = n := by simpa using hp.1
  have hll := rd_set_len hrd
  have hcma := fun W (hg : Gl W) (hr : Rd W 2 B m (scells f.list)) => mayBe_any f A B n c m d hg hpl hll hr (by omega) _ hmay
  obtain ⟨kind, stream, fin, eh, ack, prio, pay, flags, pad, depend, excl, weight, code, list, last, inc⟩ := f
  simp only at *
  have HG := Lib.hid (hG.alloc (.cells #[(.int .i64 kind), (.int .i64 stream), (.bool fin), (.bool eh), (.bool ack), (.bool prio), (.slice A n c), (.int .i64 flags), (.int .i64 pad), (.int .i64 depend), (.bool excl), (.int .i64 weight), (.int .u32 (code : Int)), (.slice B m d), (.int .i64 last), (.int .i64 inc)] 27))
  have HX := Lib.hid (Blk.new w 27 (frC (Fm.mk kind stream fin eh ack prio pay flags pad depend excl weight code list last inc) (.slice A n c) (.slice B m d)))
  have HB : Hid (Below w.heap.size w (w.alloc (.cells #[(.int .i64 kind), (.int .i64 stream), (.bool fin), (.bool eh), (.bool ack), (.bool prio), (.slice A n c), (.int .i64 flags), (.int .i64 pad), (.int .i64 depend), (.bool excl), (.int .i64 weight), (.int .u32 (code : Int)), (.slice B m d), (.int .i64 last), (.int .i64 inc)] 27))) := (Below.refl _ _).alloc (Nat.le_refl _) _
  have HP := Lib.hid hp
  have HR := Lib.hid hrd
  have HMA := Lib.hid hcma
  clear hG hp hrd hcma hmay hpl hll
  go_enter Tryd.func14, Tryd.ntmps14
  go_wp2_with (first
    | (go_at_call 31; (with_reducible refine (HMA.out _ HG.out (HR.out.below HB.out)).mono ?_); rintro e w1 ⟨rfl, hb⟩
       have hx5 := blk_below HX.out hb
       have hb5 := HB.out.trans (hb.mono HB.out.size)
       have hg5 := HG.out.below hb
       clear HX HB HG 
       have HX := Lib.hid hx5
       have HB := Lib.hid hb5
       have HG := Lib.hid hg5
       obtain ⟨z0, z1, z2, z3, z4, z5, z6, z7, z8, z9, z10, z11, z12, z13, z14, z15⟩ := frCells HX.out
       simp only at z0 z1 z2 z3 z4 z5 z6 z7 z8 z9 z10 z11 z12 z13 z14 z15
       clear hb hx5 hb5 hg5))
  go_ret2
  exact ⟨rfl, HB.out⟩
end Go.Proofs.YtokbdkbljgdcpaaDoor
