/- Several texts in one: Fy. -/
import Derived.Test.YtokbdkbljgdcpaaDoorY40
import Derived.Test.YtokbdkbljgdcpaaDoorY11
/- told: what Next answers. -/
namespace Go.Proofs.YtokbdkbljgdcpaaDoor
open Go.RowKit Go.Own Go.Frm
set_option linter.unusedVariables false
set_option maxRecDepth 100000

theorem res_ffb {fn : Func} {p q r : Tmp} (h : fn.results = #[.cell p 27, .cell q 46, .tmp r]) {tmps : Array Value} {w : World} {g d : Nat} {cs : List Value} {a b c v : Value} (hl : cs.length = 16) (hp : tmps.getD p undef = .pointer (some ⟨g, 0, none⟩)) (hq : tmps.getD q undef = .pointer (some ⟨d, 0, none⟩)) (hr : tmps.getD r undef = v) (hb : Blk w g 27 cs) (hd : Blk w d 46 [a, b, c]) :
    (results fn tmps).run Tryd.prog w = .ok (.tuple #[.agg cs.toArray, .agg #[a, b, c], v]) w := by
  have hp' : tmps[p]?.getD undef = .pointer (some ⟨g, 0, none⟩) := by simpa using hp
  have hq' : tmps[q]?.getD undef = .pointer (some ⟨d, 0, none⟩) := by simpa using hq
  have hr' : tmps[r]?.getD undef = v := by simpa using hr
  have h1 := run_loadVar_row (P := Tryd.prog) w g 27 27 cs.toArray (0, 0) _ hb Tryd.underlying27 rfl (by rw [info_frame]; simp [hl])
  have h2 := run_loadVar_row (P := Tryd.prog) w d 46 46 #[a, b, c] (0, 0) _ hd Tryd.underlying46 rfl (by kernel_rfl)
  simp [results, h, hp', hq', hr', asAddr, h1, h2]
theorem blk_new3 (w : World) (a b o : Obj) (t : TypeId) (cs : List Value) : Blk ((((w.alloc a).alloc b).alloc (.cells cs.toArray t)).alloc o) (w.heap.size + 1 + 1) t cs := by
  have h := (Blk.new ((w.alloc a).alloc b) t cs).alloc o
  have e : ((w.alloc a).alloc b).heap.size = w.heap.size + 1 + 1 := by simp
  rwa [e] at h
theorem blk_new4 (w : World) (a b c : Obj) (t : TypeId) (cs : List Value) : Blk ((((w.alloc a).alloc b).alloc c).alloc (.cells cs.toArray t)) (w.heap.size + 1 + 1 + 1) t cs := by
  have h := Blk.new (((w.alloc a).alloc b).alloc c) t cs
  have e : (((w.alloc a).alloc b).alloc c).heap.size = w.heap.size + 1 + 1 + 1 := by simp
  rwa [e] at h
theorem below4 (w : World) (a b c d : Obj) : Below w.heap.size w ((((w.alloc a).alloc b).alloc c).alloc d) := ((((Below.refl _ w).alloc (Nat.le_refl _) a).alloc (by simp) b).alloc (by simp; omega) c).alloc (by simp; omega) d
section
variable {w : World} {p : Nat} {v m d : Value}
set_option maxHeartbeats 4000000 in
theorem told_keep (F : Fm) (A B : Option Addr) (n c k e : Nat) (b : Bool) (cc : Nat) (z : Int) (hb : b = false ∨ (b = true ∧ (z == 0) = false)) (g : Value) :
    Calls Tryd.prog 39 #[g, frV F (.slice A n c) (.slice B k e), .agg #[.bool b, .int .u32 (cc : Int), .int .i64 z]] w fun en w' => en = .returned (.tuple #[frV F (.slice A n c) (.slice B k e), .agg #[.bool b, .int .u32 (cc : Int), .int .i64 z], .bool true]) ∧ Below w.heap.size w w' := by
  rcases hb with rfl | ⟨rfl, hz⟩
  · go_enter Tryd.func39, Tryd.ntmps39
    go_wp2
    go_region
    all_goals
      go_wp2
      exact bodyPost_ret (res_ffb (p := 6) (q := 7) (r := 8) rfl rfl rfl rfl rfl (blk_drew (blk_new3 _ _ _ _ _ _)) (blk_drew (blk_new4 _ _ _ _ _ _))) rfl ⟨rfl, below_drewN (below4 _ _ _ _ _) 1⟩
  · go_enter Tryd.func39, Tryd.ntmps39
    go_wp2
    go_region
    all_goals
      go_wp2
      exact bodyPost_ret (res_ffb (p := 6) (q := 7) (r := 8) rfl rfl rfl rfl rfl (blk_drew (blk_new3 _ _ _ _ _ _)) (blk_drew (blk_new4 _ _ _ _ _ _))) rfl ⟨rfl, below_drewN (below4 _ _ _ _ _) 1⟩
end
end Go.Proofs.YtokbdkbljgdcpaaDoor
