/- Stage 8: Default, Apply: the program's. -/
import Derived.Test.YthdikinpociiaaaSeA
import Derived.Test.YthdikinpociiaaaBase
import Derived.Test.YthdikinpociiaaaRows
import Derived.ProofKit
import Derived.BigQuiet
namespace Go.Proofs.Ythdikinpociiaaa
open Go.RowKit Go.Own Go.Set8
set_option linter.unusedVariables false
set_option maxRecDepth 100000
theorem bl1 (w : World) (a : Obj) : Below w.heap.size w (w.alloc a) := (Below.refl _ _).alloc (Nat.le_refl _) _
theorem bl2 (w : World) (a b : Obj) : Below w.heap.size w ((w.alloc a).alloc b) := (bl1 w a).alloc (by simp) _
theorem bl3 (w : World) (a b c : Obj) : Below w.heap.size w (((w.alloc a).alloc b).alloc c) := (bl2 w a b).alloc (by simp; omega) _
theorem bl4 (w : World) (a b c d : Obj) : Below w.heap.size w ((((w.alloc a).alloc b).alloc c).alloc d) := (bl3 w a b c).alloc (by simp; omega) _
section
variable {w : World}
theorem default_c : Calls Try.prog 18 #[] w fun e w' => e = .returned (.agg #[.int .i64 4096, .bool true, .int .i64 (-1), .int .i64 65535, .int .i64 16384, .int .i64 (-1)]) ∧ Below w.heap.size w w' := by
  go_enter Try.func18, Try.ntmps18
  go_wp2
  exact bodyPost_ret (v := .agg #[.int .i64 4096, .bool true, .int .i64 (-1), .int .i64 65535, .int .i64 16384, .int .i64 (-1)]) (by simp [results, Try.results18, go_sem]) rfl ⟨rfl, bl1 _ _⟩
theorem most_c (b : Bool) : Calls Try.prog 24 #[.bool b] w fun e w' => e = .returned (.int .u32 (if b then 0 else 1)) ∧ w' = w := by
  cases b
  all_goals
    go_enter Try.func24, Try.ntmps24
    go_wp2
    go_ret
    exact ⟨rfl, rfl⟩
theorem pushN_c (b : Bool) : Calls Try.prog 25 #[.bool b] w fun e w' => e = .returned (.int .i64 (pushN b)) ∧ w' = w := by
  cases b
  all_goals
    go_enter Try.func25, Try.ntmps25
    go_wp2
    go_ret
    exact ⟨rfl, rfl⟩
set_option maxHeartbeats 4000000 in
theorem wrong_c (a : Int) (n : Nat) (srv : Bool) (c : Int) (h : wrong a n srv = c) : Calls Try.prog 19 #[(.agg #[.int .i64 a, .int .u32 (n : Int)]), .bool srv] w fun e w' => e = .returned (.int .u32 c) ∧ Below w.heap.size w w' := by
  have B1 := Lib.hid (bl1 w (.cells #[.int .i64 a, .int .u32 (n : Int)] 35))
  rcases wrong_ways h with ⟨rfl, h1, rfl⟩ | ⟨rfl, rfl, rfl, rfl⟩ | ⟨rfl, rfl, rfl, rfl⟩ | ⟨rfl, rfl, rfl⟩ | ⟨rfl, h1, rfl⟩ | ⟨rfl, h1, rfl⟩ | ⟨rfl, h1, rfl⟩ | ⟨rfl, h1, rfl⟩ | ⟨rfl, h1, h2, rfl⟩ | ⟨h1, h2, h3, rfl⟩
  case inl =>
    cases srv
    all_goals
      have h2 : ¬ n ≤ 1 := by omega
      have h3 : 0 < n := by omega
      clear h
      go_enter Try.func19, Try.ntmps19
      go_wp2
      go_quiet (first | (go_at_call 24; exact Calls.quiet_of_same (most_c _)))
      go_wp2
      go_ret
      exact ⟨rfl, below_drewN B1.out _⟩
  case inr.inl =>
    clear h
    go_enter Try.func19, Try.ntmps19
    go_wp2
    go_quiet (first | (go_at_call 24; exact Calls.quiet_of_same (most_c _)))
    go_wp2
    go_ret
    exact ⟨rfl, below_drewN B1.out _⟩
  case inr.inr.inl =>
    clear h
    go_enter Try.func19, Try.ntmps19
    go_wp2
    go_quiet (first | (go_at_call 24; exact Calls.quiet_of_same (most_c _)))
    go_wp2
    go_ret
    exact ⟨rfl, below_drewN B1.out _⟩
  case inr.inr.inr.inl =>
    cases srv
    all_goals
      clear h
      go_enter Try.func19, Try.ntmps19
      go_wp2
      go_quiet (first | (go_at_call 24; exact Calls.quiet_of_same (most_c _)))
      go_wp2
      go_ret
      exact ⟨rfl, below_drewN B1.out _⟩
  case inr.inr.inr.inr.inl =>
    clear h
    go_enter Try.func19, Try.ntmps19
    go_wp2
    go_ret
    exact ⟨rfl, B1.out⟩
  case inr.inr.inr.inr.inr.inl =>
    have h2 : ¬ 2147483647 < n := by omega
    clear h
    go_enter Try.func19, Try.ntmps19
    go_wp2
    go_ret
    exact ⟨rfl, B1.out⟩
  case inr.inr.inr.inr.inr.inr.inl =>
    clear h
    go_enter Try.func19, Try.ntmps19
    go_wp2
    go_ret
    exact ⟨rfl, B1.out⟩
  case inr.inr.inr.inr.inr.inr.inr.inl =>
    have h2 : ¬ n < 16384 := by omega
    clear h
    go_enter Try.func19, Try.ntmps19
    go_wp2
    go_ret
    exact ⟨rfl, B1.out⟩
  case inr.inr.inr.inr.inr.inr.inr.inr.inl =>
    have h3 : ¬ n < 16384 := by omega
    have h4 : ¬ 16777215 < n := by omega
    clear h
    go_enter Try.func19, Try.ntmps19
    go_wp2
    go_ret
    exact ⟨rfl, B1.out⟩
  case inr.inr.inr.inr.inr.inr.inr.inr.inr =>
    clear h
    go_enter Try.func19, Try.ntmps19
    go_wp2
    go_ret
    exact ⟨rfl, B1.out⟩
end
section
variable {w : World}
set_option maxHeartbeats 4000000 in
theorem with_c (v : Va) (a : Int) (n : Nat) (hn : n < 4294967296) (x : Va) (h : withV v a n = x) : Calls Try.prog 20 #[(.agg #[.int .i64 v.tab, .bool v.push, .int .i64 v.str, .int .i64 v.win, .int .i64 v.frm, .int .i64 v.lst]), (.agg #[.int .i64 a, .int .u32 (n : Int)])] w fun e w' => e = .returned (.agg #[.int .i64 x.tab, .bool x.push, .int .i64 x.str, .int .i64 x.win, .int .i64 x.frm, .int .i64 x.lst]) ∧ Below w.heap.size w w' := by
  have hw : IntKind.i64.wrap (n : Int) = (n : Int) := by rw [IntKind.wrap_i64]; omega
  rcases with_ways h with ⟨rfl, rfl⟩ | ⟨rfl, rfl, rfl⟩ | ⟨rfl, h1, rfl⟩ | ⟨rfl, rfl⟩ | ⟨rfl, rfl⟩ | ⟨rfl, rfl⟩ | ⟨rfl, rfl⟩ | ⟨h1, h2, h3, h4, h5, h6, rfl⟩
  case inl =>
    clear h
    go_enter Try.func20, Try.ntmps20
    go_wp2
    exact bodyPost_ret (v := .agg #[.int .i64 (n : Int), .bool v.push, .int .i64 v.str, .int .i64 v.win, .int .i64 v.frm, .int .i64 v.lst]) (by simp [results, Try.results20, go_sem]) rfl ⟨rfl, bl3 _ _ _ _⟩
  case inr.inl =>
    clear h
    go_enter Try.func20, Try.ntmps20
    go_wp2
    exact bodyPost_ret (v := .agg #[.int .i64 v.tab, .bool true, .int .i64 v.str, .int .i64 v.win, .int .i64 v.frm, .int .i64 v.lst]) (by simp [results, Try.results20, go_sem]) rfl ⟨rfl, bl3 _ _ _ _⟩
  case inr.inr.inl =>
    have h2 : ((n : Int) == 1) = false := by simp; omega
    clear h
    go_enter Try.func20, Try.ntmps20
    go_wp2
    exact bodyPost_ret (v := .agg #[.int .i64 v.tab, .bool false, .int .i64 v.str, .int .i64 v.win, .int .i64 v.frm, .int .i64 v.lst]) (by simp [results, Try.results20, go_sem]) rfl ⟨rfl, bl3 _ _ _ _⟩
  case inr.inr.inr.inl =>
    clear h
    go_enter Try.func20, Try.ntmps20
    go_wp2
    exact bodyPost_ret (v := .agg #[.int .i64 v.tab, .bool v.push, .int .i64 (n : Int), .int .i64 v.win, .int .i64 v.frm, .int .i64 v.lst]) (by simp [results, Try.results20, go_sem]) rfl ⟨rfl, bl3 _ _ _ _⟩
  case inr.inr.inr.inr.inl =>
    clear h
    go_enter Try.func20, Try.ntmps20
    go_wp2
    exact bodyPost_ret (v := .agg #[.int .i64 v.tab, .bool v.push, .int .i64 v.str, .int .i64 (n : Int), .int .i64 v.frm, .int .i64 v.lst]) (by simp [results, Try.results20, go_sem]) rfl ⟨rfl, bl3 _ _ _ _⟩
  case inr.inr.inr.inr.inr.inl =>
    clear h
    go_enter Try.func20, Try.ntmps20
    go_wp2
    exact bodyPost_ret (v := .agg #[.int .i64 v.tab, .bool v.push, .int .i64 v.str, .int .i64 v.win, .int .i64 (n : Int), .int .i64 v.lst]) (by simp [results, Try.results20, go_sem]) rfl ⟨rfl, bl3 _ _ _ _⟩
  case inr.inr.inr.inr.inr.inr.inl =>
    clear h
    go_enter Try.func20, Try.ntmps20
    go_wp2
    exact bodyPost_ret (v := .agg #[.int .i64 v.tab, .bool v.push, .int .i64 v.str, .int .i64 v.win, .int .i64 v.frm, .int .i64 (n : Int)]) (by simp [results, Try.results20, go_sem]) rfl ⟨rfl, bl3 _ _ _ _⟩
  case inr.inr.inr.inr.inr.inr.inr =>
    clear h
    go_enter Try.func20, Try.ntmps20
    go_wp2
    exact bodyPost_ret (v := .agg #[.int .i64 x.tab, .bool x.push, .int .i64 x.str, .int .i64 x.win, .int .i64 x.frm, .int .i64 x.lst]) (by simp [results, Try.results20, go_sem]) rfl ⟨rfl, bl3 _ _ _ _⟩
end
end Go.Proofs.Ythdikinpociiaaa
