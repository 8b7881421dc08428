/- Stage 8: the law SettingsBack: the walk. -/
import Derived.Test.YthdikinpociiaaaSeM
import Derived.Test.YthdikinpociiaaaSeO
namespace Go.Proofs.Ythdikinpociiaaa
open Go.RowKit Go.Own Go.Set8
set_option linter.unusedVariables false
set_option maxRecDepth 100000
section
variable {w : World}
set_option maxHeartbeats 4000000 in
theorem may_c (v x : Va) (h : mayV v = x) : Calls Try.prog 17 #[(.agg #[.int .i64 v.tab, .bool v.push, .int .i64 v.str, .int .i64 v.win, .int .i64 v.frm, .int .i64 v.lst])] w fun e w' => e = .returned (.agg #[.int .i64 x.tab, .bool x.push, .int .i64 x.str, .int .i64 x.win, .int .i64 x.frm, .int .i64 x.lst]) ∧ Below w.heap.size w w' := by
  subst h
  obtain ⟨t, ht⟩ : ∃ t, mf v.tab 0 4294967295 4096 = t := ⟨_, rfl⟩
  obtain ⟨s, hs⟩ : ∃ t, mf v.str 0 4294967295 100 = t := ⟨_, rfl⟩
  obtain ⟨n, hn⟩ : ∃ t, mf v.win 0 2147483647 65535 = t := ⟨_, rfl⟩
  obtain ⟨f, hf⟩ : ∃ t, mf v.frm 16384 16777215 16384 = t := ⟨_, rfl⟩
  obtain ⟨l, hl⟩ : ∃ t, mf v.lst 0 4294967295 100 = t := ⟨_, rfl⟩
  have e : mayV v = ⟨t, v.push, s, n, f, l⟩ := by unfold mayV; rw [ht, hs, hn, hf, hl]
  rw [e]
  have wt := Lib.hid (mf_ways _ _ _ _ _ ht)
  have ws := Lib.hid (mf_ways _ _ _ _ _ hs)
  have wn := Lib.hid (mf_ways _ _ _ _ _ hn)
  have wf := Lib.hid (mf_ways _ _ _ _ _ hf)
  have wl := Lib.hid (mf_ways _ _ _ _ _ hl)
  clear ht hs hn hf hl e
  go_enter Try.func17, Try.ntmps17
  go_step
  go_step
  go_cut [1, 2] (fun a b wx => a = .pointer (some ⟨w.heap.size, 0, none⟩) ∧ b = .pointer (some ⟨w.heap.size + 1, 0, none⟩) ∧ wx = ((w.alloc (.cells #[.int .i64 v.tab, .bool v.push, .int .i64 v.str, .int .i64 v.win, .int .i64 v.frm, .int .i64 v.lst] 23)).alloc (.cells #[.int .i64 0, .bool false, .int .i64 0, .int .i64 0, .int .i64 0, .int .i64 0] 23)))
  case first =>
    go_wp2
    go_meet
    case rel => exact ⟨rfl, rfl, rfl⟩
  case' rest => obtain ⟨rfl, rfl, rfl⟩ := hcut
  go_step
  go_step
  go_cut [10] (fun a wx => wx = ((w.alloc (.cells #[.int .i64 t, .bool v.push, .int .i64 v.str, .int .i64 v.win, .int .i64 v.frm, .int .i64 v.lst] 23)).alloc (.cells #[.int .i64 0, .bool false, .int .i64 0, .int .i64 0, .int .i64 0, .int .i64 0] 23)))
  case first =>
    rcases wt.out with ⟨h1, rfl⟩ | ⟨h1, h2, rfl⟩ | ⟨h1, h2, rfl⟩
    all_goals
      go_wp2
      go_meet
      case rel => rfl
  case' rest => subst hcut
  go_step
  go_step
  go_cut [19] (fun a wx => wx = ((w.alloc (.cells #[.int .i64 t, .bool v.push, .int .i64 s, .int .i64 v.win, .int .i64 v.frm, .int .i64 v.lst] 23)).alloc (.cells #[.int .i64 0, .bool false, .int .i64 0, .int .i64 0, .int .i64 0, .int .i64 0] 23)))
  case first =>
    rcases ws.out with ⟨h1, rfl⟩ | ⟨h1, h2, rfl⟩ | ⟨h1, h2, rfl⟩
    all_goals
      go_wp2
      go_meet
      case rel => rfl
  case' rest => subst hcut
  go_step
  go_step
  go_cut [28] (fun a wx => wx = ((w.alloc (.cells #[.int .i64 t, .bool v.push, .int .i64 s, .int .i64 n, .int .i64 v.frm, .int .i64 v.lst] 23)).alloc (.cells #[.int .i64 0, .bool false, .int .i64 0, .int .i64 0, .int .i64 0, .int .i64 0] 23)))
  case first =>
    rcases wn.out with ⟨h1, rfl⟩ | ⟨h1, h2, rfl⟩ | ⟨h1, h2, rfl⟩
    all_goals
      go_wp2
      go_meet
      case rel => rfl
  case' rest => subst hcut
  go_step
  go_step
  go_cut [37] (fun a wx => wx = ((w.alloc (.cells #[.int .i64 t, .bool v.push, .int .i64 s, .int .i64 n, .int .i64 f, .int .i64 v.lst] 23)).alloc (.cells #[.int .i64 0, .bool false, .int .i64 0, .int .i64 0, .int .i64 0, .int .i64 0] 23)))
  case first =>
    rcases wf.out with ⟨h1, rfl⟩ | ⟨h1, h2, rfl⟩ | ⟨h1, h2, rfl⟩
    all_goals
      go_wp2
      go_meet
      case rel => rfl
  case' rest => subst hcut
  go_step
  go_step
  go_cut [46] (fun a wx => wx = ((w.alloc (.cells #[.int .i64 t, .bool v.push, .int .i64 s, .int .i64 n, .int .i64 f, .int .i64 l] 23)).alloc (.cells #[.int .i64 0, .bool false, .int .i64 0, .int .i64 0, .int .i64 0, .int .i64 0] 23)))
  case first =>
    rcases wl.out with ⟨h1, rfl⟩ | ⟨h1, h2, rfl⟩ | ⟨h1, h2, rfl⟩
    all_goals
      go_wp2
      go_meet
      case rel => rfl
  case' rest => subst hcut
  go_wp2
  exact bodyPost_ret (v := .agg #[.int .i64 t, .bool v.push, .int .i64 s, .int .i64 n, .int .i64 f, .int .i64 l]) (by simp [results, Try.results17, go_sem]) rfl ⟨rfl, bl2 _ _ _⟩
end
end Go.Proofs.Ythdikinpociiaaa
