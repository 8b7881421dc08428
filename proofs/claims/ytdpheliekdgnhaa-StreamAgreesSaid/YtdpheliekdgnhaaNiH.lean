/- Stage 9: the program's streams of a connection: a new one. -/
import Derived.Test.YtdpheliekdgnhaaNiG
namespace Go.Proofs.Ytdpheliekdgnhaa
open Go.RowKit Go.Own Go.Sm
set_option linter.unusedVariables false
set_option linter.unusedSimpArgs false
set_option maxRecDepth 100000
/-- the last thing comes first -/
theorem st_front {S : Nat → Prop} {w0 w : World} {L : List Ob} {O : Ob} (s : St S w0 w (L ++ [O])) : St S w0 w (O :: L) := by
  obtain ⟨⟨T, hT, hTS⟩, hf⟩ := s
  obtain ⟨G, H, hG, hH, hGH, rfl⟩ := hT.app
  obtain ⟨F, H2, hO, hF, hH2, hd, rfl⟩ := hH
  refine ⟨⟨_, ⟨F, G, hO, hF, hG, fun i hi hn => hGH i hn (.inl hi), rfl⟩, fun i hi => hTS i ?_⟩, hf⟩
  rcases hi with hi | hi
  · exact .inr (.inl hi)
  · exact .inl hi
section
variable {S : Nat → Prop} {w0 w : World} {L : List Ob} {p b1 b2 : Nat} {x : Idv}
set_option maxHeartbeats 2000000 in
theorem newGroup_c (w : World) (n z : Int) (hz : posV n = z) : Calls Try.prog 38 #[.int .i64 n] w fun r w' => ∃ b, r = .returned (.agg #[.map (some b), .int .i64 z]) ∧ St (fun _ => False) w w' [MSo b []] := by
  have HZ := Lib.hid hz
  have hmm := @run_makeMap Try.prog
  clear hz
  go_enter Try.func38, Try.ntmps38
  go_wp2_with (first
    | (go_at_call 43; (with_reducible refine (gset_c _ _ _ (by simp [go_sem]; rfl) (by simp [go_sem]) n z HZ.out).mono ?_); rintro e w1 ⟨rfl, rfl⟩))
  refine bodyPost_ret (v := .agg #[.map (some (w.heap.size + 1)), .int .i64 z]) (by simp [results, Try.results38, go_sem]) rfl ⟨_, rfl, ?_⟩
  have h1 := (MSet.made (w.alloc (Obj.cells #[.map (some (w.heap.size + 1)), .int .i64 z] 70)))
  have e1 : (w.alloc (Obj.cells #[.map (some (w.heap.size + 1)), .int .i64 z] 70)).heap.size = w.heap.size + 1 := by simp
  rw [e1] at h1
  have h2 := h1.same (Below.heap_alloc _ (Obj.cells #[.map (some (w.heap.size + 1)), .int .i64 z] 70) _ h1.lt)
  refine St.made (framed_MSo _ _) ⟨h2, rfl⟩ (fun i hi => by obtain rfl : i = w.heap.size + 1 := hi; omega) ?_
  exact (((Below.refl _ _).alloc (Nat.le_refl _) _).alloc (by simp) _).alloc (by simp; omega) _
set_option maxHeartbeats 2000000 in
theorem new_c (w : World) (srv : Bool) (most : Int) (x : Idv) (hx : newI srv most = x) : Calls Try.prog 13 #[.bool srv, .int .i64 most] w fun r w' => ∃ p b1 b2, r = .returned (.pointer (some ⟨p, 0, none⟩)) ∧ St (fun _ => False) w w' (IdL p b1 b2 x []) := by
  subst hx
  obtain ⟨z, hz⟩ : ∃ z, posV most = z := ⟨_, rfl⟩
  have HZ := Lib.hid hz
  have HM : Hid (posV 2147483647 = 2147483647) := by unfold Hid; decide
  unfold newI
  rw [hz]
  clear hz
  cases srv
  all_goals
    go_enter Try.func13, Try.ntmps13
    go_wp2_with (first
      | (go_at_call 37; (with_reducible refine (choose_t _ _).mono ?_); rintro e w1 ⟨rfl, rfl⟩)
      | (go_at_call 37; (with_reducible refine (choose_f _ _).mono ?_); rintro e w1 ⟨rfl, rfl⟩)
      | (go_at_call 38; (with_reducible refine (newGroup_c _ _ _ HZ.out).mono ?_); rintro e w1 ⟨b1, rfl, s1⟩
         have H1 := Lib.hid s1
         clear s1)
      | (go_at_call 38; (with_reducible refine (newGroup_c _ _ _ HM.out).mono ?_); rintro e w2 ⟨b2, rfl, s2⟩
         have H2 := Lib.hid (St.add H1.out s2)
         clear s2))
    go_ret
    refine ⟨_, b1, b2, rfl, ?_⟩
    exact st_front (St.block H2.out 73 (idC b1 b2 ⟨_, 0, _, z, 2147483647, [], []⟩))
end
end Go.Proofs.Ytdpheliekdgnhaa
