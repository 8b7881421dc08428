/- Stage 11: lists of texts of the law's own. -/
import Derived.Test.YtbjjphpkpmikjaaKiX
import Derived.Test.YtbjjphpkpmikjaaKiW
namespace Go.Proofs.Ytbjjphpkpmikjaa
open Go.RowKit Go.Own Go.Sch
set_option linter.unusedVariables false
set_option linter.unusedSimpArgs false
set_option maxRecDepth 100000
abbrev sv (xs : List UInt8) : Value := .string ⟨xs.toArray⟩
theorem infoSt : (Try.prog.info? 9).map (fun i => (i.zero, i.size, i.bytes)) = some (some (.string ⟨#[]⟩), 1, 16) := by kernel_rfl
theorem sv_one (l : List (List UInt8)) : ∀ u ∈ l.map sv, u.oneCell' = true := by
  intro u hu
  obtain ⟨x, _, rfl⟩ := List.mem_map.1 hu
  rfl
section
variable {S : Nat → Prop} {w0 w w' : World} {v : Value} {l : List (List UInt8)} {L : List Ob} {A0 A1 : Ob}
theorem append_s (s : St S w0 w (A0 :: A1 :: QO 9 1 v l.length (l.map sv) :: L)) (x : List UInt8) {A : Option Addr} {c : Nat} (hr : Rd w 1 A 1 [sv x]) (hb : l.length ≤ 1000000) :
    ∃ A' c' w', (Builtin.append_ #[47, 47] 47 #[v, .slice A 1 c]).run Try.prog w = .ok (.slice A' (l.length + 1) c') w' ∧ St S w0 w' (A0 :: A1 :: QO 9 1 (.slice A' (l.length + 1) c') (l ++ [x]).length ((l ++ [x]).map sv) :: L) := by
  obtain ⟨X, h, _, _, go⟩ := St.focus2 s
  obtain ⟨A', c', w', F', hrun, h2, h3, h4⟩ := run_append_qu (ty := 47) (c := c) Try.underlying47 infoSt rfl (by omega) (by intro u hu; simp [Value.cells] at hu; rcases hu with rfl; rfl) h hr (fun u hu => by rw [List.mem_singleton.1 hu]; rfl) (by omega) (by omega)
  refine ⟨A', c', w', hrun, ?_⟩
  have := go w' (QO 9 1 (.slice A' (l.length + 1) c') (l ++ [x]).length ((l ++ [x]).map sv)) [] (St.changed (framed_QO ..) (by rw [List.length_append, List.map_append]; exact h2) h4 h3)
  rwa [List.append_nil] at this
theorem rd_sv1 (W : World) (x : List UInt8) : Rd (W.alloc (.cells #[sv x] 9)) 1 (some ⟨W.heap.size, 0, none⟩) 1 [sv x] :=
  Rd.of_blk (n := 1) (size := 1) (Blk.new W 9 [sv x]) (by simp)
/-- the first text of some, and the others -/
theorem first_s {x : List UInt8} {A : Option Addr} {m d : Nat} (s : St S w0 w (A0 :: A1 :: QO 9 1 (.slice A m d) (x :: l).length ((x :: l).map sv) :: L)) (hm : (x :: l).length = m) :
    ∃ b o, A = some ⟨b, o, none⟩ ∧ m ≤ d ∧ d ≤ maxLen ∧ (∀ w', St S w0 w' (A0 :: A1 :: QO 9 1 (.slice A m d) (x :: l).length ((x :: l).map sv) :: L) → w'.cell? ⟨b, o, none⟩ = some (sv x) ∧ b < w'.heap.size) ∧
      ∀ w' L', St S w0 w' (A0 :: A1 :: QO 9 1 (.slice A m d) (x :: l).length ((x :: l).map sv) :: L') → St S w0 w' (A0 :: A1 :: QO 9 1 (.slice (some ⟨b, if d = 1 then o else o + 1, none⟩) (m - 1) (d - 1)) l.length (l.map sv) :: L') := by
  obtain ⟨X, h, _⟩ := St.focus2 s
  rw [hm] at h
  obtain ⟨n, rfl⟩ : ∃ n, m = n + 1 := ⟨m - 1, by rw [← hm]; simp⟩
  have hn : l.length = n := by simpa using hm
  obtain ⟨b, o, c, he, h3, h5, _⟩ := Qu.nonempty h
  injection he with he1 _ he2
  subst he1 he2
  refine ⟨b, o, rfl, h3, h5, fun w' s' => ?_, fun w' L' s' => ?_⟩
  · obtain ⟨X', h', _⟩ := St.focus2 s'
    rw [hm] at h'
    exact h'.at_ (j := 0) (u := sv x) rfl
  · refine St.as2 s' (framed_QO ..) fun F hF => ?_
    rw [hm] at hF
    have := Qu.tail hF
    rw [Nat.add_sub_cancel, hn]
    exact this
theorem first_at {x : List UInt8} {b o m d : Nat} (s : St S w0 w (A0 :: A1 :: QO 9 1 (.slice (some ⟨b, o, none⟩) m d) m ((x :: l).map sv) :: L)) (hm : (x :: l).length = m) :
    w.cell? ⟨b, o, none⟩ = some (sv x) ∧ b < w.heap.size := by
  obtain ⟨X, h, _⟩ := St.focus2 s
  exact h.at_ (j := 0) (u := sv x) rfl
theorem tail_s {x : List UInt8} {b o m d : Nat} (s : St S w0 w (A0 :: A1 :: QO 9 1 (.slice (some ⟨b, o, none⟩) (m + 1) d) (m + 1) ((x :: l).map sv) :: L)) :
    St S w0 w (A0 :: A1 :: QO 9 1 (.slice (some ⟨b, if d = 1 then o else o + 1, none⟩) m (d - 1)) m (l.map sv) :: L) := by
  refine St.as2 s (framed_QO ..) fun F hF => ?_
  exact Qu.tail hF
end
/-- the queue is no longer behind what comes, and the connection's window not below 0 -/
theorem next_small {q q' : List Fl} {W : Int} {F cap id n : Nat} {z : Bool} (h : SdOk q W F) (h0 : 0 ≤ W) (hr : nextQ W F cap q = some (id, n, z, q')) : SdOk q' (W - (n : Int)) F ∧ 0 ≤ W - (n : Int) ∧ q'.length ≤ q.length := by
  obtain ⟨a, f, b, h1, h2, h3, h4, h5, h6, h7, h8, h9, h10⟩ := nextQ_some (by have := h.f1; omega) hr
  have hW : 0 ≤ W - (n : Int) := by
    rcases Nat.eq_zero_or_pos n with h | h
    · omega
    · have := (h9 h).2; omega
  refine ⟨h.next hr (by omega), hW, ?_⟩
  rcases h10 with ⟨_, _, _, rfl⟩ | ⟨_, _, rfl⟩
  · rw [h1]; simp
  · rw [h1]; simp
theorem cell_to11 {w w' : World} (hb : Below w.heap.size w w') {p : Addr} {v : Value} (h : w.cell? p = some v) : w'.cell? p = some v := by
  rw [hb.cell (World.block_lt_of_cell? _ _ h)]
  exact h
end Go.Proofs.Ytbjjphpkpmikjaa
