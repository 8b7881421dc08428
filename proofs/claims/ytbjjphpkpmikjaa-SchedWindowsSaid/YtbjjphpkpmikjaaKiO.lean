/- Stage 11: control frames in memory: the program's Control. -/
import Derived.Test.YtbjjphpkpmikjaaKiN
namespace Go.Own
open Go.RowKit
set_option linter.unusedVariables false
theorem st_mid {S : Nat → Prop} {w0 w : World} {P R R' : List Ob} (h : ∀ T, Sep w R T → Sep w R' T) (s : St S w0 w (P ++ R)) : St S w0 w (P ++ R') := by
  obtain ⟨⟨T, hT, hTS⟩, hf⟩ := s
  obtain ⟨G, H, h1, h2, h3, rfl⟩ := Sep.app hT
  exact ⟨⟨_, Sep.mk_app h1 (h _ h2) h3, hTS⟩, hf⟩
theorem sep_in {w : World} {l L : List Ob} {O : Ob} (T : Nat → Prop) (h : Sep w (many l :: (L ++ [O])) T) : Sep w (many (l ++ [O]) :: L) T := by
  have h1 := sep_many.1 h
  obtain ⟨G, H, h2, h3, h4, rfl⟩ := Sep.app h1
  have h5 : Sep w ([O] ++ L ++ []) H := sep_swap (by simpa using h3)
  refine sep_many.2 ?_
  have h6 := Sep.mk_app h2 h5 h4
  simpa using h6
theorem sep_out {w : World} {l L : List Ob} {O : Ob} (T : Nat → Prop) (h : Sep w (many (O :: l) :: L) T) : Sep w (many l :: (L ++ [O])) T := by
  have h1 : Sep w ([O] ++ (l ++ L) ++ []) T := by simpa using sep_many.1 h
  have h2 := sep_swap h1
  exact sep_many.2 (by simpa using h2)
theorem own_none (w : World) (t : TypeId) : (w.alloc (.cells #[] t)).ownsRow w.heap.size t 1 (.slice (some ⟨w.heap.size, 0, none⟩) 0 0) 0 [] := by
  have := own_of_blk (n := 0) (size := 1) (cap := 0) (Blk.new w t []) rfl (by omega) (by simp [maxLen])
  have h2 := own_up' (B := w.heap.size) this (by intro g hg; simp [Value.ownBlock] at hg; omega)
  simpa using h2
end Go.Own
namespace Go.Proofs.Ytbjjphpkpmikjaa
open Go.RowKit Go.Own Go.Sch
set_option linter.unusedVariables false
set_option linter.unusedSimpArgs false
set_option maxRecDepth 100000
theorem EB11 : Elt Try.prog 33 5 (.int .u8 0) 1 1 := by
  refine ⟨Try.underlying33, ?_, rfl, by omega⟩
  have h : (Try.prog.info? 5).map (fun i => (i.zero, i.size, i.bytes)) = some (some (.int .u8 0), 1, 1) := by kernel_rfl
  obtain ⟨i, hi, hx⟩ := Option.map_eq_some_iff.1 h
  simp only [Prod.mk.injEq] at hx
  exact ⟨i, hi, hx⟩
theorem infoB : (Try.prog.info? 33).map (fun i => (i.zero, i.size, i.bytes)) = some (some (.slice none 0 0), 1, 24) := by kernel_rfl
set_option maxHeartbeats 4000000 in
theorem clone_c {w : World} {bb oo n c : Nat} {xs : List UInt8} (hr : Rd w 1 (some ⟨bb, oo, none⟩) n (xs.map BV)) (hn : n ≤ 100000) :
    Calls Try.prog 25 #[.slice (some ⟨bb, oo, none⟩) n c] w fun e w' => ∃ A' c', e = .returned (.slice A' n c') ∧ St (fun _ => False) w w' [SLo w.heap.size 5 1 (.slice A' n c') n (xs.map BV)] := by
  have ho := own_none w 5
  have hr2 := hr.below ((Below.refl _ _).alloc (Nat.le_refl _) (.cells #[] 5))
  have HO := Lib.hid ho
  have HR := Lib.hid hr2
  have hb : Below w.heap.size w (w.alloc (.cells #[] 5)) := (Below.refl _ _).alloc (Nat.le_refl _) _
  have HB := Lib.hid hb
  have HN := Lib.hid hn
  have hnil : (binOp .eql 33 (.slice (some ⟨bb, oo, none⟩) n c) (.slice none 0 0)).run Try.prog w = .ok (.bool false) w := by
    kernel_rfl
  clear ho hr2 hr hb hn
  go_enter Try.func25, Try.ntmps25
  go_wp2_with (first
    | (at_builtin
       refine wpList_append_new rfl (.tmp 5) (.tmp 6) 33 rfl EB11 (.slice (some ⟨w.heap.size, 0, none⟩) 0 0) rfl HO.out (some ⟨bb, oo, none⟩) n c (xs.map BV) rfl HR.out (BV_one _) (by have := HN.out; omega) (by have := HN.out; unfold maxLen; omega) (by simp) ?_
       intro A' c' w3 ho3 hf3 h3
       have H3 : Hid (St (fun _ => False) w w3 [SLo w.heap.size 5 1 (.slice A' n c') n (xs.map BV)]) := by
         refine St.made_own ho3 (HB.out.trans ((hf3.below (B := w.heap.size) HB.out.size (fun i hi h => ?_))))
         simp [Value.ownBlock] at h
         omega
       clear ho3 hf3 h3))
  go_ret
  exact ⟨_, _, rfl, H3.out⟩
section
variable {S : Nat → Prop} {w0 w : World} {L : List Ob} {p : Nat} {fs : List (List UInt8)} {q : List Fl} {W : Int} {F : Nat} {cv qv cv0 qv0 : Value} {C : List (Value × List UInt8)} {r : Nat} {t : TypeId} {cs : List Value}
/-- a frame is put behind the others, and is one of them -/
theorem append_k {v : Value} {xs : List UInt8} (s : St S w0 w (SdM p cv0 qv0 cv qv C q W F (L ++ [frO (v, xs)]))) (hv : v.oneCell' = true) {A : Option Addr} {c : Nat} (hr : Rd w 1 A 1 [v]) (hb : C.length ≤ 1000000) :
    ∃ A' c' w', (Builtin.append_ #[46, 46] 46 #[cv, .slice A 1 c]).run Try.prog w = .ok (.slice A' (C.length + 1) c') w' ∧ St S w0 w' (SdM p cv0 qv0 (.slice A' (C.length + 1) c') qv (C ++ [(v, xs)]) q W F L) := by
  obtain ⟨X, h, _, _, go⟩ := St.focus1 s
  have hone : ∀ u ∈ [v], u.oneCell' = true := fun u hu => by rw [List.mem_singleton.1 hu]; exact hv
  obtain ⟨A', c', w', F', hrun, h2, h3, h4⟩ := run_append_qu (ty := 46) (c := c) Try.underlying46 infoB rfl (by omega) (by intro u hu; simp [Value.cells] at hu; rcases hu with rfl; rfl) h hr hone (by omega) (by omega)
  refine ⟨A', c', w', hrun, ?_⟩
  have h5 := go w' (QO 33 1 (.slice A' (C.length + 1) c') (C ++ [(v, xs)]).length ((C ++ [(v, xs)]).map Prod.fst)) [] (St.changed (framed_QO ..) (by rw [List.length_append, List.map_append]; exact h2) h4 h3)
  rw [List.append_nil] at h5
  have h6 : St S w0 w' ([BLo p 60 [cv0, qv0, .int .i64 W, .int .i64 (F : Int)], QO 33 1 (.slice A' (C.length + 1) c') (C ++ [(v, xs)]).length ((C ++ [(v, xs)]).map Prod.fst), QO 63 4 qv q.length (fcellsQ q)] ++ (many (C.map frO) :: (L ++ [frO (v, xs)]))) := h5
  have h7 := st_mid (sep_in (w := w')) h6
  have e : C.map frO ++ [frO (v, xs)] = (C ++ [(v, xs)]).map frO := by simp
  rw [e] at h7
  exact h7
theorem frO_at (C : List (Value × List UInt8)) (v : Value) (xs : List UInt8) (i : Nat) : True := trivial
theorem pSet0 (s : St S w0 w (SdM p cv0 qv0 cv qv C q W F L)) (u : Value) : St S w0 (w.setCell ⟨p, 0, none⟩ u) (SdM p u qv0 cv qv C q W F L) := St.set0 s 0 u
theorem control_none (s : St S w0 w (SO p fs q W F :: L)) (A : Option Addr) (c : Nat) : Calls Try.prog 17 #[.pointer (some ⟨p, 0, none⟩), .slice A 0 c] w fun e w' => e = .returned (.tuple #[]) ∧ St S w0 w' (SO p fs q W F :: L) := by
  have HS := Lib.hid s
  clear s
  go_enter Try.func17, Try.ntmps17
  go_wp2
  go_end0
  exact ⟨rfl, HS.out⟩
set_option maxHeartbeats 16000000 in
theorem control_some (s : St S w0 w (SO p fs q W F :: L)) {bb oo n c : Nat} {xs : List UInt8} (hr : Rd w 1 (some ⟨bb, oo, none⟩) n (xs.map BV)) (hn : n ≤ 100000) (h0 : 0 < n) (hf : fs.length ≤ 1000) :
    Calls Try.prog 17 #[.pointer (some ⟨p, 0, none⟩), .slice (some ⟨bb, oo, none⟩) n c] w fun e w' => e = .returned (.tuple #[]) ∧ St S w0 w' (SO p (fs ++ [xs]) q W F :: L) := by
  obtain ⟨cv, qv, C, hC, s⟩ := so_open s
  have hlC : C.length ≤ 1000 := by rw [← List.length_map (f := Prod.snd), hC]; exact hf
  obtain ⟨hl, z0, z1, z2, z3, zf0⟩ := see_s s
  have zf := zf0 0
  have HR : Hid (Rd w.drew 1 (some ⟨bb, oo, none⟩) n (xs.map BV)) := hr
  have HN := Lib.hid hn
  have HS := Lib.hid s.drew
  have hlx : xs.length = n := by simpa using hr.1
  have HX := Lib.hid hlx
  have HC := Lib.hid hC
  have HL : Hid (C.length ≤ 1000000) := by unfold Hid; omega
  have hend : Hid (∀ (A' : Option Addr) (c' : Nat) (w3 : World), St (fun _ => False) w.drew w3 [SLo w.drew.heap.size 5 1 (.slice A' n c') n (xs.map BV)] →
      ∃ A4 c4 w4, (Builtin.append_ #[46, 46] 46 #[cv, .slice (some ⟨w3.heap.size, 0, none⟩) 1 1]).run Try.prog (w3.alloc (.cells #[.slice A' n c'] 33)) = .ok (.slice A4 (C.length + 1) c4) w4 ∧ p < w3.heap.size ∧ w3.cell? ⟨p, 0, none⟩ = some cv ∧ p < w4.heap.size ∧ (∃ u, w4.cell? ⟨p, 0, none⟩ = some u) ∧ w4.frozen? ⟨p, 0, none⟩ = false ∧ St S w0 (w4.setCell ⟨p, 0, none⟩ (.slice A4 (C.length + 1) c4)) (SO p (fs ++ [xs]) q W F :: L)) := by
    intro A' c' w3 h3
    have s3 := HS.out.add h3
    have s3' : St S w0 w3 (SdM p cv qv cv qv C q W F (L ++ [frO (.slice A' n c', xs)])) := by
      have s4 : St S w0 w3 (SdM p cv qv cv qv C q W F L ++ SLo w.drew.heap.size 5 1 (.slice A' n c') n (xs.map BV) :: []) := s3
      have s5 := St.floor _ _ s4 (B := 0) (Nat.zero_le _)
      have s6 : St S w0 w3 (SdM p cv qv cv qv C q W F (L ++ [SLo 0 5 1 (.slice A' n c') n (xs.map BV)])) := s5
      unfold frO
      simp only [HX.out]
      exact s6
    obtain ⟨hl3, x0, _, _, _, _⟩ := see_m s3'
    have hb := Blk.new w3 33 [.slice A' n c']
    have hrd := Rd.of_blk (n := 1) (size := 1) hb (by simp)
    obtain ⟨A4, c4, w4, hrun, s4⟩ := append_k (s3'.alloc (.cells #[.slice A' n c'] 33)) rfl (c := 1) (by simpa using hrd) HL.out
    obtain ⟨hl4, y0, _, _, _, yf⟩ := see_m s4
    refine ⟨A4, c4, w4, hrun, hl3, x0, hl4, ⟨_, y0⟩, yf 0, ?_⟩
    have s8 := pSet0 s4 (.slice A4 (C.length + 1) c4)
    exact so_close (by rw [List.map_append, HC.out]; rfl) s8
  clear s hr hn hC hf hlC zf0 hlx z1 z2 z3 HX HL HC
  go_enter Try.func17, Try.ntmps17
  go_wp2
  go_region_law (first
    | (go_simp; go_at_call 25; (with_reducible refine (clone_c HR.out HN.out).mono ?_); rintro e w3 ⟨A', c', rfl, h3⟩
       obtain ⟨A4, c4, w4, hrun, hl3, x0, hl4, ⟨u4, y0⟩, yf, s9⟩ := hend.out _ _ _ h3
       have HRun := Lib.hid hrun
       have H9 := Lib.hid s9
       clear h3 hrun s9)
    | (refine step_app_run rfl (.tmp 11) (.tmp 14) 46 46 rfl _ _ (by simp [Act.eval, Act.put]) (by simp [Act.eval, Act.put]) HRun.out ?_))
  all_goals
    go_end0
    exact ⟨rfl, H9.out⟩
end
end Go.Proofs.Ytbjjphpkpmikjaa
