/- Stage 9: the document's Step, what is sent, and whole. -/
import Derived.Test.YtdpheliekdgnhaaNiK
namespace Go.Proofs.Ytdpheliekdgnhaa
open Go.RowKit Go.Own Go.Sm
set_option linter.unusedVariables false
set_option linter.unusedSimpArgs false
set_option maxRecDepth 100000
section
variable {w : World}
set_option maxHeartbeats 8000000 in
theorem rstep_t0 (k : Int) (hk : k = 1 ∨ k = 0 ∨ k = 2 ∨ k = 3 ∨ k = 8 ∨ k = 5) (fin : Bool) : Calls Try.prog 11 #[.int .i64 0, .bool true, .int .i64 k, .bool fin] w fun r w' => r = .returned (ans9 (stepV 0 true k fin)) ∧ Below w.heap.size w w' := by
  have HT : Hid ((bif true then rowsT else rowsF) = rowsT) := rfl
  obtain ⟨str, hstr⟩ : ∃ s : ByteArray, s = ⟨#[84, 49, 50, 32, 78, 46, 46, 32, 84, 46, 46, 32, 78, 46, 46, 32, 78, 46, 46, 32, 78, 46, 46]⟩ := ⟨_, rfl⟩
  have hz : str.size = 23 := by rw [hstr]; rfl
  have HZ : Hid (rowsT[0]? = some str) := by rw [hstr]; rfl
  rcases hk with rfl | rfl | rfl | rfl | rfl | rfl
  · have HC : Hid (colV 1 = 0) := by unfold Hid; decide
    have es : (str.extract 0 3).size = 3 := by rw [hstr]; rfl
    have e0 : ∀ h, (str.extract 0 3)[0]'h = (84 : UInt8) := by subst hstr; intro h; rfl
    have e1 : ∀ h, (str.extract 0 3)[1]'h = (49 : UInt8) := by subst hstr; intro h; rfl
    have e2 : ∀ h, (str.extract 0 3)[2]'h = (50 : UInt8) := by subst hstr; intro h; rfl
    clear hstr
    cases fin
    all_goals
      go_enter Try.func11, Try.ntmps11
      go_wp2_with (first
        | (go_at_call 35; (with_reducible refine (col_c _ _ HC.out).mono ?_); rintro r w1 ⟨rfl, rfl⟩)
        | (go_at_call 36; (with_reducible refine (tables_c _ _ HT.out).mono ?_); rintro r w2 ⟨g, rfl, hg, hb⟩
           have B := Lib.hid hb
           have hl := hg.lt
           have z0 : w2.cell? ⟨g, 0, none⟩ = some (.string str) := by rw [hg.cell 0, List.getElem?_map, HZ.out]; rfl
           clear hg hb))
      refine bodyPost_ret ?_ rfl ⟨rfl, B.out⟩
      simp [results, Try.results11, go_sem, ans9]
      decide
  · have HC : Hid (colV 0 = 1) := by unfold Hid; decide
    have es : (str.extract 4 7).size = 3 := by rw [hstr]; rfl
    have e0 : ∀ h, (str.extract 4 7)[0]'h = (78 : UInt8) := by subst hstr; intro h; rfl
    have e1 : ∀ h, (str.extract 4 7)[1]'h = (46 : UInt8) := by subst hstr; intro h; rfl
    have e2 : ∀ h, (str.extract 4 7)[2]'h = (46 : UInt8) := by subst hstr; intro h; rfl
    clear hstr
    cases fin
    all_goals
      go_enter Try.func11, Try.ntmps11
      go_wp2_with (first
        | (go_at_call 35; (with_reducible refine (col_c _ _ HC.out).mono ?_); rintro r w1 ⟨rfl, rfl⟩)
        | (go_at_call 36; (with_reducible refine (tables_c _ _ HT.out).mono ?_); rintro r w2 ⟨g, rfl, hg, hb⟩
           have B := Lib.hid hb
           have hl := hg.lt
           have z0 : w2.cell? ⟨g, 0, none⟩ = some (.string str) := by rw [hg.cell 0, List.getElem?_map, HZ.out]; rfl
           clear hg hb))
      refine bodyPost_ret ?_ rfl ⟨rfl, B.out⟩
      simp [results, Try.results11, go_sem, ans9]
      decide
  · have HC : Hid (colV 2 = 2) := by unfold Hid; decide
    have es : (str.extract 8 11).size = 3 := by rw [hstr]; rfl
    have e0 : ∀ h, (str.extract 8 11)[0]'h = (84 : UInt8) := by subst hstr; intro h; rfl
    have e1 : ∀ h, (str.extract 8 11)[1]'h = (46 : UInt8) := by subst hstr; intro h; rfl
    have e2 : ∀ h, (str.extract 8 11)[2]'h = (46 : UInt8) := by subst hstr; intro h; rfl
    clear hstr
    cases fin
    all_goals
      go_enter Try.func11, Try.ntmps11
      go_wp2_with (first
        | (go_at_call 35; (with_reducible refine (col_c _ _ HC.out).mono ?_); rintro r w1 ⟨rfl, rfl⟩)
        | (go_at_call 36; (with_reducible refine (tables_c _ _ HT.out).mono ?_); rintro r w2 ⟨g, rfl, hg, hb⟩
           have B := Lib.hid hb
           have hl := hg.lt
           have z0 : w2.cell? ⟨g, 0, none⟩ = some (.string str) := by rw [hg.cell 0, List.getElem?_map, HZ.out]; rfl
           clear hg hb))
      refine bodyPost_ret ?_ rfl ⟨rfl, B.out⟩
      simp [results, Try.results11, go_sem, ans9]
      decide
  · have HC : Hid (colV 3 = 3) := by unfold Hid; decide
    have es : (str.extract 12 15).size = 3 := by rw [hstr]; rfl
    have e0 : ∀ h, (str.extract 12 15)[0]'h = (78 : UInt8) := by subst hstr; intro h; rfl
    have e1 : ∀ h, (str.extract 12 15)[1]'h = (46 : UInt8) := by subst hstr; intro h; rfl
    have e2 : ∀ h, (str.extract 12 15)[2]'h = (46 : UInt8) := by subst hstr; intro h; rfl
    clear hstr
    cases fin
    all_goals
      go_enter Try.func11, Try.ntmps11
      go_wp2_with (first
        | (go_at_call 35; (with_reducible refine (col_c _ _ HC.out).mono ?_); rintro r w1 ⟨rfl, rfl⟩)
        | (go_at_call 36; (with_reducible refine (tables_c _ _ HT.out).mono ?_); rintro r w2 ⟨g, rfl, hg, hb⟩
           have B := Lib.hid hb
           have hl := hg.lt
           have z0 : w2.cell? ⟨g, 0, none⟩ = some (.string str) := by rw [hg.cell 0, List.getElem?_map, HZ.out]; rfl
           clear hg hb))
      refine bodyPost_ret ?_ rfl ⟨rfl, B.out⟩
      simp [results, Try.results11, go_sem, ans9]
      decide
  · have HC : Hid (colV 8 = 4) := by unfold Hid; decide
    have es : (str.extract 16 19).size = 3 := by rw [hstr]; rfl
    have e0 : ∀ h, (str.extract 16 19)[0]'h = (78 : UInt8) := by subst hstr; intro h; rfl
    have e1 : ∀ h, (str.extract 16 19)[1]'h = (46 : UInt8) := by subst hstr; intro h; rfl
    have e2 : ∀ h, (str.extract 16 19)[2]'h = (46 : UInt8) := by subst hstr; intro h; rfl
    clear hstr
    cases fin
    all_goals
      go_enter Try.func11, Try.ntmps11
      go_wp2_with (first
        | (go_at_call 35; (with_reducible refine (col_c _ _ HC.out).mono ?_); rintro r w1 ⟨rfl, rfl⟩)
        | (go_at_call 36; (with_reducible refine (tables_c _ _ HT.out).mono ?_); rintro r w2 ⟨g, rfl, hg, hb⟩
           have B := Lib.hid hb
           have hl := hg.lt
           have z0 : w2.cell? ⟨g, 0, none⟩ = some (.string str) := by rw [hg.cell 0, List.getElem?_map, HZ.out]; rfl
           clear hg hb))
      refine bodyPost_ret ?_ rfl ⟨rfl, B.out⟩
      simp [results, Try.results11, go_sem, ans9]
      decide
  · have HC : Hid (colV 5 = 5) := by unfold Hid; decide
    have es : (str.extract 20 23).size = 3 := by rw [hstr]; rfl
    have e0 : ∀ h, (str.extract 20 23)[0]'h = (78 : UInt8) := by subst hstr; intro h; rfl
    have e1 : ∀ h, (str.extract 20 23)[1]'h = (46 : UInt8) := by subst hstr; intro h; rfl
    have e2 : ∀ h, (str.extract 20 23)[2]'h = (46 : UInt8) := by subst hstr; intro h; rfl
    clear hstr
    cases fin
    all_goals
      go_enter Try.func11, Try.ntmps11
      go_wp2_with (first
        | (go_at_call 35; (with_reducible refine (col_c _ _ HC.out).mono ?_); rintro r w1 ⟨rfl, rfl⟩)
        | (go_at_call 36; (with_reducible refine (tables_c _ _ HT.out).mono ?_); rintro r w2 ⟨g, rfl, hg, hb⟩
           have B := Lib.hid hb
           have hl := hg.lt
           have z0 : w2.cell? ⟨g, 0, none⟩ = some (.string str) := by rw [hg.cell 0, List.getElem?_map, HZ.out]; rfl
           clear hg hb))
      refine bodyPost_ret ?_ rfl ⟨rfl, B.out⟩
      simp [results, Try.results11, go_sem, ans9]
      decide
set_option maxHeartbeats 8000000 in
theorem rstep_t1 (k : Int) (hk : k = 1 ∨ k = 0 ∨ k = 2 ∨ k = 3 ∨ k = 8 ∨ k = 5) (fin : Bool) : Calls Try.prog 11 #[.int .i64 1, .bool true, .int .i64 k, .bool fin] w fun r w' => r = .returned (ans9 (stepV 1 true k fin)) ∧ Below w.heap.size w w' := by
  have HT : Hid ((bif true then rowsT else rowsF) = rowsT) := rfl
  obtain ⟨str, hstr⟩ : ∃ s : ByteArray, s = ⟨#[84, 49, 50, 32, 84, 49, 50, 32, 84, 46, 46, 32, 84, 53, 53, 32, 84, 46, 46, 32, 78, 46, 46]⟩ := ⟨_, rfl⟩
  have hz : str.size = 23 := by rw [hstr]; rfl
  have HZ : Hid (rowsT[1]? = some str) := by rw [hstr]; rfl
  rcases hk with rfl | rfl | rfl | rfl | rfl | rfl
  · have HC : Hid (colV 1 = 0) := by unfold Hid; decide
    have es : (str.extract 0 3).size = 3 := by rw [hstr]; rfl
    have e0 : ∀ h, (str.extract 0 3)[0]'h = (84 : UInt8) := by subst hstr; intro h; rfl
    have e1 : ∀ h, (str.extract 0 3)[1]'h = (49 : UInt8) := by subst hstr; intro h; rfl
    have e2 : ∀ h, (str.extract 0 3)[2]'h = (50 : UInt8) := by subst hstr; intro h; rfl
    clear hstr
    cases fin
    all_goals
      go_enter Try.func11, Try.ntmps11
      go_wp2_with (first
        | (go_at_call 35; (with_reducible refine (col_c _ _ HC.out).mono ?_); rintro r w1 ⟨rfl, rfl⟩)
        | (go_at_call 36; (with_reducible refine (tables_c _ _ HT.out).mono ?_); rintro r w2 ⟨g, rfl, hg, hb⟩
           have B := Lib.hid hb
           have hl := hg.lt
           have z0 : w2.cell? ⟨g, 1, none⟩ = some (.string str) := by rw [hg.cell 1, List.getElem?_map, HZ.out]; rfl
           clear hg hb))
      refine bodyPost_ret ?_ rfl ⟨rfl, B.out⟩
      simp [results, Try.results11, go_sem, ans9]
      decide
  · have HC : Hid (colV 0 = 1) := by unfold Hid; decide
    have es : (str.extract 4 7).size = 3 := by rw [hstr]; rfl
    have e0 : ∀ h, (str.extract 4 7)[0]'h = (84 : UInt8) := by subst hstr; intro h; rfl
    have e1 : ∀ h, (str.extract 4 7)[1]'h = (49 : UInt8) := by subst hstr; intro h; rfl
    have e2 : ∀ h, (str.extract 4 7)[2]'h = (50 : UInt8) := by subst hstr; intro h; rfl
    clear hstr
    cases fin
    all_goals
      go_enter Try.func11, Try.ntmps11
      go_wp2_with (first
        | (go_at_call 35; (with_reducible refine (col_c _ _ HC.out).mono ?_); rintro r w1 ⟨rfl, rfl⟩)
        | (go_at_call 36; (with_reducible refine (tables_c _ _ HT.out).mono ?_); rintro r w2 ⟨g, rfl, hg, hb⟩
           have B := Lib.hid hb
           have hl := hg.lt
           have z0 : w2.cell? ⟨g, 1, none⟩ = some (.string str) := by rw [hg.cell 1, List.getElem?_map, HZ.out]; rfl
           clear hg hb))
      refine bodyPost_ret ?_ rfl ⟨rfl, B.out⟩
      simp [results, Try.results11, go_sem, ans9]
      decide
  · have HC : Hid (colV 2 = 2) := by unfold Hid; decide
    have es : (str.extract 8 11).size = 3 := by rw [hstr]; rfl
    have e0 : ∀ h, (str.extract 8 11)[0]'h = (84 : UInt8) := by subst hstr; intro h; rfl
    have e1 : ∀ h, (str.extract 8 11)[1]'h = (46 : UInt8) := by subst hstr; intro h; rfl
    have e2 : ∀ h, (str.extract 8 11)[2]'h = (46 : UInt8) := by subst hstr; intro h; rfl
    clear hstr
    cases fin
    all_goals
      go_enter Try.func11, Try.ntmps11
      go_wp2_with (first
        | (go_at_call 35; (with_reducible refine (col_c _ _ HC.out).mono ?_); rintro r w1 ⟨rfl, rfl⟩)
        | (go_at_call 36; (with_reducible refine (tables_c _ _ HT.out).mono ?_); rintro r w2 ⟨g, rfl, hg, hb⟩
           have B := Lib.hid hb
           have hl := hg.lt
           have z0 : w2.cell? ⟨g, 1, none⟩ = some (.string str) := by rw [hg.cell 1, List.getElem?_map, HZ.out]; rfl
           clear hg hb))
      refine bodyPost_ret ?_ rfl ⟨rfl, B.out⟩
      simp [results, Try.results11, go_sem, ans9]
      decide
  · have HC : Hid (colV 3 = 3) := by unfold Hid; decide
    have es : (str.extract 12 15).size = 3 := by rw [hstr]; rfl
    have e0 : ∀ h, (str.extract 12 15)[0]'h = (84 : UInt8) := by subst hstr; intro h; rfl
    have e1 : ∀ h, (str.extract 12 15)[1]'h = (53 : UInt8) := by subst hstr; intro h; rfl
    have e2 : ∀ h, (str.extract 12 15)[2]'h = (53 : UInt8) := by subst hstr; intro h; rfl
    clear hstr
    cases fin
    all_goals
      go_enter Try.func11, Try.ntmps11
      go_wp2_with (first
        | (go_at_call 35; (with_reducible refine (col_c _ _ HC.out).mono ?_); rintro r w1 ⟨rfl, rfl⟩)
        | (go_at_call 36; (with_reducible refine (tables_c _ _ HT.out).mono ?_); rintro r w2 ⟨g, rfl, hg, hb⟩
           have B := Lib.hid hb
           have hl := hg.lt
           have z0 : w2.cell? ⟨g, 1, none⟩ = some (.string str) := by rw [hg.cell 1, List.getElem?_map, HZ.out]; rfl
           clear hg hb))
      refine bodyPost_ret ?_ rfl ⟨rfl, B.out⟩
      simp [results, Try.results11, go_sem, ans9]
      decide
  · have HC : Hid (colV 8 = 4) := by unfold Hid; decide
    have es : (str.extract 16 19).size = 3 := by rw [hstr]; rfl
    have e0 : ∀ h, (str.extract 16 19)[0]'h = (84 : UInt8) := by subst hstr; intro h; rfl
    have e1 : ∀ h, (str.extract 16 19)[1]'h = (46 : UInt8) := by subst hstr; intro h; rfl
    have e2 : ∀ h, (str.extract 16 19)[2]'h = (46 : UInt8) := by subst hstr; intro h; rfl
    clear hstr
    cases fin
    all_goals
      go_enter Try.func11, Try.ntmps11
      go_wp2_with (first
        | (go_at_call 35; (with_reducible refine (col_c _ _ HC.out).mono ?_); rintro r w1 ⟨rfl, rfl⟩)
        | (go_at_call 36; (with_reducible refine (tables_c _ _ HT.out).mono ?_); rintro r w2 ⟨g, rfl, hg, hb⟩
           have B := Lib.hid hb
           have hl := hg.lt
           have z0 : w2.cell? ⟨g, 1, none⟩ = some (.string str) := by rw [hg.cell 1, List.getElem?_map, HZ.out]; rfl
           clear hg hb))
      refine bodyPost_ret ?_ rfl ⟨rfl, B.out⟩
      simp [results, Try.results11, go_sem, ans9]
      decide
  · have HC : Hid (colV 5 = 5) := by unfold Hid; decide
    have es : (str.extract 20 23).size = 3 := by rw [hstr]; rfl
    have e0 : ∀ h, (str.extract 20 23)[0]'h = (78 : UInt8) := by subst hstr; intro h; rfl
    have e1 : ∀ h, (str.extract 20 23)[1]'h = (46 : UInt8) := by subst hstr; intro h; rfl
    have e2 : ∀ h, (str.extract 20 23)[2]'h = (46 : UInt8) := by subst hstr; intro h; rfl
    clear hstr
    cases fin
    all_goals
      go_enter Try.func11, Try.ntmps11
      go_wp2_with (first
        | (go_at_call 35; (with_reducible refine (col_c _ _ HC.out).mono ?_); rintro r w1 ⟨rfl, rfl⟩)
        | (go_at_call 36; (with_reducible refine (tables_c _ _ HT.out).mono ?_); rintro r w2 ⟨g, rfl, hg, hb⟩
           have B := Lib.hid hb
           have hl := hg.lt
           have z0 : w2.cell? ⟨g, 1, none⟩ = some (.string str) := by rw [hg.cell 1, List.getElem?_map, HZ.out]; rfl
           clear hg hb))
      refine bodyPost_ret ?_ rfl ⟨rfl, B.out⟩
      simp [results, Try.results11, go_sem, ans9]
      decide
set_option maxHeartbeats 8000000 in
theorem rstep_t2 (k : Int) (hk : k = 1 ∨ k = 0 ∨ k = 2 ∨ k = 3 ∨ k = 8 ∨ k = 5) (fin : Bool) : Calls Try.prog 11 #[.int .i64 2, .bool true, .int .i64 k, .bool fin] w fun r w' => r = .returned (ans9 (stepV 2 true k fin)) ∧ Below w.heap.size w w' := by
  have HT : Hid ((bif true then rowsT else rowsF) = rowsT) := rfl
  obtain ⟨str, hstr⟩ : ∃ s : ByteArray, s = ⟨#[78, 46, 46, 32, 78, 46, 46, 32, 84, 46, 46, 32, 84, 53, 53, 32, 84, 46, 46, 32, 78, 46, 46]⟩ := ⟨_, rfl⟩
  have hz : str.size = 23 := by rw [hstr]; rfl
  have HZ : Hid (rowsT[2]? = some str) := by rw [hstr]; rfl
  rcases hk with rfl | rfl | rfl | rfl | rfl | rfl
  · have HC : Hid (colV 1 = 0) := by unfold Hid; decide
    have es : (str.extract 0 3).size = 3 := by rw [hstr]; rfl
    have e0 : ∀ h, (str.extract 0 3)[0]'h = (78 : UInt8) := by subst hstr; intro h; rfl
    have e1 : ∀ h, (str.extract 0 3)[1]'h = (46 : UInt8) := by subst hstr; intro h; rfl
    have e2 : ∀ h, (str.extract 0 3)[2]'h = (46 : UInt8) := by subst hstr; intro h; rfl
    clear hstr
    cases fin
    all_goals
      go_enter Try.func11, Try.ntmps11
      go_wp2_with (first
        | (go_at_call 35; (with_reducible refine (col_c _ _ HC.out).mono ?_); rintro r w1 ⟨rfl, rfl⟩)
        | (go_at_call 36; (with_reducible refine (tables_c _ _ HT.out).mono ?_); rintro r w2 ⟨g, rfl, hg, hb⟩
           have B := Lib.hid hb
           have hl := hg.lt
           have z0 : w2.cell? ⟨g, 2, none⟩ = some (.string str) := by rw [hg.cell 2, List.getElem?_map, HZ.out]; rfl
           clear hg hb))
      refine bodyPost_ret ?_ rfl ⟨rfl, B.out⟩
      simp [results, Try.results11, go_sem, ans9]
      decide
  · have HC : Hid (colV 0 = 1) := by unfold Hid; decide
    have es : (str.extract 4 7).size = 3 := by rw [hstr]; rfl
    have e0 : ∀ h, (str.extract 4 7)[0]'h = (78 : UInt8) := by subst hstr; intro h; rfl
    have e1 : ∀ h, (str.extract 4 7)[1]'h = (46 : UInt8) := by subst hstr; intro h; rfl
    have e2 : ∀ h, (str.extract 4 7)[2]'h = (46 : UInt8) := by subst hstr; intro h; rfl
    clear hstr
    cases fin
    all_goals
      go_enter Try.func11, Try.ntmps11
      go_wp2_with (first
        | (go_at_call 35; (with_reducible refine (col_c _ _ HC.out).mono ?_); rintro r w1 ⟨rfl, rfl⟩)
        | (go_at_call 36; (with_reducible refine (tables_c _ _ HT.out).mono ?_); rintro r w2 ⟨g, rfl, hg, hb⟩
           have B := Lib.hid hb
           have hl := hg.lt
           have z0 : w2.cell? ⟨g, 2, none⟩ = some (.string str) := by rw [hg.cell 2, List.getElem?_map, HZ.out]; rfl
           clear hg hb))
      refine bodyPost_ret ?_ rfl ⟨rfl, B.out⟩
      simp [results, Try.results11, go_sem, ans9]
      decide
  · have HC : Hid (colV 2 = 2) := by unfold Hid; decide
    have es : (str.extract 8 11).size = 3 := by rw [hstr]; rfl
    have e0 : ∀ h, (str.extract 8 11)[0]'h = (84 : UInt8) := by subst hstr; intro h; rfl
    have e1 : ∀ h, (str.extract 8 11)[1]'h = (46 : UInt8) := by subst hstr; intro h; rfl
    have e2 : ∀ h, (str.extract 8 11)[2]'h = (46 : UInt8) := by subst hstr; intro h; rfl
    clear hstr
    cases fin
    all_goals
      go_enter Try.func11, Try.ntmps11
      go_wp2_with (first
        | (go_at_call 35; (with_reducible refine (col_c _ _ HC.out).mono ?_); rintro r w1 ⟨rfl, rfl⟩)
        | (go_at_call 36; (with_reducible refine (tables_c _ _ HT.out).mono ?_); rintro r w2 ⟨g, rfl, hg, hb⟩
           have B := Lib.hid hb
           have hl := hg.lt
           have z0 : w2.cell? ⟨g, 2, none⟩ = some (.string str) := by rw [hg.cell 2, List.getElem?_map, HZ.out]; rfl
           clear hg hb))
      refine bodyPost_ret ?_ rfl ⟨rfl, B.out⟩
      simp [results, Try.results11, go_sem, ans9]
      decide
  · have HC : Hid (colV 3 = 3) := by unfold Hid; decide
    have es : (str.extract 12 15).size = 3 := by rw [hstr]; rfl
    have e0 : ∀ h, (str.extract 12 15)[0]'h = (84 : UInt8) := by subst hstr; intro h; rfl
    have e1 : ∀ h, (str.extract 12 15)[1]'h = (53 : UInt8) := by subst hstr; intro h; rfl
    have e2 : ∀ h, (str.extract 12 15)[2]'h = (53 : UInt8) := by subst hstr; intro h; rfl
    clear hstr
    cases fin
    all_goals
      go_enter Try.func11, Try.ntmps11
      go_wp2_with (first
        | (go_at_call 35; (with_reducible refine (col_c _ _ HC.out).mono ?_); rintro r w1 ⟨rfl, rfl⟩)
        | (go_at_call 36; (with_reducible refine (tables_c _ _ HT.out).mono ?_); rintro r w2 ⟨g, rfl, hg, hb⟩
           have B := Lib.hid hb
           have hl := hg.lt
           have z0 : w2.cell? ⟨g, 2, none⟩ = some (.string str) := by rw [hg.cell 2, List.getElem?_map, HZ.out]; rfl
           clear hg hb))
      refine bodyPost_ret ?_ rfl ⟨rfl, B.out⟩
      simp [results, Try.results11, go_sem, ans9]
      decide
  · have HC : Hid (colV 8 = 4) := by unfold Hid; decide
    have es : (str.extract 16 19).size = 3 := by rw [hstr]; rfl
    have e0 : ∀ h, (str.extract 16 19)[0]'h = (84 : UInt8) := by subst hstr; intro h; rfl
    have e1 : ∀ h, (str.extract 16 19)[1]'h = (46 : UInt8) := by subst hstr; intro h; rfl
    have e2 : ∀ h, (str.extract 16 19)[2]'h = (46 : UInt8) := by subst hstr; intro h; rfl
    clear hstr
    cases fin
    all_goals
      go_enter Try.func11, Try.ntmps11
      go_wp2_with (first
        | (go_at_call 35; (with_reducible refine (col_c _ _ HC.out).mono ?_); rintro r w1 ⟨rfl, rfl⟩)
        | (go_at_call 36; (with_reducible refine (tables_c _ _ HT.out).mono ?_); rintro r w2 ⟨g, rfl, hg, hb⟩
           have B := Lib.hid hb
           have hl := hg.lt
           have z0 : w2.cell? ⟨g, 2, none⟩ = some (.string str) := by rw [hg.cell 2, List.getElem?_map, HZ.out]; rfl
           clear hg hb))
      refine bodyPost_ret ?_ rfl ⟨rfl, B.out⟩
      simp [results, Try.results11, go_sem, ans9]
      decide
  · have HC : Hid (colV 5 = 5) := by unfold Hid; decide
    have es : (str.extract 20 23).size = 3 := by rw [hstr]; rfl
    have e0 : ∀ h, (str.extract 20 23)[0]'h = (78 : UInt8) := by subst hstr; intro h; rfl
    have e1 : ∀ h, (str.extract 20 23)[1]'h = (46 : UInt8) := by subst hstr; intro h; rfl
    have e2 : ∀ h, (str.extract 20 23)[2]'h = (46 : UInt8) := by subst hstr; intro h; rfl
    clear hstr
    cases fin
    all_goals
      go_enter Try.func11, Try.ntmps11
      go_wp2_with (first
        | (go_at_call 35; (with_reducible refine (col_c _ _ HC.out).mono ?_); rintro r w1 ⟨rfl, rfl⟩)
        | (go_at_call 36; (with_reducible refine (tables_c _ _ HT.out).mono ?_); rintro r w2 ⟨g, rfl, hg, hb⟩
           have B := Lib.hid hb
           have hl := hg.lt
           have z0 : w2.cell? ⟨g, 2, none⟩ = some (.string str) := by rw [hg.cell 2, List.getElem?_map, HZ.out]; rfl
           clear hg hb))
      refine bodyPost_ret ?_ rfl ⟨rfl, B.out⟩
      simp [results, Try.results11, go_sem, ans9]
      decide
set_option maxHeartbeats 8000000 in
theorem rstep_t3 (k : Int) (hk : k = 1 ∨ k = 0 ∨ k = 2 ∨ k = 3 ∨ k = 8 ∨ k = 5) (fin : Bool) : Calls Try.prog 11 #[.int .i64 3, .bool true, .int .i64 k, .bool fin] w fun r w' => r = .returned (ans9 (stepV 3 true k fin)) ∧ Below w.heap.size w w' := by
  have HT : Hid ((bif true then rowsT else rowsF) = rowsT) := rfl
  obtain ⟨str, hstr⟩ : ∃ s : ByteArray, s = ⟨#[84, 51, 52, 32, 84, 51, 52, 32, 84, 46, 46, 32, 84, 53, 53, 32, 84, 46, 46, 32, 78, 46, 46]⟩ := ⟨_, rfl⟩
  have hz : str.size = 23 := by rw [hstr]; rfl
  have HZ : Hid (rowsT[3]? = some str) := by rw [hstr]; rfl
  rcases hk with rfl | rfl | rfl | rfl | rfl | rfl
  · have HC : Hid (colV 1 = 0) := by unfold Hid; decide
    have es : (str.extract 0 3).size = 3 := by rw [hstr]; rfl
    have e0 : ∀ h, (str.extract 0 3)[0]'h = (84 : UInt8) := by subst hstr; intro h; rfl
    have e1 : ∀ h, (str.extract 0 3)[1]'h = (51 : UInt8) := by subst hstr; intro h; rfl
    have e2 : ∀ h, (str.extract 0 3)[2]'h = (52 : UInt8) := by subst hstr; intro h; rfl
    clear hstr
    cases fin
    all_goals
      go_enter Try.func11, Try.ntmps11
      go_wp2_with (first
        | (go_at_call 35; (with_reducible refine (col_c _ _ HC.out).mono ?_); rintro r w1 ⟨rfl, rfl⟩)
        | (go_at_call 36; (with_reducible refine (tables_c _ _ HT.out).mono ?_); rintro r w2 ⟨g, rfl, hg, hb⟩
           have B := Lib.hid hb
           have hl := hg.lt
           have z0 : w2.cell? ⟨g, 3, none⟩ = some (.string str) := by rw [hg.cell 3, List.getElem?_map, HZ.out]; rfl
           clear hg hb))
      refine bodyPost_ret ?_ rfl ⟨rfl, B.out⟩
      simp [results, Try.results11, go_sem, ans9]
      decide
  · have HC : Hid (colV 0 = 1) := by unfold Hid; decide
    have es : (str.extract 4 7).size = 3 := by rw [hstr]; rfl
    have e0 : ∀ h, (str.extract 4 7)[0]'h = (84 : UInt8) := by subst hstr; intro h; rfl
    have e1 : ∀ h, (str.extract 4 7)[1]'h = (51 : UInt8) := by subst hstr; intro h; rfl
    have e2 : ∀ h, (str.extract 4 7)[2]'h = (52 : UInt8) := by subst hstr; intro h; rfl
    clear hstr
    cases fin
    all_goals
      go_enter Try.func11, Try.ntmps11
      go_wp2_with (first
        | (go_at_call 35; (with_reducible refine (col_c _ _ HC.out).mono ?_); rintro r w1 ⟨rfl, rfl⟩)
        | (go_at_call 36; (with_reducible refine (tables_c _ _ HT.out).mono ?_); rintro r w2 ⟨g, rfl, hg, hb⟩
           have B := Lib.hid hb
           have hl := hg.lt
           have z0 : w2.cell? ⟨g, 3, none⟩ = some (.string str) := by rw [hg.cell 3, List.getElem?_map, HZ.out]; rfl
           clear hg hb))
      refine bodyPost_ret ?_ rfl ⟨rfl, B.out⟩
      simp [results, Try.results11, go_sem, ans9]
      decide
  · have HC : Hid (colV 2 = 2) := by unfold Hid; decide
    have es : (str.extract 8 11).size = 3 := by rw [hstr]; rfl
    have e0 : ∀ h, (str.extract 8 11)[0]'h = (84 : UInt8) := by subst hstr; intro h; rfl
    have e1 : ∀ h, (str.extract 8 11)[1]'h = (46 : UInt8) := by subst hstr; intro h; rfl
    have e2 : ∀ h, (str.extract 8 11)[2]'h = (46 : UInt8) := by subst hstr; intro h; rfl
    clear hstr
    cases fin
    all_goals
      go_enter Try.func11, Try.ntmps11
      go_wp2_with (first
        | (go_at_call 35; (with_reducible refine (col_c _ _ HC.out).mono ?_); rintro r w1 ⟨rfl, rfl⟩)
        | (go_at_call 36; (with_reducible refine (tables_c _ _ HT.out).mono ?_); rintro r w2 ⟨g, rfl, hg, hb⟩
           have B := Lib.hid hb
           have hl := hg.lt
           have z0 : w2.cell? ⟨g, 3, none⟩ = some (.string str) := by rw [hg.cell 3, List.getElem?_map, HZ.out]; rfl
           clear hg hb))
      refine bodyPost_ret ?_ rfl ⟨rfl, B.out⟩
      simp [results, Try.results11, go_sem, ans9]
      decide
  · have HC : Hid (colV 3 = 3) := by unfold Hid; decide
    have es : (str.extract 12 15).size = 3 := by rw [hstr]; rfl
    have e0 : ∀ h, (str.extract 12 15)[0]'h = (84 : UInt8) := by subst hstr; intro h; rfl
    have e1 : ∀ h, (str.extract 12 15)[1]'h = (53 : UInt8) := by subst hstr; intro h; rfl
    have e2 : ∀ h, (str.extract 12 15)[2]'h = (53 : UInt8) := by subst hstr; intro h; rfl
    clear hstr
    cases fin
    all_goals
      go_enter Try.func11, Try.ntmps11
      go_wp2_with (first
        | (go_at_call 35; (with_reducible refine (col_c _ _ HC.out).mono ?_); rintro r w1 ⟨rfl, rfl⟩)
        | (go_at_call 36; (with_reducible refine (tables_c _ _ HT.out).mono ?_); rintro r w2 ⟨g, rfl, hg, hb⟩
           have B := Lib.hid hb
           have hl := hg.lt
           have z0 : w2.cell? ⟨g, 3, none⟩ = some (.string str) := by rw [hg.cell 3, List.getElem?_map, HZ.out]; rfl
           clear hg hb))
      refine bodyPost_ret ?_ rfl ⟨rfl, B.out⟩
      simp [results, Try.results11, go_sem, ans9]
      decide
  · have HC : Hid (colV 8 = 4) := by unfold Hid; decide
    have es : (str.extract 16 19).size = 3 := by rw [hstr]; rfl
    have e0 : ∀ h, (str.extract 16 19)[0]'h = (84 : UInt8) := by subst hstr; intro h; rfl
    have e1 : ∀ h, (str.extract 16 19)[1]'h = (46 : UInt8) := by subst hstr; intro h; rfl
    have e2 : ∀ h, (str.extract 16 19)[2]'h = (46 : UInt8) := by subst hstr; intro h; rfl
    clear hstr
    cases fin
    all_goals
      go_enter Try.func11, Try.ntmps11
      go_wp2_with (first
        | (go_at_call 35; (with_reducible refine (col_c _ _ HC.out).mono ?_); rintro r w1 ⟨rfl, rfl⟩)
        | (go_at_call 36; (with_reducible refine (tables_c _ _ HT.out).mono ?_); rintro r w2 ⟨g, rfl, hg, hb⟩
           have B := Lib.hid hb
           have hl := hg.lt
           have z0 : w2.cell? ⟨g, 3, none⟩ = some (.string str) := by rw [hg.cell 3, List.getElem?_map, HZ.out]; rfl
           clear hg hb))
      refine bodyPost_ret ?_ rfl ⟨rfl, B.out⟩
      simp [results, Try.results11, go_sem, ans9]
      decide
  · have HC : Hid (colV 5 = 5) := by unfold Hid; decide
    have es : (str.extract 20 23).size = 3 := by rw [hstr]; rfl
    have e0 : ∀ h, (str.extract 20 23)[0]'h = (78 : UInt8) := by subst hstr; intro h; rfl
    have e1 : ∀ h, (str.extract 20 23)[1]'h = (46 : UInt8) := by subst hstr; intro h; rfl
    have e2 : ∀ h, (str.extract 20 23)[2]'h = (46 : UInt8) := by subst hstr; intro h; rfl
    clear hstr
    cases fin
    all_goals
      go_enter Try.func11, Try.ntmps11
      go_wp2_with (first
        | (go_at_call 35; (with_reducible refine (col_c _ _ HC.out).mono ?_); rintro r w1 ⟨rfl, rfl⟩)
        | (go_at_call 36; (with_reducible refine (tables_c _ _ HT.out).mono ?_); rintro r w2 ⟨g, rfl, hg, hb⟩
           have B := Lib.hid hb
           have hl := hg.lt
           have z0 : w2.cell? ⟨g, 3, none⟩ = some (.string str) := by rw [hg.cell 3, List.getElem?_map, HZ.out]; rfl
           clear hg hb))
      refine bodyPost_ret ?_ rfl ⟨rfl, B.out⟩
      simp [results, Try.results11, go_sem, ans9]
      decide
set_option maxHeartbeats 8000000 in
theorem rstep_t4 (k : Int) (hk : k = 1 ∨ k = 0 ∨ k = 2 ∨ k = 3 ∨ k = 8 ∨ k = 5) (fin : Bool) : Calls Try.prog 11 #[.int .i64 4, .bool true, .int .i64 k, .bool fin] w fun r w' => r = .returned (ans9 (stepV 4 true k fin)) ∧ Below w.heap.size w w' := by
  have HT : Hid ((bif true then rowsT else rowsF) = rowsT) := rfl
  obtain ⟨str, hstr⟩ : ∃ s : ByteArray, s = ⟨#[78, 46, 46, 32, 78, 46, 46, 32, 84, 46, 46, 32, 78, 46, 46, 32, 78, 46, 46, 32, 78, 46, 46]⟩ := ⟨_, rfl⟩
  have hz : str.size = 23 := by rw [hstr]; rfl
  have HZ : Hid (rowsT[4]? = some str) := by rw [hstr]; rfl
  rcases hk with rfl | rfl | rfl | rfl | rfl | rfl
  · have HC : Hid (colV 1 = 0) := by unfold Hid; decide
    have es : (str.extract 0 3).size = 3 := by rw [hstr]; rfl
    have e0 : ∀ h, (str.extract 0 3)[0]'h = (78 : UInt8) := by subst hstr; intro h; rfl
    have e1 : ∀ h, (str.extract 0 3)[1]'h = (46 : UInt8) := by subst hstr; intro h; rfl
    have e2 : ∀ h, (str.extract 0 3)[2]'h = (46 : UInt8) := by subst hstr; intro h; rfl
    clear hstr
    cases fin
    all_goals
      go_enter Try.func11, Try.ntmps11
      go_wp2_with (first
        | (go_at_call 35; (with_reducible refine (col_c _ _ HC.out).mono ?_); rintro r w1 ⟨rfl, rfl⟩)
        | (go_at_call 36; (with_reducible refine (tables_c _ _ HT.out).mono ?_); rintro r w2 ⟨g, rfl, hg, hb⟩
           have B := Lib.hid hb
           have hl := hg.lt
           have z0 : w2.cell? ⟨g, 4, none⟩ = some (.string str) := by rw [hg.cell 4, List.getElem?_map, HZ.out]; rfl
           clear hg hb))
      refine bodyPost_ret ?_ rfl ⟨rfl, B.out⟩
      simp [results, Try.results11, go_sem, ans9]
      decide
  · have HC : Hid (colV 0 = 1) := by unfold Hid; decide
    have es : (str.extract 4 7).size = 3 := by rw [hstr]; rfl
    have e0 : ∀ h, (str.extract 4 7)[0]'h = (78 : UInt8) := by subst hstr; intro h; rfl
    have e1 : ∀ h, (str.extract 4 7)[1]'h = (46 : UInt8) := by subst hstr; intro h; rfl
    have e2 : ∀ h, (str.extract 4 7)[2]'h = (46 : UInt8) := by subst hstr; intro h; rfl
    clear hstr
    cases fin
    all_goals
      go_enter Try.func11, Try.ntmps11
      go_wp2_with (first
        | (go_at_call 35; (with_reducible refine (col_c _ _ HC.out).mono ?_); rintro r w1 ⟨rfl, rfl⟩)
        | (go_at_call 36; (with_reducible refine (tables_c _ _ HT.out).mono ?_); rintro r w2 ⟨g, rfl, hg, hb⟩
           have B := Lib.hid hb
           have hl := hg.lt
           have z0 : w2.cell? ⟨g, 4, none⟩ = some (.string str) := by rw [hg.cell 4, List.getElem?_map, HZ.out]; rfl
           clear hg hb))
      refine bodyPost_ret ?_ rfl ⟨rfl, B.out⟩
      simp [results, Try.results11, go_sem, ans9]
      decide
  · have HC : Hid (colV 2 = 2) := by unfold Hid; decide
    have es : (str.extract 8 11).size = 3 := by rw [hstr]; rfl
    have e0 : ∀ h, (str.extract 8 11)[0]'h = (84 : UInt8) := by subst hstr; intro h; rfl
    have e1 : ∀ h, (str.extract 8 11)[1]'h = (46 : UInt8) := by subst hstr; intro h; rfl
    have e2 : ∀ h, (str.extract 8 11)[2]'h = (46 : UInt8) := by subst hstr; intro h; rfl
    clear hstr
    cases fin
    all_goals
      go_enter Try.func11, Try.ntmps11
      go_wp2_with (first
        | (go_at_call 35; (with_reducible refine (col_c _ _ HC.out).mono ?_); rintro r w1 ⟨rfl, rfl⟩)
        | (go_at_call 36; (with_reducible refine (tables_c _ _ HT.out).mono ?_); rintro r w2 ⟨g, rfl, hg, hb⟩
           have B := Lib.hid hb
           have hl := hg.lt
           have z0 : w2.cell? ⟨g, 4, none⟩ = some (.string str) := by rw [hg.cell 4, List.getElem?_map, HZ.out]; rfl
           clear hg hb))
      refine bodyPost_ret ?_ rfl ⟨rfl, B.out⟩
      simp [results, Try.results11, go_sem, ans9]
      decide
  · have HC : Hid (colV 3 = 3) := by unfold Hid; decide
    have es : (str.extract 12 15).size = 3 := by rw [hstr]; rfl
    have e0 : ∀ h, (str.extract 12 15)[0]'h = (78 : UInt8) := by subst hstr; intro h; rfl
    have e1 : ∀ h, (str.extract 12 15)[1]'h = (46 : UInt8) := by subst hstr; intro h; rfl
    have e2 : ∀ h, (str.extract 12 15)[2]'h = (46 : UInt8) := by subst hstr; intro h; rfl
    clear hstr
    cases fin
    all_goals
      go_enter Try.func11, Try.ntmps11
      go_wp2_with (first
        | (go_at_call 35; (with_reducible refine (col_c _ _ HC.out).mono ?_); rintro r w1 ⟨rfl, rfl⟩)
        | (go_at_call 36; (with_reducible refine (tables_c _ _ HT.out).mono ?_); rintro r w2 ⟨g, rfl, hg, hb⟩
           have B := Lib.hid hb
           have hl := hg.lt
           have z0 : w2.cell? ⟨g, 4, none⟩ = some (.string str) := by rw [hg.cell 4, List.getElem?_map, HZ.out]; rfl
           clear hg hb))
      refine bodyPost_ret ?_ rfl ⟨rfl, B.out⟩
      simp [results, Try.results11, go_sem, ans9]
      decide
  · have HC : Hid (colV 8 = 4) := by unfold Hid; decide
    have es : (str.extract 16 19).size = 3 := by rw [hstr]; rfl
    have e0 : ∀ h, (str.extract 16 19)[0]'h = (78 : UInt8) := by subst hstr; intro h; rfl
    have e1 : ∀ h, (str.extract 16 19)[1]'h = (46 : UInt8) := by subst hstr; intro h; rfl
    have e2 : ∀ h, (str.extract 16 19)[2]'h = (46 : UInt8) := by subst hstr; intro h; rfl
    clear hstr
    cases fin
    all_goals
      go_enter Try.func11, Try.ntmps11
      go_wp2_with (first
        | (go_at_call 35; (with_reducible refine (col_c _ _ HC.out).mono ?_); rintro r w1 ⟨rfl, rfl⟩)
        | (go_at_call 36; (with_reducible refine (tables_c _ _ HT.out).mono ?_); rintro r w2 ⟨g, rfl, hg, hb⟩
           have B := Lib.hid hb
           have hl := hg.lt
           have z0 : w2.cell? ⟨g, 4, none⟩ = some (.string str) := by rw [hg.cell 4, List.getElem?_map, HZ.out]; rfl
           clear hg hb))
      refine bodyPost_ret ?_ rfl ⟨rfl, B.out⟩
      simp [results, Try.results11, go_sem, ans9]
      decide
  · have HC : Hid (colV 5 = 5) := by unfold Hid; decide
    have es : (str.extract 20 23).size = 3 := by rw [hstr]; rfl
    have e0 : ∀ h, (str.extract 20 23)[0]'h = (78 : UInt8) := by subst hstr; intro h; rfl
    have e1 : ∀ h, (str.extract 20 23)[1]'h = (46 : UInt8) := by subst hstr; intro h; rfl
    have e2 : ∀ h, (str.extract 20 23)[2]'h = (46 : UInt8) := by subst hstr; intro h; rfl
    clear hstr
    cases fin
    all_goals
      go_enter Try.func11, Try.ntmps11
      go_wp2_with (first
        | (go_at_call 35; (with_reducible refine (col_c _ _ HC.out).mono ?_); rintro r w1 ⟨rfl, rfl⟩)
        | (go_at_call 36; (with_reducible refine (tables_c _ _ HT.out).mono ?_); rintro r w2 ⟨g, rfl, hg, hb⟩
           have B := Lib.hid hb
           have hl := hg.lt
           have z0 : w2.cell? ⟨g, 4, none⟩ = some (.string str) := by rw [hg.cell 4, List.getElem?_map, HZ.out]; rfl
           clear hg hb))
      refine bodyPost_ret ?_ rfl ⟨rfl, B.out⟩
      simp [results, Try.results11, go_sem, ans9]
      decide
set_option maxHeartbeats 8000000 in
theorem rstep_t5 (k : Int) (hk : k = 1 ∨ k = 0 ∨ k = 2 ∨ k = 3 ∨ k = 8 ∨ k = 5) (fin : Bool) : Calls Try.prog 11 #[.int .i64 5, .bool true, .int .i64 k, .bool fin] w fun r w' => r = .returned (ans9 (stepV 5 true k fin)) ∧ Below w.heap.size w w' := by
  have HT : Hid ((bif true then rowsT else rowsF) = rowsT) := rfl
  obtain ⟨str, hstr⟩ : ∃ s : ByteArray, s = ⟨#[78, 46, 46, 32, 78, 46, 46, 32, 84, 46, 46, 32, 78, 46, 46, 32, 78, 46, 46, 32, 78, 46, 46]⟩ := ⟨_, rfl⟩
  have hz : str.size = 23 := by rw [hstr]; rfl
  have HZ : Hid (rowsT[5]? = some str) := by rw [hstr]; rfl
  rcases hk with rfl | rfl | rfl | rfl | rfl | rfl
  · have HC : Hid (colV 1 = 0) := by unfold Hid; decide
    have es : (str.extract 0 3).size = 3 := by rw [hstr]; rfl
    have e0 : ∀ h, (str.extract 0 3)[0]'h = (78 : UInt8) := by subst hstr; intro h; rfl
    have e1 : ∀ h, (str.extract 0 3)[1]'h = (46 : UInt8) := by subst hstr; intro h; rfl
    have e2 : ∀ h, (str.extract 0 3)[2]'h = (46 : UInt8) := by subst hstr; intro h; rfl
    clear hstr
    cases fin
    all_goals
      go_enter Try.func11, Try.ntmps11
      go_wp2_with (first
        | (go_at_call 35; (with_reducible refine (col_c _ _ HC.out).mono ?_); rintro r w1 ⟨rfl, rfl⟩)
        | (go_at_call 36; (with_reducible refine (tables_c _ _ HT.out).mono ?_); rintro r w2 ⟨g, rfl, hg, hb⟩
           have B := Lib.hid hb
           have hl := hg.lt
           have z0 : w2.cell? ⟨g, 5, none⟩ = some (.string str) := by rw [hg.cell 5, List.getElem?_map, HZ.out]; rfl
           clear hg hb))
      refine bodyPost_ret ?_ rfl ⟨rfl, B.out⟩
      simp [results, Try.results11, go_sem, ans9]
      decide
  · have HC : Hid (colV 0 = 1) := by unfold Hid; decide
    have es : (str.extract 4 7).size = 3 := by rw [hstr]; rfl
    have e0 : ∀ h, (str.extract 4 7)[0]'h = (78 : UInt8) := by subst hstr; intro h; rfl
    have e1 : ∀ h, (str.extract 4 7)[1]'h = (46 : UInt8) := by subst hstr; intro h; rfl
    have e2 : ∀ h, (str.extract 4 7)[2]'h = (46 : UInt8) := by subst hstr; intro h; rfl
    clear hstr
    cases fin
    all_goals
      go_enter Try.func11, Try.ntmps11
      go_wp2_with (first
        | (go_at_call 35; (with_reducible refine (col_c _ _ HC.out).mono ?_); rintro r w1 ⟨rfl, rfl⟩)
        | (go_at_call 36; (with_reducible refine (tables_c _ _ HT.out).mono ?_); rintro r w2 ⟨g, rfl, hg, hb⟩
           have B := Lib.hid hb
           have hl := hg.lt
           have z0 : w2.cell? ⟨g, 5, none⟩ = some (.string str) := by rw [hg.cell 5, List.getElem?_map, HZ.out]; rfl
           clear hg hb))
      refine bodyPost_ret ?_ rfl ⟨rfl, B.out⟩
      simp [results, Try.results11, go_sem, ans9]
      decide
  · have HC : Hid (colV 2 = 2) := by unfold Hid; decide
    have es : (str.extract 8 11).size = 3 := by rw [hstr]; rfl
    have e0 : ∀ h, (str.extract 8 11)[0]'h = (84 : UInt8) := by subst hstr; intro h; rfl
    have e1 : ∀ h, (str.extract 8 11)[1]'h = (46 : UInt8) := by subst hstr; intro h; rfl
    have e2 : ∀ h, (str.extract 8 11)[2]'h = (46 : UInt8) := by subst hstr; intro h; rfl
    clear hstr
    cases fin
    all_goals
      go_enter Try.func11, Try.ntmps11
      go_wp2_with (first
        | (go_at_call 35; (with_reducible refine (col_c _ _ HC.out).mono ?_); rintro r w1 ⟨rfl, rfl⟩)
        | (go_at_call 36; (with_reducible refine (tables_c _ _ HT.out).mono ?_); rintro r w2 ⟨g, rfl, hg, hb⟩
           have B := Lib.hid hb
           have hl := hg.lt
           have z0 : w2.cell? ⟨g, 5, none⟩ = some (.string str) := by rw [hg.cell 5, List.getElem?_map, HZ.out]; rfl
           clear hg hb))
      refine bodyPost_ret ?_ rfl ⟨rfl, B.out⟩
      simp [results, Try.results11, go_sem, ans9]
      decide
  · have HC : Hid (colV 3 = 3) := by unfold Hid; decide
    have es : (str.extract 12 15).size = 3 := by rw [hstr]; rfl
    have e0 : ∀ h, (str.extract 12 15)[0]'h = (78 : UInt8) := by subst hstr; intro h; rfl
    have e1 : ∀ h, (str.extract 12 15)[1]'h = (46 : UInt8) := by subst hstr; intro h; rfl
    have e2 : ∀ h, (str.extract 12 15)[2]'h = (46 : UInt8) := by subst hstr; intro h; rfl
    clear hstr
    cases fin
    all_goals
      go_enter Try.func11, Try.ntmps11
      go_wp2_with (first
        | (go_at_call 35; (with_reducible refine (col_c _ _ HC.out).mono ?_); rintro r w1 ⟨rfl, rfl⟩)
        | (go_at_call 36; (with_reducible refine (tables_c _ _ HT.out).mono ?_); rintro r w2 ⟨g, rfl, hg, hb⟩
           have B := Lib.hid hb
           have hl := hg.lt
           have z0 : w2.cell? ⟨g, 5, none⟩ = some (.string str) := by rw [hg.cell 5, List.getElem?_map, HZ.out]; rfl
           clear hg hb))
      refine bodyPost_ret ?_ rfl ⟨rfl, B.out⟩
      simp [results, Try.results11, go_sem, ans9]
      decide
  · have HC : Hid (colV 8 = 4) := by unfold Hid; decide
    have es : (str.extract 16 19).size = 3 := by rw [hstr]; rfl
    have e0 : ∀ h, (str.extract 16 19)[0]'h = (78 : UInt8) := by subst hstr; intro h; rfl
    have e1 : ∀ h, (str.extract 16 19)[1]'h = (46 : UInt8) := by subst hstr; intro h; rfl
    have e2 : ∀ h, (str.extract 16 19)[2]'h = (46 : UInt8) := by subst hstr; intro h; rfl
    clear hstr
    cases fin
    all_goals
      go_enter Try.func11, Try.ntmps11
      go_wp2_with (first
        | (go_at_call 35; (with_reducible refine (col_c _ _ HC.out).mono ?_); rintro r w1 ⟨rfl, rfl⟩)
        | (go_at_call 36; (with_reducible refine (tables_c _ _ HT.out).mono ?_); rintro r w2 ⟨g, rfl, hg, hb⟩
           have B := Lib.hid hb
           have hl := hg.lt
           have z0 : w2.cell? ⟨g, 5, none⟩ = some (.string str) := by rw [hg.cell 5, List.getElem?_map, HZ.out]; rfl
           clear hg hb))
      refine bodyPost_ret ?_ rfl ⟨rfl, B.out⟩
      simp [results, Try.results11, go_sem, ans9]
      decide
  · have HC : Hid (colV 5 = 5) := by unfold Hid; decide
    have es : (str.extract 20 23).size = 3 := by rw [hstr]; rfl
    have e0 : ∀ h, (str.extract 20 23)[0]'h = (78 : UInt8) := by subst hstr; intro h; rfl
    have e1 : ∀ h, (str.extract 20 23)[1]'h = (46 : UInt8) := by subst hstr; intro h; rfl
    have e2 : ∀ h, (str.extract 20 23)[2]'h = (46 : UInt8) := by subst hstr; intro h; rfl
    clear hstr
    cases fin
    all_goals
      go_enter Try.func11, Try.ntmps11
      go_wp2_with (first
        | (go_at_call 35; (with_reducible refine (col_c _ _ HC.out).mono ?_); rintro r w1 ⟨rfl, rfl⟩)
        | (go_at_call 36; (with_reducible refine (tables_c _ _ HT.out).mono ?_); rintro r w2 ⟨g, rfl, hg, hb⟩
           have B := Lib.hid hb
           have hl := hg.lt
           have z0 : w2.cell? ⟨g, 5, none⟩ = some (.string str) := by rw [hg.cell 5, List.getElem?_map, HZ.out]; rfl
           clear hg hb))
      refine bodyPost_ret ?_ rfl ⟨rfl, B.out⟩
      simp [results, Try.results11, go_sem, ans9]
      decide
set_option maxHeartbeats 8000000 in
theorem rstep_t6 (k : Int) (hk : k = 1 ∨ k = 0 ∨ k = 2 ∨ k = 3 ∨ k = 8 ∨ k = 5) (fin : Bool) : Calls Try.prog 11 #[.int .i64 6, .bool true, .int .i64 k, .bool fin] w fun r w' => r = .returned (ans9 (stepV 6 true k fin)) ∧ Below w.heap.size w w' := by
  have HT : Hid ((bif true then rowsT else rowsF) = rowsT) := rfl
  obtain ⟨str, hstr⟩ : ∃ s : ByteArray, s = ⟨#[78, 46, 46, 32, 78, 46, 46, 32, 84, 46, 46, 32, 78, 46, 46, 32, 78, 46, 46, 32, 78, 46, 46]⟩ := ⟨_, rfl⟩
  have hz : str.size = 23 := by rw [hstr]; rfl
  have HZ : Hid (rowsT[6]? = some str) := by rw [hstr]; rfl
  rcases hk with rfl | rfl | rfl | rfl | rfl | rfl
  · have HC : Hid (colV 1 = 0) := by unfold Hid; decide
    have es : (str.extract 0 3).size = 3 := by rw [hstr]; rfl
    have e0 : ∀ h, (str.extract 0 3)[0]'h = (78 : UInt8) := by subst hstr; intro h; rfl
    have e1 : ∀ h, (str.extract 0 3)[1]'h = (46 : UInt8) := by subst hstr; intro h; rfl
    have e2 : ∀ h, (str.extract 0 3)[2]'h = (46 : UInt8) := by subst hstr; intro h; rfl
    clear hstr
    cases fin
    all_goals
      go_enter Try.func11, Try.ntmps11
      go_wp2_with (first
        | (go_at_call 35; (with_reducible refine (col_c _ _ HC.out).mono ?_); rintro r w1 ⟨rfl, rfl⟩)
        | (go_at_call 36; (with_reducible refine (tables_c _ _ HT.out).mono ?_); rintro r w2 ⟨g, rfl, hg, hb⟩
           have B := Lib.hid hb
           have hl := hg.lt
           have z0 : w2.cell? ⟨g, 6, none⟩ = some (.string str) := by rw [hg.cell 6, List.getElem?_map, HZ.out]; rfl
           clear hg hb))
      refine bodyPost_ret ?_ rfl ⟨rfl, B.out⟩
      simp [results, Try.results11, go_sem, ans9]
      decide
  · have HC : Hid (colV 0 = 1) := by unfold Hid; decide
    have es : (str.extract 4 7).size = 3 := by rw [hstr]; rfl
    have e0 : ∀ h, (str.extract 4 7)[0]'h = (78 : UInt8) := by subst hstr; intro h; rfl
    have e1 : ∀ h, (str.extract 4 7)[1]'h = (46 : UInt8) := by subst hstr; intro h; rfl
    have e2 : ∀ h, (str.extract 4 7)[2]'h = (46 : UInt8) := by subst hstr; intro h; rfl
    clear hstr
    cases fin
    all_goals
      go_enter Try.func11, Try.ntmps11
      go_wp2_with (first
        | (go_at_call 35; (with_reducible refine (col_c _ _ HC.out).mono ?_); rintro r w1 ⟨rfl, rfl⟩)
        | (go_at_call 36; (with_reducible refine (tables_c _ _ HT.out).mono ?_); rintro r w2 ⟨g, rfl, hg, hb⟩
           have B := Lib.hid hb
           have hl := hg.lt
           have z0 : w2.cell? ⟨g, 6, none⟩ = some (.string str) := by rw [hg.cell 6, List.getElem?_map, HZ.out]; rfl
           clear hg hb))
      refine bodyPost_ret ?_ rfl ⟨rfl, B.out⟩
      simp [results, Try.results11, go_sem, ans9]
      decide
  · have HC : Hid (colV 2 = 2) := by unfold Hid; decide
    have es : (str.extract 8 11).size = 3 := by rw [hstr]; rfl
    have e0 : ∀ h, (str.extract 8 11)[0]'h = (84 : UInt8) := by subst hstr; intro h; rfl
    have e1 : ∀ h, (str.extract 8 11)[1]'h = (46 : UInt8) := by subst hstr; intro h; rfl
    have e2 : ∀ h, (str.extract 8 11)[2]'h = (46 : UInt8) := by subst hstr; intro h; rfl
    clear hstr
    cases fin
    all_goals
      go_enter Try.func11, Try.ntmps11
      go_wp2_with (first
        | (go_at_call 35; (with_reducible refine (col_c _ _ HC.out).mono ?_); rintro r w1 ⟨rfl, rfl⟩)
        | (go_at_call 36; (with_reducible refine (tables_c _ _ HT.out).mono ?_); rintro r w2 ⟨g, rfl, hg, hb⟩
           have B := Lib.hid hb
           have hl := hg.lt
           have z0 : w2.cell? ⟨g, 6, none⟩ = some (.string str) := by rw [hg.cell 6, List.getElem?_map, HZ.out]; rfl
           clear hg hb))
      refine bodyPost_ret ?_ rfl ⟨rfl, B.out⟩
      simp [results, Try.results11, go_sem, ans9]
      decide
  · have HC : Hid (colV 3 = 3) := by unfold Hid; decide
    have es : (str.extract 12 15).size = 3 := by rw [hstr]; rfl
    have e0 : ∀ h, (str.extract 12 15)[0]'h = (78 : UInt8) := by subst hstr; intro h; rfl
    have e1 : ∀ h, (str.extract 12 15)[1]'h = (46 : UInt8) := by subst hstr; intro h; rfl
    have e2 : ∀ h, (str.extract 12 15)[2]'h = (46 : UInt8) := by subst hstr; intro h; rfl
    clear hstr
    cases fin
    all_goals
      go_enter Try.func11, Try.ntmps11
      go_wp2_with (first
        | (go_at_call 35; (with_reducible refine (col_c _ _ HC.out).mono ?_); rintro r w1 ⟨rfl, rfl⟩)
        | (go_at_call 36; (with_reducible refine (tables_c _ _ HT.out).mono ?_); rintro r w2 ⟨g, rfl, hg, hb⟩
           have B := Lib.hid hb
           have hl := hg.lt
           have z0 : w2.cell? ⟨g, 6, none⟩ = some (.string str) := by rw [hg.cell 6, List.getElem?_map, HZ.out]; rfl
           clear hg hb))
      refine bodyPost_ret ?_ rfl ⟨rfl, B.out⟩
      simp [results, Try.results11, go_sem, ans9]
      decide
  · have HC : Hid (colV 8 = 4) := by unfold Hid; decide
    have es : (str.extract 16 19).size = 3 := by rw [hstr]; rfl
    have e0 : ∀ h, (str.extract 16 19)[0]'h = (78 : UInt8) := by subst hstr; intro h; rfl
    have e1 : ∀ h, (str.extract 16 19)[1]'h = (46 : UInt8) := by subst hstr; intro h; rfl
    have e2 : ∀ h, (str.extract 16 19)[2]'h = (46 : UInt8) := by subst hstr; intro h; rfl
    clear hstr
    cases fin
    all_goals
      go_enter Try.func11, Try.ntmps11
      go_wp2_with (first
        | (go_at_call 35; (with_reducible refine (col_c _ _ HC.out).mono ?_); rintro r w1 ⟨rfl, rfl⟩)
        | (go_at_call 36; (with_reducible refine (tables_c _ _ HT.out).mono ?_); rintro r w2 ⟨g, rfl, hg, hb⟩
           have B := Lib.hid hb
           have hl := hg.lt
           have z0 : w2.cell? ⟨g, 6, none⟩ = some (.string str) := by rw [hg.cell 6, List.getElem?_map, HZ.out]; rfl
           clear hg hb))
      refine bodyPost_ret ?_ rfl ⟨rfl, B.out⟩
      simp [results, Try.results11, go_sem, ans9]
      decide
  · have HC : Hid (colV 5 = 5) := by unfold Hid; decide
    have es : (str.extract 20 23).size = 3 := by rw [hstr]; rfl
    have e0 : ∀ h, (str.extract 20 23)[0]'h = (78 : UInt8) := by subst hstr; intro h; rfl
    have e1 : ∀ h, (str.extract 20 23)[1]'h = (46 : UInt8) := by subst hstr; intro h; rfl
    have e2 : ∀ h, (str.extract 20 23)[2]'h = (46 : UInt8) := by subst hstr; intro h; rfl
    clear hstr
    cases fin
    all_goals
      go_enter Try.func11, Try.ntmps11
      go_wp2_with (first
        | (go_at_call 35; (with_reducible refine (col_c _ _ HC.out).mono ?_); rintro r w1 ⟨rfl, rfl⟩)
        | (go_at_call 36; (with_reducible refine (tables_c _ _ HT.out).mono ?_); rintro r w2 ⟨g, rfl, hg, hb⟩
           have B := Lib.hid hb
           have hl := hg.lt
           have z0 : w2.cell? ⟨g, 6, none⟩ = some (.string str) := by rw [hg.cell 6, List.getElem?_map, HZ.out]; rfl
           clear hg hb))
      refine bodyPost_ret ?_ rfl ⟨rfl, B.out⟩
      simp [results, Try.results11, go_sem, ans9]
      decide
set_option maxHeartbeats 8000000 in
theorem rstep_no (s : Int) (b : Bool) (k : Int) (fin : Bool) (x : Ans) (h : isStV s = false) (hx : stepV s b k fin = x) : Calls Try.prog 11 #[.int .i64 s, .bool b, .int .i64 k, .bool fin] w fun r w' => r = .returned (ans9 x) ∧ Below w.heap.size w w' := by
  have e : x = refusesV s := by rw [← hx]; unfold stepV; rw [if_pos h]
  subst e
  have B := Lib.hid (Below.refl w.heap.size w)
  rcases isSt_iff h with ⟨h1, _⟩ | ⟨_, h1⟩ | ⟨_, h1, h2⟩
  · cases h1
  all_goals
    clear h hx
    go_enter Try.func11, Try.ntmps11
    go_wp2
    refine bodyPost_ret ?_ rfl ⟨rfl, B.out⟩
    simp [results, Try.results11, go_sem, ans9, refusesV]
set_option maxHeartbeats 8000000 in
theorem rstep_o (s : Int) (hs : 0 ≤ s ∧ s ≤ 6) (b : Bool) (k : Int) (k1 : ¬ k = 1) (k2 : ¬ k = 0) (k3 : ¬ k = 3) (k4 : ¬ k = 8) (k5 : ¬ k = 5) (k6 : ¬ k = 2) (fin : Bool) (x : Ans) (hx : stepV s b k fin = x) : Calls Try.prog 11 #[.int .i64 s, .bool b, .int .i64 k, .bool fin] w fun r w' => r = .returned (ans9 x) ∧ Below w.heap.size w w' := by
  have e : x = takesV s := by
    rw [← hx]
    have e : isStV s = true := by unfold isStV; rw [decide_eq_true_iff]; exact hs
    unfold stepV sendV getV
    rw [e]
    simp [k1, k2, k3, k4, k5]
  subst e
  have HC : Hid (colV k = -1) := by unfold Hid colV; simp [k1, k2, k3, k4, k5, k6]
  have B := Lib.hid (Below.refl w.heap.size w)
  obtain ⟨h1, h2⟩ := hs
  have h3 : ¬ s < 0 := by omega
  have h4 : ¬ 6 < s := by omega
  clear hx h1 h2 k1 k2 k3 k4 k5 k6
  go_enter Try.func11, Try.ntmps11
  go_wp2_with (first
    | (go_at_call 35; (with_reducible refine (col_c _ _ HC.out).mono ?_); rintro r w1 ⟨rfl, rfl⟩))
  refine bodyPost_ret ?_ rfl ⟨rfl, B.out⟩
  simp [results, Try.results11, go_sem, ans9, takesV]
theorem rstep_c (s : Int) (b : Bool) (k : Int) (fin : Bool) (x : Ans) (hx : stepV s b k fin = x) : Calls Try.prog 11 #[.int .i64 s, .bool b, .int .i64 k, .bool fin] w fun r w' => r = .returned (ans9 x) ∧ Below w.heap.size w w' := by
  rcases hh : isStV s with _ | _
  · exact rstep_no s b k fin x hh hx
  · have hs : 0 ≤ s ∧ s ≤ 6 := by unfold isStV at hh; exact of_decide_eq_true hh
    have ways : (k = 1 ∨ k = 0 ∨ k = 2 ∨ k = 3 ∨ k = 8 ∨ k = 5) ∨ (¬ k = 1 ∧ ¬ k = 0 ∧ ¬ k = 3 ∧ ¬ k = 8 ∧ ¬ k = 5 ∧ ¬ k = 2) := by omega
    rcases ways with hk | ⟨k1, k2, k3, k4, k5, k6⟩
    · subst hx
      rcases seven hs with rfl | rfl | rfl | rfl | rfl | rfl | rfl <;> cases b
      · exact rstep_f0 k hk fin
      · exact rstep_t0 k hk fin
      · exact rstep_f1 k hk fin
      · exact rstep_t1 k hk fin
      · exact rstep_f2 k hk fin
      · exact rstep_t2 k hk fin
      · exact rstep_f3 k hk fin
      · exact rstep_t3 k hk fin
      · exact rstep_f4 k hk fin
      · exact rstep_t4 k hk fin
      · exact rstep_f5 k hk fin
      · exact rstep_t5 k hk fin
      · exact rstep_f6 k hk fin
      · exact rstep_t6 k hk fin
    · exact rstep_o s hs b k k1 k2 k3 k4 k5 k6 fin x hx
end
end Go.Proofs.Ytdpheliekdgnhaa
