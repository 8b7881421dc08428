/- Stage 9: the document's Step. -/
import Derived.Test.YtdpheliekdgnhaaNiC
import Derived.Great.BuildSlice
namespace Go.Proofs.Ytdpheliekdgnhaa
open Go.RowKit Go.Own Go.Sm
set_option linter.unusedVariables false
set_option linter.unusedSimpArgs false
set_option maxRecDepth 100000
def colV (k : Int) : Int := if k = 1 then 0 else if k = 0 then 1 else if k = 2 then 2 else if k = 3 then 3 else if k = 8 then 4 else if k = 5 then 5 else -1
section
variable {w : World}
theorem col_c (k : Int) (c : Int) (h : colV k = c) : Calls Try.prog 35 #[.int .i64 k] w fun r w' => r = .returned (.int .i64 c) ∧ w' = w := by
  have key : (k = 1 ∧ c = 0) ∨ (k = 0 ∧ c = 1) ∨ (k = 2 ∧ c = 2) ∨ (k = 3 ∧ c = 3) ∨ (k = 8 ∧ c = 4) ∨ (k = 5 ∧ c = 5) ∨ (¬ k = 1 ∧ ¬ k = 0 ∧ ¬ k = 2 ∧ ¬ k = 3 ∧ ¬ k = 8 ∧ ¬ k = 5 ∧ c = -1) := by
    subst h
    unfold colV
    (repeat' split) <;> omega
  clear h
  rcases key with ⟨rfl, rfl⟩ | ⟨rfl, rfl⟩ | ⟨rfl, rfl⟩ | ⟨rfl, rfl⟩ | ⟨rfl, rfl⟩ | ⟨rfl, rfl⟩ | ⟨h1, h2, h3, h4, h5, h6, rfl⟩
  all_goals
    go_enter Try.func35, Try.ntmps35
    go_wp2
    go_ret
    exact ⟨rfl, rfl⟩
def rowsT : List ByteArray := [⟨#[84, 49, 50, 32, 78, 46, 46, 32, 84, 46, 46, 32, 78, 46, 46, 32, 78, 46, 46, 32, 78, 46, 46]⟩, ⟨#[84, 49, 50, 32, 84, 49, 50, 32, 84, 46, 46, 32, 84, 53, 53, 32, 84, 46, 46, 32, 78, 46, 46]⟩, ⟨#[78, 46, 46, 32, 78, 46, 46, 32, 84, 46, 46, 32, 84, 53, 53, 32, 84, 46, 46, 32, 78, 46, 46]⟩, ⟨#[84, 51, 52, 32, 84, 51, 52, 32, 84, 46, 46, 32, 84, 53, 53, 32, 84, 46, 46, 32, 78, 46, 46]⟩, ⟨#[78, 46, 46, 32, 78, 46, 46, 32, 84, 46, 46, 32, 78, 46, 46, 32, 78, 46, 46, 32, 78, 46, 46]⟩, ⟨#[78, 46, 46, 32, 78, 46, 46, 32, 84, 46, 46, 32, 78, 46, 46, 32, 78, 46, 46, 32, 78, 46, 46]⟩, ⟨#[78, 46, 46, 32, 78, 46, 46, 32, 84, 46, 46, 32, 78, 46, 46, 32, 78, 46, 46, 32, 78, 46, 46]⟩]
def rowsF : List ByteArray := [⟨#[84, 49, 51, 32, 66, 46, 46, 32, 84, 46, 46, 32, 66, 46, 46, 32, 66, 46, 46, 32, 66, 46, 46]⟩, ⟨#[84, 49, 51, 32, 84, 49, 51, 32, 84, 46, 46, 32, 84, 54, 54, 32, 84, 46, 46, 32, 66, 46, 46]⟩, ⟨#[84, 50, 52, 32, 84, 50, 52, 32, 84, 46, 46, 32, 84, 54, 54, 32, 84, 46, 46, 32, 66, 46, 46]⟩, ⟨#[82, 53, 53, 32, 82, 53, 53, 32, 84, 46, 46, 32, 84, 54, 54, 32, 84, 46, 46, 32, 66, 46, 46]⟩, ⟨#[67, 46, 46, 32, 67, 46, 46, 32, 84, 46, 46, 32, 73, 46, 46, 32, 73, 46, 46, 32, 66, 46, 46]⟩, ⟨#[73, 46, 46, 32, 73, 46, 46, 32, 84, 46, 46, 32, 73, 46, 46, 32, 73, 46, 46, 32, 66, 46, 46]⟩, ⟨#[82, 53, 53, 32, 82, 53, 53, 32, 84, 46, 46, 32, 73, 46, 46, 32, 82, 53, 53, 32, 66, 46, 46]⟩]

theorem tables_c (b : Bool) (l : List ByteArray) (hl : (bif b then rowsT else rowsF) = l) : Calls Try.prog 36 #[.bool b] w fun r w' => ∃ g, r = .returned (.slice (some ⟨g, 0, none⟩) 7 7) ∧ Blk w' g 9 (l.map .string) ∧ Below w.heap.size w w' := by
  subst hl
  cases b
  · go_enter Try.func36, Try.ntmps36
    go_wp2
    go_ret
    refine ⟨_, rfl, Blk.new w 9 (List.map Value.string rowsF), ?_⟩
    exact (Below.refl _ _).alloc (Nat.le_refl _) _
  · go_enter Try.func36, Try.ntmps36
    go_wp2
    go_ret
    refine ⟨_, rfl, Blk.new w 9 (List.map Value.string rowsT), ?_⟩
    exact (Below.refl _ _).alloc (Nat.le_refl _) _

set_option maxHeartbeats 8000000 in
theorem rstep_f0 (k : Int) (hk : k = 1 ∨ k = 0 ∨ k = 2 ∨ k = 3 ∨ k = 8 ∨ k = 5) (fin : Bool) : Calls Try.prog 11 #[.int .i64 0, .bool false, .int .i64 k, .bool fin] w fun r w' => r = .returned (ans9 (stepV 0 false k fin)) ∧ Below w.heap.size w w' := by
  have HT : Hid ((bif false then rowsT else rowsF) = rowsF) := rfl
  obtain ⟨str, hstr⟩ : ∃ s : ByteArray, s = ⟨#[84, 49, 51, 32, 66, 46, 46, 32, 84, 46, 46, 32, 66, 46, 46, 32, 66, 46, 46, 32, 66, 46, 46]⟩ := ⟨_, rfl⟩
  have hz : str.size = 23 := by rw [hstr]; rfl
  have HZ : Hid (rowsF[0]? = some str) := by rw [hstr]; rfl
  rcases hk with rfl | rfl | rfl | rfl | rfl | rfl
  · have HC : Hid (colV 1 = 0) := by unfold Hid; decide
    have es : (str.extract 0 3).size = 3 := by rw [hstr]; rfl
    have e0 : ∀ h, (str.extract 0 3)[0]'h = (84 : UInt8) := by subst hstr; intro h; rfl
    have e1 : ∀ h, (str.extract 0 3)[1]'h = (49 : UInt8) := by subst hstr; intro h; rfl
    have e2 : ∀ h, (str.extract 0 3)[2]'h = (51 : UInt8) := by subst hstr; intro h; rfl
    clear hstr
    cases fin
    all_goals
      go_enter Try.func11, Try.ntmps11
      go_wp2_with (first
        | (go_at_call 35; (with_reducible refine (col_c _ _ HC.out).mono ?_); rintro r w1 ⟨rfl, rfl⟩)
        | (go_at_call 36; (with_reducible refine (tables_c _ _ HT.out).mono ?_); rintro r w2 ⟨g, rfl, hg, hb⟩
           have B := Lib.hid hb
           have hl := hg.lt
           have z0 : w2.cell? ⟨g, 0, none⟩ = some (.string str) := by rw [hg.cell 0, List.getElem?_map, HZ.out]; rfl
           clear hg hb))
      refine bodyPost_ret ?_ rfl ⟨rfl, B.out⟩
      simp [results, Try.results11, go_sem, ans9]
      decide
  · have HC : Hid (colV 0 = 1) := by unfold Hid; decide
    have es : (str.extract 4 7).size = 3 := by rw [hstr]; rfl
    have e0 : ∀ h, (str.extract 4 7)[0]'h = (66 : UInt8) := by subst hstr; intro h; rfl
    have e1 : ∀ h, (str.extract 4 7)[1]'h = (46 : UInt8) := by subst hstr; intro h; rfl
    have e2 : ∀ h, (str.extract 4 7)[2]'h = (46 : UInt8) := by subst hstr; intro h; rfl
    clear hstr
    cases fin
    all_goals
      go_enter Try.func11, Try.ntmps11
      go_wp2_with (first
        | (go_at_call 35; (with_reducible refine (col_c _ _ HC.out).mono ?_); rintro r w1 ⟨rfl, rfl⟩)
        | (go_at_call 36; (with_reducible refine (tables_c _ _ HT.out).mono ?_); rintro r w2 ⟨g, rfl, hg, hb⟩
           have B := Lib.hid hb
           have hl := hg.lt
           have z0 : w2.cell? ⟨g, 0, none⟩ = some (.string str) := by rw [hg.cell 0, List.getElem?_map, HZ.out]; rfl
           clear hg hb))
      refine bodyPost_ret ?_ rfl ⟨rfl, B.out⟩
      simp [results, Try.results11, go_sem, ans9]
      decide
  · have HC : Hid (colV 2 = 2) := by unfold Hid; decide
    have es : (str.extract 8 11).size = 3 := by rw [hstr]; rfl
    have e0 : ∀ h, (str.extract 8 11)[0]'h = (84 : UInt8) := by subst hstr; intro h; rfl
    have e1 : ∀ h, (str.extract 8 11)[1]'h = (46 : UInt8) := by subst hstr; intro h; rfl
    have e2 : ∀ h, (str.extract 8 11)[2]'h = (46 : UInt8) := by subst hstr; intro h; rfl
    clear hstr
    cases fin
    all_goals
      go_enter Try.func11, Try.ntmps11
      go_wp2_with (first
        | (go_at_call 35; (with_reducible refine (col_c _ _ HC.out).mono ?_); rintro r w1 ⟨rfl, rfl⟩)
        | (go_at_call 36; (with_reducible refine (tables_c _ _ HT.out).mono ?_); rintro r w2 ⟨g, rfl, hg, hb⟩
           have B := Lib.hid hb
           have hl := hg.lt
           have z0 : w2.cell? ⟨g, 0, none⟩ = some (.string str) := by rw [hg.cell 0, List.getElem?_map, HZ.out]; rfl
           clear hg hb))
      refine bodyPost_ret ?_ rfl ⟨rfl, B.out⟩
      simp [results, Try.results11, go_sem, ans9]
      decide
  · have HC : Hid (colV 3 = 3) := by unfold Hid; decide
    have es : (str.extract 12 15).size = 3 := by rw [hstr]; rfl
    have e0 : ∀ h, (str.extract 12 15)[0]'h = (66 : UInt8) := by subst hstr; intro h; rfl
    have e1 : ∀ h, (str.extract 12 15)[1]'h = (46 : UInt8) := by subst hstr; intro h; rfl
    have e2 : ∀ h, (str.extract 12 15)[2]'h = (46 : UInt8) := by subst hstr; intro h; rfl
    clear hstr
    cases fin
    all_goals
      go_enter Try.func11, Try.ntmps11
      go_wp2_with (first
        | (go_at_call 35; (with_reducible refine (col_c _ _ HC.out).mono ?_); rintro r w1 ⟨rfl, rfl⟩)
        | (go_at_call 36; (with_reducible refine (tables_c _ _ HT.out).mono ?_); rintro r w2 ⟨g, rfl, hg, hb⟩
           have B := Lib.hid hb
           have hl := hg.lt
           have z0 : w2.cell? ⟨g, 0, none⟩ = some (.string str) := by rw [hg.cell 0, List.getElem?_map, HZ.out]; rfl
           clear hg hb))
      refine bodyPost_ret ?_ rfl ⟨rfl, B.out⟩
      simp [results, Try.results11, go_sem, ans9]
      decide
  · have HC : Hid (colV 8 = 4) := by unfold Hid; decide
    have es : (str.extract 16 19).size = 3 := by rw [hstr]; rfl
    have e0 : ∀ h, (str.extract 16 19)[0]'h = (66 : UInt8) := by subst hstr; intro h; rfl
    have e1 : ∀ h, (str.extract 16 19)[1]'h = (46 : UInt8) := by subst hstr; intro h; rfl
    have e2 : ∀ h, (str.extract 16 19)[2]'h = (46 : UInt8) := by subst hstr; intro h; rfl
    clear hstr
    cases fin
    all_goals
      go_enter Try.func11, Try.ntmps11
      go_wp2_with (first
        | (go_at_call 35; (with_reducible refine (col_c _ _ HC.out).mono ?_); rintro r w1 ⟨rfl, rfl⟩)
        | (go_at_call 36; (with_reducible refine (tables_c _ _ HT.out).mono ?_); rintro r w2 ⟨g, rfl, hg, hb⟩
           have B := Lib.hid hb
           have hl := hg.lt
           have z0 : w2.cell? ⟨g, 0, none⟩ = some (.string str) := by rw [hg.cell 0, List.getElem?_map, HZ.out]; rfl
           clear hg hb))
      refine bodyPost_ret ?_ rfl ⟨rfl, B.out⟩
      simp [results, Try.results11, go_sem, ans9]
      decide
  · have HC : Hid (colV 5 = 5) := by unfold Hid; decide
    have es : (str.extract 20 23).size = 3 := by rw [hstr]; rfl
    have e0 : ∀ h, (str.extract 20 23)[0]'h = (66 : UInt8) := by subst hstr; intro h; rfl
    have e1 : ∀ h, (str.extract 20 23)[1]'h = (46 : UInt8) := by subst hstr; intro h; rfl
    have e2 : ∀ h, (str.extract 20 23)[2]'h = (46 : UInt8) := by subst hstr; intro h; rfl
    clear hstr
    cases fin
    all_goals
      go_enter Try.func11, Try.ntmps11
      go_wp2_with (first
        | (go_at_call 35; (with_reducible refine (col_c _ _ HC.out).mono ?_); rintro r w1 ⟨rfl, rfl⟩)
        | (go_at_call 36; (with_reducible refine (tables_c _ _ HT.out).mono ?_); rintro r w2 ⟨g, rfl, hg, hb⟩
           have B := Lib.hid hb
           have hl := hg.lt
           have z0 : w2.cell? ⟨g, 0, none⟩ = some (.string str) := by rw [hg.cell 0, List.getElem?_map, HZ.out]; rfl
           clear hg hb))
      refine bodyPost_ret ?_ rfl ⟨rfl, B.out⟩
      simp [results, Try.results11, go_sem, ans9]
      decide
set_option maxHeartbeats 8000000 in
theorem rstep_f1 (k : Int) (hk : k = 1 ∨ k = 0 ∨ k = 2 ∨ k = 3 ∨ k = 8 ∨ k = 5) (fin : Bool) : Calls Try.prog 11 #[.int .i64 1, .bool false, .int .i64 k, .bool fin] w fun r w' => r = .returned (ans9 (stepV 1 false k fin)) ∧ Below w.heap.size w w' := by
  have HT : Hid ((bif false then rowsT else rowsF) = rowsF) := rfl
  obtain ⟨str, hstr⟩ : ∃ s : ByteArray, s = ⟨#[84, 49, 51, 32, 84, 49, 51, 32, 84, 46, 46, 32, 84, 54, 54, 32, 84, 46, 46, 32, 66, 46, 46]⟩ := ⟨_, rfl⟩
  have hz : str.size = 23 := by rw [hstr]; rfl
  have HZ : Hid (rowsF[1]? = some str) := by rw [hstr]; rfl
  rcases hk with rfl | rfl | rfl | rfl | rfl | rfl
  · have HC : Hid (colV 1 = 0) := by unfold Hid; decide
    have es : (str.extract 0 3).size = 3 := by rw [hstr]; rfl
    have e0 : ∀ h, (str.extract 0 3)[0]'h = (84 : UInt8) := by subst hstr; intro h; rfl
    have e1 : ∀ h, (str.extract 0 3)[1]'h = (49 : UInt8) := by subst hstr; intro h; rfl
    have e2 : ∀ h, (str.extract 0 3)[2]'h = (51 : UInt8) := by subst hstr; intro h; rfl
    clear hstr
    cases fin
    all_goals
      go_enter Try.func11, Try.ntmps11
      go_wp2_with (first
        | (go_at_call 35; (with_reducible refine (col_c _ _ HC.out).mono ?_); rintro r w1 ⟨rfl, rfl⟩)
        | (go_at_call 36; (with_reducible refine (tables_c _ _ HT.out).mono ?_); rintro r w2 ⟨g, rfl, hg, hb⟩
           have B := Lib.hid hb
           have hl := hg.lt
           have z0 : w2.cell? ⟨g, 1, none⟩ = some (.string str) := by rw [hg.cell 1, List.getElem?_map, HZ.out]; rfl
           clear hg hb))
      refine bodyPost_ret ?_ rfl ⟨rfl, B.out⟩
      simp [results, Try.results11, go_sem, ans9]
      decide
  · have HC : Hid (colV 0 = 1) := by unfold Hid; decide
    have es : (str.extract 4 7).size = 3 := by rw [hstr]; rfl
    have e0 : ∀ h, (str.extract 4 7)[0]'h = (84 : UInt8) := by subst hstr; intro h; rfl
    have e1 : ∀ h, (str.extract 4 7)[1]'h = (49 : UInt8) := by subst hstr; intro h; rfl
    have e2 : ∀ h, (str.extract 4 7)[2]'h = (51 : UInt8) := by subst hstr; intro h; rfl
    clear hstr
    cases fin
    all_goals
      go_enter Try.func11, Try.ntmps11
      go_wp2_with (first
        | (go_at_call 35; (with_reducible refine (col_c _ _ HC.out).mono ?_); rintro r w1 ⟨rfl, rfl⟩)
        | (go_at_call 36; (with_reducible refine (tables_c _ _ HT.out).mono ?_); rintro r w2 ⟨g, rfl, hg, hb⟩
           have B := Lib.hid hb
           have hl := hg.lt
           have z0 : w2.cell? ⟨g, 1, none⟩ = some (.string str) := by rw [hg.cell 1, List.getElem?_map, HZ.out]; rfl
           clear hg hb))
      refine bodyPost_ret ?_ rfl ⟨rfl, B.out⟩
      simp [results, Try.results11, go_sem, ans9]
      decide
  · have HC : Hid (colV 2 = 2) := by unfold Hid; decide
    have es : (str.extract 8 11).size = 3 := by rw [hstr]; rfl
    have e0 : ∀ h, (str.extract 8 11)[0]'h = (84 : UInt8) := by subst hstr; intro h; rfl
    have e1 : ∀ h, (str.extract 8 11)[1]'h = (46 : UInt8) := by subst hstr; intro h; rfl
    have e2 : ∀ h, (str.extract 8 11)[2]'h = (46 : UInt8) := by subst hstr; intro h; rfl
    clear hstr
    cases fin
    all_goals
      go_enter Try.func11, Try.ntmps11
      go_wp2_with (first
        | (go_at_call 35; (with_reducible refine (col_c _ _ HC.out).mono ?_); rintro r w1 ⟨rfl, rfl⟩)
        | (go_at_call 36; (with_reducible refine (tables_c _ _ HT.out).mono ?_); rintro r w2 ⟨g, rfl, hg, hb⟩
           have B := Lib.hid hb
           have hl := hg.lt
           have z0 : w2.cell? ⟨g, 1, none⟩ = some (.string str) := by rw [hg.cell 1, List.getElem?_map, HZ.out]; rfl
           clear hg hb))
      refine bodyPost_ret ?_ rfl ⟨rfl, B.out⟩
      simp [results, Try.results11, go_sem, ans9]
      decide
  · have HC : Hid (colV 3 = 3) := by unfold Hid; decide
    have es : (str.extract 12 15).size = 3 := by rw [hstr]; rfl
    have e0 : ∀ h, (str.extract 12 15)[0]'h = (84 : UInt8) := by subst hstr; intro h; rfl
    have e1 : ∀ h, (str.extract 12 15)[1]'h = (54 : UInt8) := by subst hstr; intro h; rfl
    have e2 : ∀ h, (str.extract 12 15)[2]'h = (54 : UInt8) := by subst hstr; intro h; rfl
    clear hstr
    cases fin
    all_goals
      go_enter Try.func11, Try.ntmps11
      go_wp2_with (first
        | (go_at_call 35; (with_reducible refine (col_c _ _ HC.out).mono ?_); rintro r w1 ⟨rfl, rfl⟩)
        | (go_at_call 36; (with_reducible refine (tables_c _ _ HT.out).mono ?_); rintro r w2 ⟨g, rfl, hg, hb⟩
           have B := Lib.hid hb
           have hl := hg.lt
           have z0 : w2.cell? ⟨g, 1, none⟩ = some (.string str) := by rw [hg.cell 1, List.getElem?_map, HZ.out]; rfl
           clear hg hb))
      refine bodyPost_ret ?_ rfl ⟨rfl, B.out⟩
      simp [results, Try.results11, go_sem, ans9]
      decide
  · have HC : Hid (colV 8 = 4) := by unfold Hid; decide
    have es : (str.extract 16 19).size = 3 := by rw [hstr]; rfl
    have e0 : ∀ h, (str.extract 16 19)[0]'h = (84 : UInt8) := by subst hstr; intro h; rfl
    have e1 : ∀ h, (str.extract 16 19)[1]'h = (46 : UInt8) := by subst hstr; intro h; rfl
    have e2 : ∀ h, (str.extract 16 19)[2]'h = (46 : UInt8) := by subst hstr; intro h; rfl
    clear hstr
    cases fin
    all_goals
      go_enter Try.func11, Try.ntmps11
      go_wp2_with (first
        | (go_at_call 35; (with_reducible refine (col_c _ _ HC.out).mono ?_); rintro r w1 ⟨rfl, rfl⟩)
        | (go_at_call 36; (with_reducible refine (tables_c _ _ HT.out).mono ?_); rintro r w2 ⟨g, rfl, hg, hb⟩
           have B := Lib.hid hb
           have hl := hg.lt
           have z0 : w2.cell? ⟨g, 1, none⟩ = some (.string str) := by rw [hg.cell 1, List.getElem?_map, HZ.out]; rfl
           clear hg hb))
      refine bodyPost_ret ?_ rfl ⟨rfl, B.out⟩
      simp [results, Try.results11, go_sem, ans9]
      decide
  · have HC : Hid (colV 5 = 5) := by unfold Hid; decide
    have es : (str.extract 20 23).size = 3 := by rw [hstr]; rfl
    have e0 : ∀ h, (str.extract 20 23)[0]'h = (66 : UInt8) := by subst hstr; intro h; rfl
    have e1 : ∀ h, (str.extract 20 23)[1]'h = (46 : UInt8) := by subst hstr; intro h; rfl
    have e2 : ∀ h, (str.extract 20 23)[2]'h = (46 : UInt8) := by subst hstr; intro h; rfl
    clear hstr
    cases fin
    all_goals
      go_enter Try.func11, Try.ntmps11
      go_wp2_with (first
        | (go_at_call 35; (with_reducible refine (col_c _ _ HC.out).mono ?_); rintro r w1 ⟨rfl, rfl⟩)
        | (go_at_call 36; (with_reducible refine (tables_c _ _ HT.out).mono ?_); rintro r w2 ⟨g, rfl, hg, hb⟩
           have B := Lib.hid hb
           have hl := hg.lt
           have z0 : w2.cell? ⟨g, 1, none⟩ = some (.string str) := by rw [hg.cell 1, List.getElem?_map, HZ.out]; rfl
           clear hg hb))
      refine bodyPost_ret ?_ rfl ⟨rfl, B.out⟩
      simp [results, Try.results11, go_sem, ans9]
      decide
set_option maxHeartbeats 8000000 in
theorem rstep_f2 (k : Int) (hk : k = 1 ∨ k = 0 ∨ k = 2 ∨ k = 3 ∨ k = 8 ∨ k = 5) (fin : Bool) : Calls Try.prog 11 #[.int .i64 2, .bool false, .int .i64 k, .bool fin] w fun r w' => r = .returned (ans9 (stepV 2 false k fin)) ∧ Below w.heap.size w w' := by
  have HT : Hid ((bif false then rowsT else rowsF) = rowsF) := rfl
  obtain ⟨str, hstr⟩ : ∃ s : ByteArray, s = ⟨#[84, 50, 52, 32, 84, 50, 52, 32, 84, 46, 46, 32, 84, 54, 54, 32, 84, 46, 46, 32, 66, 46, 46]⟩ := ⟨_, rfl⟩
  have hz : str.size = 23 := by rw [hstr]; rfl
  have HZ : Hid (rowsF[2]? = some str) := by rw [hstr]; rfl
  rcases hk with rfl | rfl | rfl | rfl | rfl | rfl
  · have HC : Hid (colV 1 = 0) := by unfold Hid; decide
    have es : (str.extract 0 3).size = 3 := by rw [hstr]; rfl
    have e0 : ∀ h, (str.extract 0 3)[0]'h = (84 : UInt8) := by subst hstr; intro h; rfl
    have e1 : ∀ h, (str.extract 0 3)[1]'h = (50 : UInt8) := by subst hstr; intro h; rfl
    have e2 : ∀ h, (str.extract 0 3)[2]'h = (52 : UInt8) := by subst hstr; intro h; rfl
    clear hstr
    cases fin
    all_goals
      go_enter Try.func11, Try.ntmps11
      go_wp2_with (first
        | (go_at_call 35; (with_reducible refine (col_c _ _ HC.out).mono ?_); rintro r w1 ⟨rfl, rfl⟩)
        | (go_at_call 36; (with_reducible refine (tables_c _ _ HT.out).mono ?_); rintro r w2 ⟨g, rfl, hg, hb⟩
           have B := Lib.hid hb
           have hl := hg.lt
           have z0 : w2.cell? ⟨g, 2, none⟩ = some (.string str) := by rw [hg.cell 2, List.getElem?_map, HZ.out]; rfl
           clear hg hb))
      refine bodyPost_ret ?_ rfl ⟨rfl, B.out⟩
      simp [results, Try.results11, go_sem, ans9]
      decide
  · have HC : Hid (colV 0 = 1) := by unfold Hid; decide
    have es : (str.extract 4 7).size = 3 := by rw [hstr]; rfl
    have e0 : ∀ h, (str.extract 4 7)[0]'h = (84 : UInt8) := by subst hstr; intro h; rfl
    have e1 : ∀ h, (str.extract 4 7)[1]'h = (50 : UInt8) := by subst hstr; intro h; rfl
    have e2 : ∀ h, (str.extract 4 7)[2]'h = (52 : UInt8) := by subst hstr; intro h; rfl
    clear hstr
    cases fin
    all_goals
      go_enter Try.func11, Try.ntmps11
      go_wp2_with (first
        | (go_at_call 35; (with_reducible refine (col_c _ _ HC.out).mono ?_); rintro r w1 ⟨rfl, rfl⟩)
        | (go_at_call 36; (with_reducible refine (tables_c _ _ HT.out).mono ?_); rintro r w2 ⟨g, rfl, hg, hb⟩
           have B := Lib.hid hb
           have hl := hg.lt
           have z0 : w2.cell? ⟨g, 2, none⟩ = some (.string str) := by rw [hg.cell 2, List.getElem?_map, HZ.out]; rfl
           clear hg hb))
      refine bodyPost_ret ?_ rfl ⟨rfl, B.out⟩
      simp [results, Try.results11, go_sem, ans9]
      decide
  · have HC : Hid (colV 2 = 2) := by unfold Hid; decide
    have es : (str.extract 8 11).size = 3 := by rw [hstr]; rfl
    have e0 : ∀ h, (str.extract 8 11)[0]'h = (84 : UInt8) := by subst hstr; intro h; rfl
    have e1 : ∀ h, (str.extract 8 11)[1]'h = (46 : UInt8) := by subst hstr; intro h; rfl
    have e2 : ∀ h, (str.extract 8 11)[2]'h = (46 : UInt8) := by subst hstr; intro h; rfl
    clear hstr
    cases fin
    all_goals
      go_enter Try.func11, Try.ntmps11
      go_wp2_with (first
        | (go_at_call 35; (with_reducible refine (col_c _ _ HC.out).mono ?_); rintro r w1 ⟨rfl, rfl⟩)
        | (go_at_call 36; (with_reducible refine (tables_c _ _ HT.out).mono ?_); rintro r w2 ⟨g, rfl, hg, hb⟩
           have B := Lib.hid hb
           have hl := hg.lt
           have z0 : w2.cell? ⟨g, 2, none⟩ = some (.string str) := by rw [hg.cell 2, List.getElem?_map, HZ.out]; rfl
           clear hg hb))
      refine bodyPost_ret ?_ rfl ⟨rfl, B.out⟩
      simp [results, Try.results11, go_sem, ans9]
      decide
  · have HC : Hid (colV 3 = 3) := by unfold Hid; decide
    have es : (str.extract 12 15).size = 3 := by rw [hstr]; rfl
    have e0 : ∀ h, (str.extract 12 15)[0]'h = (84 : UInt8) := by subst hstr; intro h; rfl
    have e1 : ∀ h, (str.extract 12 15)[1]'h = (54 : UInt8) := by subst hstr; intro h; rfl
    have e2 : ∀ h, (str.extract 12 15)[2]'h = (54 : UInt8) := by subst hstr; intro h; rfl
    clear hstr
    cases fin
    all_goals
      go_enter Try.func11, Try.ntmps11
      go_wp2_with (first
        | (go_at_call 35; (with_reducible refine (col_c _ _ HC.out).mono ?_); rintro r w1 ⟨rfl, rfl⟩)
        | (go_at_call 36; (with_reducible refine (tables_c _ _ HT.out).mono ?_); rintro r w2 ⟨g, rfl, hg, hb⟩
           have B := Lib.hid hb
           have hl := hg.lt
           have z0 : w2.cell? ⟨g, 2, none⟩ = some (.string str) := by rw [hg.cell 2, List.getElem?_map, HZ.out]; rfl
           clear hg hb))
      refine bodyPost_ret ?_ rfl ⟨rfl, B.out⟩
      simp [results, Try.results11, go_sem, ans9]
      decide
  · have HC : Hid (colV 8 = 4) := by unfold Hid; decide
    have es : (str.extract 16 19).size = 3 := by rw [hstr]; rfl
    have e0 : ∀ h, (str.extract 16 19)[0]'h = (84 : UInt8) := by subst hstr; intro h; rfl
    have e1 : ∀ h, (str.extract 16 19)[1]'h = (46 : UInt8) := by subst hstr; intro h; rfl
    have e2 : ∀ h, (str.extract 16 19)[2]'h = (46 : UInt8) := by subst hstr; intro h; rfl
    clear hstr
    cases fin
    all_goals
      go_enter Try.func11, Try.ntmps11
      go_wp2_with (first
        | (go_at_call 35; (with_reducible refine (col_c _ _ HC.out).mono ?_); rintro r w1 ⟨rfl, rfl⟩)
        | (go_at_call 36; (with_reducible refine (tables_c _ _ HT.out).mono ?_); rintro r w2 ⟨g, rfl, hg, hb⟩
           have B := Lib.hid hb
           have hl := hg.lt
           have z0 : w2.cell? ⟨g, 2, none⟩ = some (.string str) := by rw [hg.cell 2, List.getElem?_map, HZ.out]; rfl
           clear hg hb))
      refine bodyPost_ret ?_ rfl ⟨rfl, B.out⟩
      simp [results, Try.results11, go_sem, ans9]
      decide
  · have HC : Hid (colV 5 = 5) := by unfold Hid; decide
    have es : (str.extract 20 23).size = 3 := by rw [hstr]; rfl
    have e0 : ∀ h, (str.extract 20 23)[0]'h = (66 : UInt8) := by subst hstr; intro h; rfl
    have e1 : ∀ h, (str.extract 20 23)[1]'h = (46 : UInt8) := by subst hstr; intro h; rfl
    have e2 : ∀ h, (str.extract 20 23)[2]'h = (46 : UInt8) := by subst hstr; intro h; rfl
    clear hstr
    cases fin
    all_goals
      go_enter Try.func11, Try.ntmps11
      go_wp2_with (first
        | (go_at_call 35; (with_reducible refine (col_c _ _ HC.out).mono ?_); rintro r w1 ⟨rfl, rfl⟩)
        | (go_at_call 36; (with_reducible refine (tables_c _ _ HT.out).mono ?_); rintro r w2 ⟨g, rfl, hg, hb⟩
           have B := Lib.hid hb
           have hl := hg.lt
           have z0 : w2.cell? ⟨g, 2, none⟩ = some (.string str) := by rw [hg.cell 2, List.getElem?_map, HZ.out]; rfl
           clear hg hb))
      refine bodyPost_ret ?_ rfl ⟨rfl, B.out⟩
      simp [results, Try.results11, go_sem, ans9]
      decide
set_option maxHeartbeats 8000000 in
theorem rstep_f3 (k : Int) (hk : k = 1 ∨ k = 0 ∨ k = 2 ∨ k = 3 ∨ k = 8 ∨ k = 5) (fin : Bool) : Calls Try.prog 11 #[.int .i64 3, .bool false, .int .i64 k, .bool fin] w fun r w' => r = .returned (ans9 (stepV 3 false k fin)) ∧ Below w.heap.size w w' := by
  have HT : Hid ((bif false then rowsT else rowsF) = rowsF) := rfl
  obtain ⟨str, hstr⟩ : ∃ s : ByteArray, s = ⟨#[82, 53, 53, 32, 82, 53, 53, 32, 84, 46, 46, 32, 84, 54, 54, 32, 84, 46, 46, 32, 66, 46, 46]⟩ := ⟨_, rfl⟩
  have hz : str.size = 23 := by rw [hstr]; rfl
  have HZ : Hid (rowsF[3]? = some str) := by rw [hstr]; rfl
  rcases hk with rfl | rfl | rfl | rfl | rfl | rfl
  · have HC : Hid (colV 1 = 0) := by unfold Hid; decide
    have es : (str.extract 0 3).size = 3 := by rw [hstr]; rfl
    have e0 : ∀ h, (str.extract 0 3)[0]'h = (82 : UInt8) := by subst hstr; intro h; rfl
    have e1 : ∀ h, (str.extract 0 3)[1]'h = (53 : UInt8) := by subst hstr; intro h; rfl
    have e2 : ∀ h, (str.extract 0 3)[2]'h = (53 : UInt8) := by subst hstr; intro h; rfl
    clear hstr
    cases fin
    all_goals
      go_enter Try.func11, Try.ntmps11
      go_wp2_with (first
        | (go_at_call 35; (with_reducible refine (col_c _ _ HC.out).mono ?_); rintro r w1 ⟨rfl, rfl⟩)
        | (go_at_call 36; (with_reducible refine (tables_c _ _ HT.out).mono ?_); rintro r w2 ⟨g, rfl, hg, hb⟩
           have B := Lib.hid hb
           have hl := hg.lt
           have z0 : w2.cell? ⟨g, 3, none⟩ = some (.string str) := by rw [hg.cell 3, List.getElem?_map, HZ.out]; rfl
           clear hg hb))
      refine bodyPost_ret ?_ rfl ⟨rfl, B.out⟩
      simp [results, Try.results11, go_sem, ans9]
      decide
  · have HC : Hid (colV 0 = 1) := by unfold Hid; decide
    have es : (str.extract 4 7).size = 3 := by rw [hstr]; rfl
    have e0 : ∀ h, (str.extract 4 7)[0]'h = (82 : UInt8) := by subst hstr; intro h; rfl
    have e1 : ∀ h, (str.extract 4 7)[1]'h = (53 : UInt8) := by subst hstr; intro h; rfl
    have e2 : ∀ h, (str.extract 4 7)[2]'h = (53 : UInt8) := by subst hstr; intro h; rfl
    clear hstr
    cases fin
    all_goals
      go_enter Try.func11, Try.ntmps11
      go_wp2_with (first
        | (go_at_call 35; (with_reducible refine (col_c _ _ HC.out).mono ?_); rintro r w1 ⟨rfl, rfl⟩)
        | (go_at_call 36; (with_reducible refine (tables_c _ _ HT.out).mono ?_); rintro r w2 ⟨g, rfl, hg, hb⟩
           have B := Lib.hid hb
           have hl := hg.lt
           have z0 : w2.cell? ⟨g, 3, none⟩ = some (.string str) := by rw [hg.cell 3, List.getElem?_map, HZ.out]; rfl
           clear hg hb))
      refine bodyPost_ret ?_ rfl ⟨rfl, B.out⟩
      simp [results, Try.results11, go_sem, ans9]
      decide
  · have HC : Hid (colV 2 = 2) := by unfold Hid; decide
    have es : (str.extract 8 11).size = 3 := by rw [hstr]; rfl
    have e0 : ∀ h, (str.extract 8 11)[0]'h = (84 : UInt8) := by subst hstr; intro h; rfl
    have e1 : ∀ h, (str.extract 8 11)[1]'h = (46 : UInt8) := by subst hstr; intro h; rfl
    have e2 : ∀ h, (str.extract 8 11)[2]'h = (46 : UInt8) := by subst hstr; intro h; rfl
    clear hstr
    cases fin
    all_goals
      go_enter Try.func11, Try.ntmps11
      go_wp2_with (first
        | (go_at_call 35; (with_reducible refine (col_c _ _ HC.out).mono ?_); rintro r w1 ⟨rfl, rfl⟩)
        | (go_at_call 36; (with_reducible refine (tables_c _ _ HT.out).mono ?_); rintro r w2 ⟨g, rfl, hg, hb⟩
           have B := Lib.hid hb
           have hl := hg.lt
           have z0 : w2.cell? ⟨g, 3, none⟩ = some (.string str) := by rw [hg.cell 3, List.getElem?_map, HZ.out]; rfl
           clear hg hb))
      refine bodyPost_ret ?_ rfl ⟨rfl, B.out⟩
      simp [results, Try.results11, go_sem, ans9]
      decide
  · have HC : Hid (colV 3 = 3) := by unfold Hid; decide
    have es : (str.extract 12 15).size = 3 := by rw [hstr]; rfl
    have e0 : ∀ h, (str.extract 12 15)[0]'h = (84 : UInt8) := by subst hstr; intro h; rfl
    have e1 : ∀ h, (str.extract 12 15)[1]'h = (54 : UInt8) := by subst hstr; intro h; rfl
    have e2 : ∀ h, (str.extract 12 15)[2]'h = (54 : UInt8) := by subst hstr; intro h; rfl
    clear hstr
    cases fin
    all_goals
      go_enter Try.func11, Try.ntmps11
      go_wp2_with (first
        | (go_at_call 35; (with_reducible refine (col_c _ _ HC.out).mono ?_); rintro r w1 ⟨rfl, rfl⟩)
        | (go_at_call 36; (with_reducible refine (tables_c _ _ HT.out).mono ?_); rintro r w2 ⟨g, rfl, hg, hb⟩
           have B := Lib.hid hb
           have hl := hg.lt
           have z0 : w2.cell? ⟨g, 3, none⟩ = some (.string str) := by rw [hg.cell 3, List.getElem?_map, HZ.out]; rfl
           clear hg hb))
      refine bodyPost_ret ?_ rfl ⟨rfl, B.out⟩
      simp [results, Try.results11, go_sem, ans9]
      decide
  · have HC : Hid (colV 8 = 4) := by unfold Hid; decide
    have es : (str.extract 16 19).size = 3 := by rw [hstr]; rfl
    have e0 : ∀ h, (str.extract 16 19)[0]'h = (84 : UInt8) := by subst hstr; intro h; rfl
    have e1 : ∀ h, (str.extract 16 19)[1]'h = (46 : UInt8) := by subst hstr; intro h; rfl
    have e2 : ∀ h, (str.extract 16 19)[2]'h = (46 : UInt8) := by subst hstr; intro h; rfl
    clear hstr
    cases fin
    all_goals
      go_enter Try.func11, Try.ntmps11
      go_wp2_with (first
        | (go_at_call 35; (with_reducible refine (col_c _ _ HC.out).mono ?_); rintro r w1 ⟨rfl, rfl⟩)
        | (go_at_call 36; (with_reducible refine (tables_c _ _ HT.out).mono ?_); rintro r w2 ⟨g, rfl, hg, hb⟩
           have B := Lib.hid hb
           have hl := hg.lt
           have z0 : w2.cell? ⟨g, 3, none⟩ = some (.string str) := by rw [hg.cell 3, List.getElem?_map, HZ.out]; rfl
           clear hg hb))
      refine bodyPost_ret ?_ rfl ⟨rfl, B.out⟩
      simp [results, Try.results11, go_sem, ans9]
      decide
  · have HC : Hid (colV 5 = 5) := by unfold Hid; decide
    have es : (str.extract 20 23).size = 3 := by rw [hstr]; rfl
    have e0 : ∀ h, (str.extract 20 23)[0]'h = (66 : UInt8) := by subst hstr; intro h; rfl
    have e1 : ∀ h, (str.extract 20 23)[1]'h = (46 : UInt8) := by subst hstr; intro h; rfl
    have e2 : ∀ h, (str.extract 20 23)[2]'h = (46 : UInt8) := by subst hstr; intro h; rfl
    clear hstr
    cases fin
    all_goals
      go_enter Try.func11, Try.ntmps11
      go_wp2_with (first
        | (go_at_call 35; (with_reducible refine (col_c _ _ HC.out).mono ?_); rintro r w1 ⟨rfl, rfl⟩)
        | (go_at_call 36; (with_reducible refine (tables_c _ _ HT.out).mono ?_); rintro r w2 ⟨g, rfl, hg, hb⟩
           have B := Lib.hid hb
           have hl := hg.lt
           have z0 : w2.cell? ⟨g, 3, none⟩ = some (.string str) := by rw [hg.cell 3, List.getElem?_map, HZ.out]; rfl
           clear hg hb))
      refine bodyPost_ret ?_ rfl ⟨rfl, B.out⟩
      simp [results, Try.results11, go_sem, ans9]
      decide
set_option maxHeartbeats 8000000 in
theorem rstep_f4 (k : Int) (hk : k = 1 ∨ k = 0 ∨ k = 2 ∨ k = 3 ∨ k = 8 ∨ k = 5) (fin : Bool) : Calls Try.prog 11 #[.int .i64 4, .bool false, .int .i64 k, .bool fin] w fun r w' => r = .returned (ans9 (stepV 4 false k fin)) ∧ Below w.heap.size w w' := by
  have HT : Hid ((bif false then rowsT else rowsF) = rowsF) := rfl
  obtain ⟨str, hstr⟩ : ∃ s : ByteArray, s = ⟨#[67, 46, 46, 32, 67, 46, 46, 32, 84, 46, 46, 32, 73, 46, 46, 32, 73, 46, 46, 32, 66, 46, 46]⟩ := ⟨_, rfl⟩
  have hz : str.size = 23 := by rw [hstr]; rfl
  have HZ : Hid (rowsF[4]? = some str) := by rw [hstr]; rfl
  rcases hk with rfl | rfl | rfl | rfl | rfl | rfl
  · have HC : Hid (colV 1 = 0) := by unfold Hid; decide
    have es : (str.extract 0 3).size = 3 := by rw [hstr]; rfl
    have e0 : ∀ h, (str.extract 0 3)[0]'h = (67 : UInt8) := by subst hstr; intro h; rfl
    have e1 : ∀ h, (str.extract 0 3)[1]'h = (46 : UInt8) := by subst hstr; intro h; rfl
    have e2 : ∀ h, (str.extract 0 3)[2]'h = (46 : UInt8) := by subst hstr; intro h; rfl
    clear hstr
    cases fin
    all_goals
      go_enter Try.func11, Try.ntmps11
      go_wp2_with (first
        | (go_at_call 35; (with_reducible refine (col_c _ _ HC.out).mono ?_); rintro r w1 ⟨rfl, rfl⟩)
        | (go_at_call 36; (with_reducible refine (tables_c _ _ HT.out).mono ?_); rintro r w2 ⟨g, rfl, hg, hb⟩
           have B := Lib.hid hb
           have hl := hg.lt
           have z0 : w2.cell? ⟨g, 4, none⟩ = some (.string str) := by rw [hg.cell 4, List.getElem?_map, HZ.out]; rfl
           clear hg hb))
      refine bodyPost_ret ?_ rfl ⟨rfl, B.out⟩
      simp [results, Try.results11, go_sem, ans9]
      decide
  · have HC : Hid (colV 0 = 1) := by unfold Hid; decide
    have es : (str.extract 4 7).size = 3 := by rw [hstr]; rfl
    have e0 : ∀ h, (str.extract 4 7)[0]'h = (67 : UInt8) := by subst hstr; intro h; rfl
    have e1 : ∀ h, (str.extract 4 7)[1]'h = (46 : UInt8) := by subst hstr; intro h; rfl
    have e2 : ∀ h, (str.extract 4 7)[2]'h = (46 : UInt8) := by subst hstr; intro h; rfl
    clear hstr
    cases fin
    all_goals
      go_enter Try.func11, Try.ntmps11
      go_wp2_with (first
        | (go_at_call 35; (with_reducible refine (col_c _ _ HC.out).mono ?_); rintro r w1 ⟨rfl, rfl⟩)
        | (go_at_call 36; (with_reducible refine (tables_c _ _ HT.out).mono ?_); rintro r w2 ⟨g, rfl, hg, hb⟩
           have B := Lib.hid hb
           have hl := hg.lt
           have z0 : w2.cell? ⟨g, 4, none⟩ = some (.string str) := by rw [hg.cell 4, List.getElem?_map, HZ.out]; rfl
           clear hg hb))
      refine bodyPost_ret ?_ rfl ⟨rfl, B.out⟩
      simp [results, Try.results11, go_sem, ans9]
      decide
  · have HC : Hid (colV 2 = 2) := by unfold Hid; decide
    have es : (str.extract 8 11).size = 3 := by rw [hstr]; rfl
    have e0 : ∀ h, (str.extract 8 11)[0]'h = (84 : UInt8) := by subst hstr; intro h; rfl
    have e1 : ∀ h, (str.extract 8 11)[1]'h = (46 : UInt8) := by subst hstr; intro h; rfl
    have e2 : ∀ h, (str.extract 8 11)[2]'h = (46 : UInt8) := by subst hstr; intro h; rfl
    clear hstr
    cases fin
    all_goals
      go_enter Try.func11, Try.ntmps11
      go_wp2_with (first
        | (go_at_call 35; (with_reducible refine (col_c _ _ HC.out).mono ?_); rintro r w1 ⟨rfl, rfl⟩)
        | (go_at_call 36; (with_reducible refine (tables_c _ _ HT.out).mono ?_); rintro r w2 ⟨g, rfl, hg, hb⟩
           have B := Lib.hid hb
           have hl := hg.lt
           have z0 : w2.cell? ⟨g, 4, none⟩ = some (.string str) := by rw [hg.cell 4, List.getElem?_map, HZ.out]; rfl
           clear hg hb))
      refine bodyPost_ret ?_ rfl ⟨rfl, B.out⟩
      simp [results, Try.results11, go_sem, ans9]
      decide
  · have HC : Hid (colV 3 = 3) := by unfold Hid; decide
    have es : (str.extract 12 15).size = 3 := by rw [hstr]; rfl
    have e0 : ∀ h, (str.extract 12 15)[0]'h = (73 : UInt8) := by subst hstr; intro h; rfl
    have e1 : ∀ h, (str.extract 12 15)[1]'h = (46 : UInt8) := by subst hstr; intro h; rfl
    have e2 : ∀ h, (str.extract 12 15)[2]'h = (46 : UInt8) := by subst hstr; intro h; rfl
    clear hstr
    cases fin
    all_goals
      go_enter Try.func11, Try.ntmps11
      go_wp2_with (first
        | (go_at_call 35; (with_reducible refine (col_c _ _ HC.out).mono ?_); rintro r w1 ⟨rfl, rfl⟩)
        | (go_at_call 36; (with_reducible refine (tables_c _ _ HT.out).mono ?_); rintro r w2 ⟨g, rfl, hg, hb⟩
           have B := Lib.hid hb
           have hl := hg.lt
           have z0 : w2.cell? ⟨g, 4, none⟩ = some (.string str) := by rw [hg.cell 4, List.getElem?_map, HZ.out]; rfl
           clear hg hb))
      refine bodyPost_ret ?_ rfl ⟨rfl, B.out⟩
      simp [results, Try.results11, go_sem, ans9]
      decide
  · have HC : Hid (colV 8 = 4) := by unfold Hid; decide
    have es : (str.extract 16 19).size = 3 := by rw [hstr]; rfl
    have e0 : ∀ h, (str.extract 16 19)[0]'h = (73 : UInt8) := by subst hstr; intro h; rfl
    have e1 : ∀ h, (str.extract 16 19)[1]'h = (46 : UInt8) := by subst hstr; intro h; rfl
    have e2 : ∀ h, (str.extract 16 19)[2]'h = (46 : UInt8) := by subst hstr; intro h; rfl
    clear hstr
    cases fin
    all_goals
      go_enter Try.func11, Try.ntmps11
      go_wp2_with (first
        | (go_at_call 35; (with_reducible refine (col_c _ _ HC.out).mono ?_); rintro r w1 ⟨rfl, rfl⟩)
        | (go_at_call 36; (with_reducible refine (tables_c _ _ HT.out).mono ?_); rintro r w2 ⟨g, rfl, hg, hb⟩
           have B := Lib.hid hb
           have hl := hg.lt
           have z0 : w2.cell? ⟨g, 4, none⟩ = some (.string str) := by rw [hg.cell 4, List.getElem?_map, HZ.out]; rfl
           clear hg hb))
      refine bodyPost_ret ?_ rfl ⟨rfl, B.out⟩
      simp [results, Try.results11, go_sem, ans9]
      decide
  · have HC : Hid (colV 5 = 5) := by unfold Hid; decide
    have es : (str.extract 20 23).size = 3 := by rw [hstr]; rfl
    have e0 : ∀ h, (str.extract 20 23)[0]'h = (66 : UInt8) := by subst hstr; intro h; rfl
    have e1 : ∀ h, (str.extract 20 23)[1]'h = (46 : UInt8) := by subst hstr; intro h; rfl
    have e2 : ∀ h, (str.extract 20 23)[2]'h = (46 : UInt8) := by subst hstr; intro h; rfl
    clear hstr
    cases fin
    all_goals
      go_enter Try.func11, Try.ntmps11
      go_wp2_with (first
        | (go_at_call 35; (with_reducible refine (col_c _ _ HC.out).mono ?_); rintro r w1 ⟨rfl, rfl⟩)
        | (go_at_call 36; (with_reducible refine (tables_c _ _ HT.out).mono ?_); rintro r w2 ⟨g, rfl, hg, hb⟩
           have B := Lib.hid hb
           have hl := hg.lt
           have z0 : w2.cell? ⟨g, 4, none⟩ = some (.string str) := by rw [hg.cell 4, List.getElem?_map, HZ.out]; rfl
           clear hg hb))
      refine bodyPost_ret ?_ rfl ⟨rfl, B.out⟩
      simp [results, Try.results11, go_sem, ans9]
      decide
set_option maxHeartbeats 8000000 in
theorem rstep_f5 (k : Int) (hk : k = 1 ∨ k = 0 ∨ k = 2 ∨ k = 3 ∨ k = 8 ∨ k = 5) (fin : Bool) : Calls Try.prog 11 #[.int .i64 5, .bool false, .int .i64 k, .bool fin] w fun r w' => r = .returned (ans9 (stepV 5 false k fin)) ∧ Below w.heap.size w w' := by
  have HT : Hid ((bif false then rowsT else rowsF) = rowsF) := rfl
  obtain ⟨str, hstr⟩ : ∃ s : ByteArray, s = ⟨#[73, 46, 46, 32, 73, 46, 46, 32, 84, 46, 46, 32, 73, 46, 46, 32, 73, 46, 46, 32, 66, 46, 46]⟩ := ⟨_, rfl⟩
  have hz : str.size = 23 := by rw [hstr]; rfl
  have HZ : Hid (rowsF[5]? = some str) := by rw [hstr]; rfl
  rcases hk with rfl | rfl | rfl | rfl | rfl | rfl
  · have HC : Hid (colV 1 = 0) := by unfold Hid; decide
    have es : (str.extract 0 3).size = 3 := by rw [hstr]; rfl
    have e0 : ∀ h, (str.extract 0 3)[0]'h = (73 : UInt8) := by subst hstr; intro h; rfl
    have e1 : ∀ h, (str.extract 0 3)[1]'h = (46 : UInt8) := by subst hstr; intro h; rfl
    have e2 : ∀ h, (str.extract 0 3)[2]'h = (46 : UInt8) := by subst hstr; intro h; rfl
    clear hstr
    cases fin
    all_goals
      go_enter Try.func11, Try.ntmps11
      go_wp2_with (first
        | (go_at_call 35; (with_reducible refine (col_c _ _ HC.out).mono ?_); rintro r w1 ⟨rfl, rfl⟩)
        | (go_at_call 36; (with_reducible refine (tables_c _ _ HT.out).mono ?_); rintro r w2 ⟨g, rfl, hg, hb⟩
           have B := Lib.hid hb
           have hl := hg.lt
           have z0 : w2.cell? ⟨g, 5, none⟩ = some (.string str) := by rw [hg.cell 5, List.getElem?_map, HZ.out]; rfl
           clear hg hb))
      refine bodyPost_ret ?_ rfl ⟨rfl, B.out⟩
      simp [results, Try.results11, go_sem, ans9]
      decide
  · have HC : Hid (colV 0 = 1) := by unfold Hid; decide
    have es : (str.extract 4 7).size = 3 := by rw [hstr]; rfl
    have e0 : ∀ h, (str.extract 4 7)[0]'h = (73 : UInt8) := by subst hstr; intro h; rfl
    have e1 : ∀ h, (str.extract 4 7)[1]'h = (46 : UInt8) := by subst hstr; intro h; rfl
    have e2 : ∀ h, (str.extract 4 7)[2]'h = (46 : UInt8) := by subst hstr; intro h; rfl
    clear hstr
    cases fin
    all_goals
      go_enter Try.func11, Try.ntmps11
      go_wp2_with (first
        | (go_at_call 35; (with_reducible refine (col_c _ _ HC.out).mono ?_); rintro r w1 ⟨rfl, rfl⟩)
        | (go_at_call 36; (with_reducible refine (tables_c _ _ HT.out).mono ?_); rintro r w2 ⟨g, rfl, hg, hb⟩
           have B := Lib.hid hb
           have hl := hg.lt
           have z0 : w2.cell? ⟨g, 5, none⟩ = some (.string str) := by rw [hg.cell 5, List.getElem?_map, HZ.out]; rfl
           clear hg hb))
      refine bodyPost_ret ?_ rfl ⟨rfl, B.out⟩
      simp [results, Try.results11, go_sem, ans9]
      decide
  · have HC : Hid (colV 2 = 2) := by unfold Hid; decide
    have es : (str.extract 8 11).size = 3 := by rw [hstr]; rfl
    have e0 : ∀ h, (str.extract 8 11)[0]'h = (84 : UInt8) := by subst hstr; intro h; rfl
    have e1 : ∀ h, (str.extract 8 11)[1]'h = (46 : UInt8) := by subst hstr; intro h; rfl
    have e2 : ∀ h, (str.extract 8 11)[2]'h = (46 : UInt8) := by subst hstr; intro h; rfl
    clear hstr
    cases fin
    all_goals
      go_enter Try.func11, Try.ntmps11
      go_wp2_with (first
        | (go_at_call 35; (with_reducible refine (col_c _ _ HC.out).mono ?_); rintro r w1 ⟨rfl, rfl⟩)
        | (go_at_call 36; (with_reducible refine (tables_c _ _ HT.out).mono ?_); rintro r w2 ⟨g, rfl, hg, hb⟩
           have B := Lib.hid hb
           have hl := hg.lt
           have z0 : w2.cell? ⟨g, 5, none⟩ = some (.string str) := by rw [hg.cell 5, List.getElem?_map, HZ.out]; rfl
           clear hg hb))
      refine bodyPost_ret ?_ rfl ⟨rfl, B.out⟩
      simp [results, Try.results11, go_sem, ans9]
      decide
  · have HC : Hid (colV 3 = 3) := by unfold Hid; decide
    have es : (str.extract 12 15).size = 3 := by rw [hstr]; rfl
    have e0 : ∀ h, (str.extract 12 15)[0]'h = (73 : UInt8) := by subst hstr; intro h; rfl
    have e1 : ∀ h, (str.extract 12 15)[1]'h = (46 : UInt8) := by subst hstr; intro h; rfl
    have e2 : ∀ h, (str.extract 12 15)[2]'h = (46 : UInt8) := by subst hstr; intro h; rfl
    clear hstr
    cases fin
    all_goals
      go_enter Try.func11, Try.ntmps11
      go_wp2_with (first
        | (go_at_call 35; (with_reducible refine (col_c _ _ HC.out).mono ?_); rintro r w1 ⟨rfl, rfl⟩)
        | (go_at_call 36; (with_reducible refine (tables_c _ _ HT.out).mono ?_); rintro r w2 ⟨g, rfl, hg, hb⟩
           have B := Lib.hid hb
           have hl := hg.lt
           have z0 : w2.cell? ⟨g, 5, none⟩ = some (.string str) := by rw [hg.cell 5, List.getElem?_map, HZ.out]; rfl
           clear hg hb))
      refine bodyPost_ret ?_ rfl ⟨rfl, B.out⟩
      simp [results, Try.results11, go_sem, ans9]
      decide
  · have HC : Hid (colV 8 = 4) := by unfold Hid; decide
    have es : (str.extract 16 19).size = 3 := by rw [hstr]; rfl
    have e0 : ∀ h, (str.extract 16 19)[0]'h = (73 : UInt8) := by subst hstr; intro h; rfl
    have e1 : ∀ h, (str.extract 16 19)[1]'h = (46 : UInt8) := by subst hstr; intro h; rfl
    have e2 : ∀ h, (str.extract 16 19)[2]'h = (46 : UInt8) := by subst hstr; intro h; rfl
    clear hstr
    cases fin
    all_goals
      go_enter Try.func11, Try.ntmps11
      go_wp2_with (first
        | (go_at_call 35; (with_reducible refine (col_c _ _ HC.out).mono ?_); rintro r w1 ⟨rfl, rfl⟩)
        | (go_at_call 36; (with_reducible refine (tables_c _ _ HT.out).mono ?_); rintro r w2 ⟨g, rfl, hg, hb⟩
           have B := Lib.hid hb
           have hl := hg.lt
           have z0 : w2.cell? ⟨g, 5, none⟩ = some (.string str) := by rw [hg.cell 5, List.getElem?_map, HZ.out]; rfl
           clear hg hb))
      refine bodyPost_ret ?_ rfl ⟨rfl, B.out⟩
      simp [results, Try.results11, go_sem, ans9]
      decide
  · have HC : Hid (colV 5 = 5) := by unfold Hid; decide
    have es : (str.extract 20 23).size = 3 := by rw [hstr]; rfl
    have e0 : ∀ h, (str.extract 20 23)[0]'h = (66 : UInt8) := by subst hstr; intro h; rfl
    have e1 : ∀ h, (str.extract 20 23)[1]'h = (46 : UInt8) := by subst hstr; intro h; rfl
    have e2 : ∀ h, (str.extract 20 23)[2]'h = (46 : UInt8) := by subst hstr; intro h; rfl
    clear hstr
    cases fin
    all_goals
      go_enter Try.func11, Try.ntmps11
      go_wp2_with (first
        | (go_at_call 35; (with_reducible refine (col_c _ _ HC.out).mono ?_); rintro r w1 ⟨rfl, rfl⟩)
        | (go_at_call 36; (with_reducible refine (tables_c _ _ HT.out).mono ?_); rintro r w2 ⟨g, rfl, hg, hb⟩
           have B := Lib.hid hb
           have hl := hg.lt
           have z0 : w2.cell? ⟨g, 5, none⟩ = some (.string str) := by rw [hg.cell 5, List.getElem?_map, HZ.out]; rfl
           clear hg hb))
      refine bodyPost_ret ?_ rfl ⟨rfl, B.out⟩
      simp [results, Try.results11, go_sem, ans9]
      decide
set_option maxHeartbeats 8000000 in
theorem rstep_f6 (k : Int) (hk : k = 1 ∨ k = 0 ∨ k = 2 ∨ k = 3 ∨ k = 8 ∨ k = 5) (fin : Bool) : Calls Try.prog 11 #[.int .i64 6, .bool false, .int .i64 k, .bool fin] w fun r w' => r = .returned (ans9 (stepV 6 false k fin)) ∧ Below w.heap.size w w' := by
  have HT : Hid ((bif false then rowsT else rowsF) = rowsF) := rfl
  obtain ⟨str, hstr⟩ : ∃ s : ByteArray, s = ⟨#[82, 53, 53, 32, 82, 53, 53, 32, 84, 46, 46, 32, 73, 46, 46, 32, 82, 53, 53, 32, 66, 46, 46]⟩ := ⟨_, rfl⟩
  have hz : str.size = 23 := by rw [hstr]; rfl
  have HZ : Hid (rowsF[6]? = some str) := by rw [hstr]; rfl
  rcases hk with rfl | rfl | rfl | rfl | rfl | rfl
  · have HC : Hid (colV 1 = 0) := by unfold Hid; decide
    have es : (str.extract 0 3).size = 3 := by rw [hstr]; rfl
    have e0 : ∀ h, (str.extract 0 3)[0]'h = (82 : UInt8) := by subst hstr; intro h; rfl
    have e1 : ∀ h, (str.extract 0 3)[1]'h = (53 : UInt8) := by subst hstr; intro h; rfl
    have e2 : ∀ h, (str.extract 0 3)[2]'h = (53 : UInt8) := by subst hstr; intro h; rfl
    clear hstr
    cases fin
    all_goals
      go_enter Try.func11, Try.ntmps11
      go_wp2_with (first
        | (go_at_call 35; (with_reducible refine (col_c _ _ HC.out).mono ?_); rintro r w1 ⟨rfl, rfl⟩)
        | (go_at_call 36; (with_reducible refine (tables_c _ _ HT.out).mono ?_); rintro r w2 ⟨g, rfl, hg, hb⟩
           have B := Lib.hid hb
           have hl := hg.lt
           have z0 : w2.cell? ⟨g, 6, none⟩ = some (.string str) := by rw [hg.cell 6, List.getElem?_map, HZ.out]; rfl
           clear hg hb))
      refine bodyPost_ret ?_ rfl ⟨rfl, B.out⟩
      simp [results, Try.results11, go_sem, ans9]
      decide
  · have HC : Hid (colV 0 = 1) := by unfold Hid; decide
    have es : (str.extract 4 7).size = 3 := by rw [hstr]; rfl
    have e0 : ∀ h, (str.extract 4 7)[0]'h = (82 : UInt8) := by subst hstr; intro h; rfl
    have e1 : ∀ h, (str.extract 4 7)[1]'h = (53 : UInt8) := by subst hstr; intro h; rfl
    have e2 : ∀ h, (str.extract 4 7)[2]'h = (53 : UInt8) := by subst hstr; intro h; rfl
    clear hstr
    cases fin
    all_goals
      go_enter Try.func11, Try.ntmps11
      go_wp2_with (first
        | (go_at_call 35; (with_reducible refine (col_c _ _ HC.out).mono ?_); rintro r w1 ⟨rfl, rfl⟩)
        | (go_at_call 36; (with_reducible refine (tables_c _ _ HT.out).mono ?_); rintro r w2 ⟨g, rfl, hg, hb⟩
           have B := Lib.hid hb
           have hl := hg.lt
           have z0 : w2.cell? ⟨g, 6, none⟩ = some (.string str) := by rw [hg.cell 6, List.getElem?_map, HZ.out]; rfl
           clear hg hb))
      refine bodyPost_ret ?_ rfl ⟨rfl, B.out⟩
      simp [results, Try.results11, go_sem, ans9]
      decide
  · have HC : Hid (colV 2 = 2) := by unfold Hid; decide
    have es : (str.extract 8 11).size = 3 := by rw [hstr]; rfl
    have e0 : ∀ h, (str.extract 8 11)[0]'h = (84 : UInt8) := by subst hstr; intro h; rfl
    have e1 : ∀ h, (str.extract 8 11)[1]'h = (46 : UInt8) := by subst hstr; intro h; rfl
    have e2 : ∀ h, (str.extract 8 11)[2]'h = (46 : UInt8) := by subst hstr; intro h; rfl
    clear hstr
    cases fin
    all_goals
      go_enter Try.func11, Try.ntmps11
      go_wp2_with (first
        | (go_at_call 35; (with_reducible refine (col_c _ _ HC.out).mono ?_); rintro r w1 ⟨rfl, rfl⟩)
        | (go_at_call 36; (with_reducible refine (tables_c _ _ HT.out).mono ?_); rintro r w2 ⟨g, rfl, hg, hb⟩
           have B := Lib.hid hb
           have hl := hg.lt
           have z0 : w2.cell? ⟨g, 6, none⟩ = some (.string str) := by rw [hg.cell 6, List.getElem?_map, HZ.out]; rfl
           clear hg hb))
      refine bodyPost_ret ?_ rfl ⟨rfl, B.out⟩
      simp [results, Try.results11, go_sem, ans9]
      decide
  · have HC : Hid (colV 3 = 3) := by unfold Hid; decide
    have es : (str.extract 12 15).size = 3 := by rw [hstr]; rfl
    have e0 : ∀ h, (str.extract 12 15)[0]'h = (73 : UInt8) := by subst hstr; intro h; rfl
    have e1 : ∀ h, (str.extract 12 15)[1]'h = (46 : UInt8) := by subst hstr; intro h; rfl
    have e2 : ∀ h, (str.extract 12 15)[2]'h = (46 : UInt8) := by subst hstr; intro h; rfl
    clear hstr
    cases fin
    all_goals
      go_enter Try.func11, Try.ntmps11
      go_wp2_with (first
        | (go_at_call 35; (with_reducible refine (col_c _ _ HC.out).mono ?_); rintro r w1 ⟨rfl, rfl⟩)
        | (go_at_call 36; (with_reducible refine (tables_c _ _ HT.out).mono ?_); rintro r w2 ⟨g, rfl, hg, hb⟩
           have B := Lib.hid hb
           have hl := hg.lt
           have z0 : w2.cell? ⟨g, 6, none⟩ = some (.string str) := by rw [hg.cell 6, List.getElem?_map, HZ.out]; rfl
           clear hg hb))
      refine bodyPost_ret ?_ rfl ⟨rfl, B.out⟩
      simp [results, Try.results11, go_sem, ans9]
      decide
  · have HC : Hid (colV 8 = 4) := by unfold Hid; decide
    have es : (str.extract 16 19).size = 3 := by rw [hstr]; rfl
    have e0 : ∀ h, (str.extract 16 19)[0]'h = (82 : UInt8) := by subst hstr; intro h; rfl
    have e1 : ∀ h, (str.extract 16 19)[1]'h = (53 : UInt8) := by subst hstr; intro h; rfl
    have e2 : ∀ h, (str.extract 16 19)[2]'h = (53 : UInt8) := by subst hstr; intro h; rfl
    clear hstr
    cases fin
    all_goals
      go_enter Try.func11, Try.ntmps11
      go_wp2_with (first
        | (go_at_call 35; (with_reducible refine (col_c _ _ HC.out).mono ?_); rintro r w1 ⟨rfl, rfl⟩)
        | (go_at_call 36; (with_reducible refine (tables_c _ _ HT.out).mono ?_); rintro r w2 ⟨g, rfl, hg, hb⟩
           have B := Lib.hid hb
           have hl := hg.lt
           have z0 : w2.cell? ⟨g, 6, none⟩ = some (.string str) := by rw [hg.cell 6, List.getElem?_map, HZ.out]; rfl
           clear hg hb))
      refine bodyPost_ret ?_ rfl ⟨rfl, B.out⟩
      simp [results, Try.results11, go_sem, ans9]
      decide
  · have HC : Hid (colV 5 = 5) := by unfold Hid; decide
    have es : (str.extract 20 23).size = 3 := by rw [hstr]; rfl
    have e0 : ∀ h, (str.extract 20 23)[0]'h = (66 : UInt8) := by subst hstr; intro h; rfl
    have e1 : ∀ h, (str.extract 20 23)[1]'h = (46 : UInt8) := by subst hstr; intro h; rfl
    have e2 : ∀ h, (str.extract 20 23)[2]'h = (46 : UInt8) := by subst hstr; intro h; rfl
    clear hstr
    cases fin
    all_goals
      go_enter Try.func11, Try.ntmps11
      go_wp2_with (first
        | (go_at_call 35; (with_reducible refine (col_c _ _ HC.out).mono ?_); rintro r w1 ⟨rfl, rfl⟩)
        | (go_at_call 36; (with_reducible refine (tables_c _ _ HT.out).mono ?_); rintro r w2 ⟨g, rfl, hg, hb⟩
           have B := Lib.hid hb
           have hl := hg.lt
           have z0 : w2.cell? ⟨g, 6, none⟩ = some (.string str) := by rw [hg.cell 6, List.getElem?_map, HZ.out]; rfl
           clear hg hb))
      refine bodyPost_ret ?_ rfl ⟨rfl, B.out⟩
      simp [results, Try.results11, go_sem, ans9]
      decide
end
end Go.Proofs.Ytdpheliekdgnhaa
