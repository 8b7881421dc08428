/- The contracts of the document's own queue (package flumeref01), over the seat's translation. -/
import Derived.Test.YtfklllikihjjhaaOrder
namespace Go.Proofs.Ytfklllikihjjhaa
open Go.ChangeShapes Go.WideShapes Go.ChangeAt Go.RowKit Go.Own
set_option linter.unusedVariables false

/-- at block r lies the document's queue: the text S, the bound m -/
def RAt (w : World) (r : Nat) (S : List UInt8) (m : Nat) : Prop := Blk w r 43 [.string (St S), .int .i64 (m : Int)] ∧ S.length ≤ m ∧ m ≤ 1000000

theorem St_cut (U : List UInt8) (k : Nat) : (St U).extract 0 k = St (U.take k) := by
  apply ByteArray.ext
  rw [ByteArray.data_extract]
  simp [St]
theorem St_rest (U : List UInt8) (k : Nat) : (St U).extract k U.length = St (U.drop k) := by
  apply ByteArray.ext
  rw [ByteArray.data_extract]
  have e : List.take (U.length - k) (List.drop k U) = List.drop k U := List.take_of_length_le (by simp)
  simp [St, e]
theorem ret_str {a b : ByteArray} (h : a = b) : Ending.returned (.string a) = .returned (.string b) := by rw [h]
theorem rblk (w : World) (m : Int) (n : Nat) (h : m = n) : Blk (w.alloc (.cells #[.string ⟨#[]⟩, .int .i64 m] 43)) w.heap.size 43 [.string (St []), .int .i64 (n : Int)] := by
  subst h
  exact Blk.new w 43 [.string (St []), .int .i64 n]

theorem rNew_any (n : Int) (m : Nat) (hm : (max 0 (min n 1000000)).toNat = m) (w : World) :
    Calls Try.prog 13 #[.int .i64 n] w fun e w' => ∃ r, e = .returned (.pointer (some ⟨r, 0, none⟩)) ∧ RAt w' r [] m ∧ r = w.heap.size ∧ Below w.heap.size w w' := by
  have e1 : max 0 (min n 1000000) = (m : Int) := by omega
  have key : (n < 0 ∧ m = 0) ∨ (0 ≤ n ∧ n ≤ 1000000 ∧ (m : Int) = n) ∨ (1000000 < n ∧ m = 1000000) := by omega
  clear hm e1
  rcases key with ⟨h1, rfl⟩ | ⟨h1, h2, rfl⟩ | ⟨h1, rfl⟩
  all_goals
    go_enter Try.func13, Try.ntmps13
    go_wp2
    all_goals go_ret
    all_goals exact ⟨_, rfl, ⟨rblk w _ _ (by omega), by simp, by omega⟩, rfl, (Below.refl _ _).alloc (Nat.le_refl _) _⟩

theorem rPeek_any (r m : Nat) (S : List UInt8) (n : Int) (K : Nat) (w : World) (h : RAt w r S m) (hK : (max 0 (min n S.length)).toNat = K) :
    Calls Try.prog 19 #[.pointer (some ⟨r, 0, none⟩), .int .i64 n] w fun e w' => e = .returned (.string (St (S.take K))) ∧ ∃ q, w' = w.drewN q := by
  obtain ⟨hb, hl, hm⟩ := h
  have hc := hb.cell 0
  simp only [List.getElem?_cons_zero] at hc
  have hsz := St_size S
  have hcut := St_cut S K
  have hK1 : K ≤ S.length := by omega
  have h0 : (0 : Int) ≤ K := by omega
  have key : (n < 0 ∧ K = 0) ∨ (0 ≤ n ∧ n ≤ (S.length : Int) ∧ n = (K : Int)) ∨ ((S.length : Int) < n ∧ K = S.length) := by omega
  clear hb hK
  rcases key with ⟨h1, h2⟩ | ⟨h1, h2, rfl⟩ | ⟨h1, h2⟩
  all_goals
    go_enter Try.func19, Try.ntmps19
    go_wp2
    go_quiet (fail)
    go_wp2
  all_goals
    go_ret
    refine ⟨ret_str ?_, _, rfl⟩
    first
      | rfl
      | exact St_cut _ _
      | (rw [St_cut, List.take_of_length_le (Nat.le_refl _)]; done)
      | (obtain rfl : K = 0 := by omega
         rfl)
      | (have hS : S = [] := List.eq_nil_of_length_eq_zero (by omega)
         subst hS
         simp
         done)
      | (have hS : S = [] := List.eq_nil_of_length_eq_zero (by omega)
         subst hS
         rfl)

theorem rPop_any (r m : Nat) (S : List UInt8) (n : Int) (K : Nat) (w : World) (h : RAt w r S m) (hK : (max 0 (min n S.length)).toNat = K) :
    Calls Try.prog 17 #[.pointer (some ⟨r, 0, none⟩), .int .i64 n] w fun e w' => e = .returned (.string (St (S.take K))) ∧ RAt w' r (S.drop K) m ∧ Fr (· = r) w w' := by
  have hpk := rPeek_any r m S n K w h hK
  have hK1 : K ≤ S.length := by omega
  have hc0 : ∀ q, (w.drewN q).cell? ⟨r, 0, none⟩ = some (.string (St S)) := fun q => h.1.cell 0
  have hz0 : ∀ q, (w.drewN q).frozen? ⟨r, 0, none⟩ = false := fun q => h.1.frozen 0
  have hsz := St_size S
  have hsz2 : (St (S.take K)).size = K := by rw [St_size, List.length_take]; omega
  have hcut := St_rest S K
  have H := Lib.hid h
  have hl := h.2.1
  have hm := h.2.2
  clear h hK
  go_enter Try.func17, Try.ntmps17
  go_wp2_with (go_at_call 19; (with_reducible refine hpk.mono ?_); rintro e w' ⟨rfl, q, rfl⟩)
  go_ret
  refine ⟨rfl, ⟨?_, by rw [List.length_drop]; omega, hm⟩, Fr.setCell (S := (· = r)) ((Fr.refl _ w).drewN _) (p := ⟨r, 0, none⟩) (.inl rfl) _⟩
  exact (H.out.1.drewN _).set_ 0 _

theorem rPush_any (r m : Nat) (S ys : List UInt8) (k : Nat) (w : World) (h : RAt w r S m) (hk : min ys.length (m - S.length) = k) (hy : ys.length ≤ 2000) :
    Calls Try.prog 15 #[.pointer (some ⟨r, 0, none⟩), .string (St ys)] w fun e w' => e = .returned (.int .i64 k) ∧ RAt w' r (S ++ ys.take k) m ∧ Fr (· = r) w w' := by
  have hc0 : ∀ q, (w.drewN q).cell? ⟨r, 0, none⟩ = some (.string (St S)) := fun q => h.1.cell 0
  have hc1 : ∀ q, (w.drewN q).cell? ⟨r, 1, none⟩ = some (.int .i64 (m : Int)) := fun q => h.1.cell 1
  have hz0 : ∀ q, (w.drewN q).frozen? ⟨r, 0, none⟩ = false := fun q => h.1.frozen 0
  have hsz := St_size S
  have hsz2 := St_size ys
  have hcut := St_cut ys k
  have hcat : St S ++ St (ys.take k) = St (S ++ ys.take k) := St_append _ _
  have hszk : (St (ys.take k)).size ≤ 2000 := by rw [St_size, List.length_take]; omega
  have hl := h.2.1
  have hm := h.2.2
  have hmin : (if (m : Int) - (S.length : Int) < (ys.length : Int) then (m : Int) - (S.length : Int) else (ys.length : Int)) = (k : Int) := by split <;> omega
  have hwr : IntKind.i64.wrap ((m : Int) - (S.length : Int)) = (m : Int) - (S.length : Int) := by rw [IntKind.wrap_i64]; omega
  have hky : k ≤ ys.length := by omega
  have hk0 : (0 : Int) ≤ k := by omega
  have H := Lib.hid h
  clear h hk
  go_enter Try.func15, Try.ntmps15
  go_wp2_with fail
  go_quiet (fail)
  go_wp2_with fail
  go_region
  go_wp2
  go_ret
  refine ⟨rfl, ⟨?_, by rw [List.length_append, List.length_take]; omega, hm⟩, ?_⟩
  · exact (H.out.1.drewN _).set_ 0 _
  · exact Fr.setCell (S := (· = r)) ((Fr.refl _ w).drewN _) (p := ⟨r, 0, none⟩) (.inl rfl) _
end Go.Proofs.Ytfklllikihjjhaa
