/- Stage 11: where a stream stands in the queue: the program's find. -/
import Derived.Test.YtbjjphpkpmikjaaKiG
namespace Go.Proofs.Ytbjjphpkpmikjaa
open Go.RowKit Go.Own Go.Sch
set_option linter.unusedVariables false
set_option linter.unusedSimpArgs false
set_option maxRecDepth 100000
abbrev fval (f : Fl) : Value := .agg #[.int .i64 (f.id : Int), .int .i64 f.win, .int .i64 (f.wait : Int), .bool f.en]
theorem find1_c {w : World} (i m n : Int) (e : Bool) (B : Nat) (id : Int) (hB : w.cell? ⟨B, 0, none⟩ = some (.int .i64 id)) (z : Bool) (hz : (i == id) = z) :
    Calls Try.prog 27 #[.agg #[.int .i64 i, .int .i64 m, .int .i64 n, .bool e], .pointer (some ⟨B, 0, none⟩)] w fun r w' => r = .returned (.bool z) ∧ w' = w.alloc (.cells #[.int .i64 i, .int .i64 m, .int .i64 n, .bool e] 63) := by
  have hl : B < w.heap.size := World.block_lt_of_cell? _ _ hB
  have hc : (w.alloc (.cells #[.int .i64 i, .int .i64 m, .int .i64 n, .bool e] 63)).cell? ⟨B, 0, none⟩ = some (.int .i64 id) := by rw [World.cell?_alloc_past _ _ _ hl]; exact hB
  clear hB
  go_enter Try.func27, Try.ntmps27
  go_wp2
  go_ret
  exact ⟨rfl, rfl⟩
/-- the cells of the stream at a place -/
theorem rd_fl {w : World} {A : Option Addr} {q : List Fl} (hr : Rd w 4 A q.length (fcellsQ q)) {k : Nat} (hk : k < q.length) :
    ∃ g o f, A = some ⟨g, o, none⟩ ∧ q[k]? = some f ∧ g < w.heap.size ∧ w.cell? ⟨g, o + k * 4, none⟩ = some (.int .i64 (f.id : Int)) ∧ w.cell? ⟨g, o + k * 4 + 1, none⟩ = some (.int .i64 f.win) ∧ w.cell? ⟨g, o + k * 4 + 2, none⟩ = some (.int .i64 (f.wait : Int)) ∧ w.cell? ⟨g, o + k * 4 + 3, none⟩ = some (.bool f.en) := by
  obtain ⟨g, o, hA, hc⟩ := hr.2 (by omega)
  obtain ⟨a, f, b, hq, hl⟩ : ∃ a f b, q = a ++ f :: b ∧ a.length = k := ⟨q.take k, q[k], q.drop (k + 1), by rw [List.getElem_cons_drop, List.take_append_drop], by rw [List.length_take]; omega⟩
  have at_ : ∀ j u, j < 4 → (fcell f)[j]? = some u → w.cell? ⟨g, o + k * 4 + j, none⟩ = some u := by
    intro j u hj hu
    rw [Nat.add_assoc]
    exact hc _ _ (by rw [hq, ← hl, fcellsQ_at _ _ _ _ hj]; exact hu)
  refine ⟨g, o, f, hA, by rw [hq, ← hl]; simp, World.block_lt_of_cell? _ _ (at_ 0 _ (by omega) rfl), at_ 0 _ (by omega) rfl, at_ 1 _ (by omega) rfl, at_ 2 _ (by omega) rfl, at_ 3 _ (by omega) rfl⟩
/-- no stream of that number; or the first one -/
def Pl (q : List Fl) (id ans : Int) : Prop := (ans = -1 ∧ ∀ f ∈ q, (f.id : Int) ≠ id) ∨ ∃ a f b, q = a ++ f :: b ∧ ans = (a.length : Int) ∧ (f.id : Int) = id ∧ ∀ g ∈ a, (g.id : Int) ≠ id
theorem Pl.ex (q : List Fl) (id : Int) : ∃ ans, Pl q id ans := by
  induction q with
  | nil => exact ⟨-1, .inl ⟨rfl, fun f hf => by cases hf⟩⟩
  | cons f r ih =>
    by_cases h : (f.id : Int) = id
    · exact ⟨0, .inr ⟨[], f, r, rfl, rfl, h, fun g hg => by cases hg⟩⟩
    · obtain ⟨ans, ⟨rfl, h1⟩ | ⟨a, g, b, rfl, rfl, h2, h3⟩⟩ := ih
      · exact ⟨-1, .inl ⟨rfl, fun g hg => by rcases List.mem_cons.1 hg with rfl | hg; exact h; exact h1 g hg⟩⟩
      · exact ⟨_, .inr ⟨f :: a, g, b, rfl, rfl, h2, fun x hx => by rcases List.mem_cons.1 hx with rfl | hx; exact h; exact h3 x hx⟩⟩
theorem Pl.at_ {q : List Fl} {id ans : Int} (h : Pl q id ans) {k : Nat} {f : Fl} (hf : q[k]? = some f) (hne : ∀ j, j < k → ∀ g, q[j]? = some g → (g.id : Int) ≠ id) : ((f.id : Int) = id ∧ ans = (k : Int)) ∨ ((f.id : Int) ≠ id) := by
  by_cases e : (f.id : Int) = id
  · left
    refine ⟨e, ?_⟩
    rcases h with ⟨_, h1⟩ | ⟨a, g, b, rfl, rfl, h2, h3⟩
    · exact absurd e (h1 f (List.mem_of_getElem? hf))
    · rcases Nat.lt_trichotomy k a.length with hk | hk | hk
      · rw [List.getElem?_append_left hk] at hf
        exact absurd e (h3 f (List.mem_of_getElem? hf))
      · rw [hk]
      · exact absurd h2 (hne a.length hk g (by simp))
  · exact .inr e
theorem Pl.end_ {q : List Fl} {id ans : Int} (h : Pl q id ans) (hne : ∀ j, j < q.length → ∀ g, q[j]? = some g → (g.id : Int) ≠ id) : ans = -1 := by
  rcases h with ⟨h, _⟩ | ⟨a, g, b, rfl, rfl, h2, h3⟩
  · exact h
  · exact absurd h2 (hne a.length (by simp) g (by simp))
set_option maxHeartbeats 4000000 in
theorem idx_c {w : World} {A : Option Addr} {c B : Nat} {q : List Fl} (hr : Rd w 4 A q.length (fcellsQ q)) (hb : q.length ≤ 1000000) (id : Int) (hB : w.cell? ⟨B, 0, none⟩ = some (.int .i64 id)) (ans : Int) (ha : Pl q id ans) :
    Calls Try.prog 26 #[.slice A q.length c, .func (.func 27) #[] #[.pointer (some ⟨B, 0, none⟩)]] w fun e w' => e = .returned (.int .i64 ans) ∧ Below w.heap.size w w' := by
  obtain ⟨n, hn⟩ : ∃ n, q.length = n := ⟨_, rfl⟩
  have hBl : B < w.heap.size := World.block_lt_of_cell? _ _ hB
  have hcell : ∀ k, k < n → ∃ g o f, A = some ⟨g, o, none⟩ ∧ q[k]? = some f ∧ g < w.heap.size ∧ w.cell? ⟨g, o + k * 4, none⟩ = some (.int .i64 (f.id : Int)) ∧ w.cell? ⟨g, o + k * 4 + 1, none⟩ = some (.int .i64 f.win) ∧ w.cell? ⟨g, o + k * 4 + 2, none⟩ = some (.int .i64 (f.wait : Int)) ∧ w.cell? ⟨g, o + k * 4 + 3, none⟩ = some (.bool f.en) := fun k hk => rd_fl hr (by omega)
  have Hcell := Lib.hid hcell
  have Ha := Lib.hid ha
  have HBc := Lib.hid hB
  have HBl := Lib.hid hBl
  have Hn := Lib.hid hn
  rw [hn]
  have hb2 : n ≤ 1000000 := by omega
  clear hr hcell ha hn hb hB hBl
  go_enter Try.func26, Try.ntmps26
  go_wp2
  go_loopg [8] n (fun gh i wr => ∃ k : Nat, gh + k = n ∧ i = .int .i64 k ∧ Hid (∀ j, j < k → ∀ g, q[j]? = some g → (g.id : Int) ≠ id) ∧ Hid (Below w.heap.size w wr))
  case atStart => exact ⟨0, by omega, rfl, fun j hj => absurd hj (Nat.not_lt_zero _), Below.refl _ _⟩
  case round =>
    obtain ⟨k, hgk, rfl, hne, HW⟩ := hrel
    cases gk with
    | zero =>
      obtain rfl : k = n := by omega
      have hans : ans = -1 := Ha.out.end_ (by rw [Hn.out]; exact hne.out)
      subst hans
      go_wp2
      go_ret
      exact ⟨rfl, HW.out⟩
    | succ g1 =>
      have hkn : k < n := by omega
      obtain ⟨g, o, f, rfl, hf, hgl, c0, c1, c2, c3⟩ := Hcell.out k hkn
      have d0 := (HW.out.cell (p := ⟨g, o + k * 4, none⟩) hgl).trans c0
      have d1 := (HW.out.cell (p := ⟨g, o + k * 4 + 1, none⟩) hgl).trans c1
      have d2 := (HW.out.cell (p := ⟨g, o + k * 4 + 2, none⟩) hgl).trans c2
      have d3 := (HW.out.cell (p := ⟨g, o + k * 4 + 3, none⟩) hgl).trans c3
      have HBw := Lib.hid ((HW.out.cell (p := ⟨B, 0, none⟩) HBl.out).trans HBc.out)
      have hw := Ha.out.at_ hf hne.out
      have hk1 : IntKind.i64.wrap ((k : Int) + 1) = (k : Int) + 1 := by rw [IntKind.wrap_i64]; omega
      obtain ⟨fi, fw, fa, fe⟩ := f
      simp only at d0 d1 d2 d3 hw
      have HF := Lib.hid hf
      clear c0 c1 c2 c3 hf
      rcases hw with ⟨h1, rfl⟩ | h1
      · have HZ : Hid (((fi : Int) == id) = true) := by unfold Hid; simpa using h1
        clear h1
        go_wp2_with (first
          | (go_at_call 27; (with_reducible refine (find1_c _ _ _ _ B id HBw.out _ HZ.out).mono ?_); rintro e w3 ⟨rfl, hw3⟩
             have HW3 := Lib.hid (HW.out.alloc (Nat.le_of_lt_succ (Nat.lt_succ_of_le HW.out.size)) (.cells #[.int .i64 (fi : Int), .int .i64 fw, .int .i64 (fa : Int), .bool fe] 63))
             rw [← hw3] at HW3
             clear hw3))
        go_ret
        exact ⟨rfl, HW3.out⟩
      · have HZ : Hid (((fi : Int) == id) = false) := by unfold Hid; simpa using h1
        have HNe := Lib.hid h1
        clear h1
        go_wp2_with (first
          | (go_at_call 27; (with_reducible refine (find1_c _ _ _ _ B id HBw.out _ HZ.out).mono ?_); rintro e w3 ⟨rfl, hw3⟩
             have HW3 := Lib.hid (HW.out.alloc (Nat.le_of_lt_succ (Nat.lt_succ_of_le HW.out.size)) (.cells #[.int .i64 (fi : Int), .int .i64 fw, .int .i64 (fa : Int), .bool fe] 63))
             rw [← hw3] at HW3
             clear hw3))
        go_roundg g1
        case measure => omega
        case rel =>
          refine ⟨k + 1, by omega, by go_num, fun j hj x hx => ?_, HW3.out⟩
          by_cases e : j = k
          · subst e
            rw [HF.out] at hx
            injection hx with hx
            subst hx
            exact HNe.out
          · exact hne.out j (by omega) x hx
section
variable {S : Nat → Prop} {w0 w : World} {L : List Ob} {p : Nat} {q : List Fl} {W : Int} {F : Nat} {cv qv : Value} {C : List (Value × List UInt8)}
set_option maxHeartbeats 1000000 in
theorem find_c (s : St S w0 w (SdL p cv qv C q W F L)) (hb : q.length ≤ 1000000) (id : Int) (ans : Int) (ha : Pl q id ans) :
    Calls Try.prog 20 #[.pointer (some ⟨p, 0, none⟩), .int .i64 id] w fun e w' => e = .returned (.int .i64 ans) ∧ St S w0 w' (SdL p cv qv C q W F L) := by
  obtain ⟨hl, z0, z1, z2, z3, zf⟩ := see_s s
  obtain ⟨A, c, rfl, hr, _⟩ := see_n s
  have hr1 := hr.below (w' := w.alloc (.cells #[.int .i64 id] 3)) ((Below.refl _ _).alloc (Nat.le_refl _) _)
  have hB1 : (w.alloc (.cells #[.int .i64 id] 3)).cell? ⟨w.heap.size, 0, none⟩ = some (.int .i64 id) := by rw [World.cell?_alloc_at _ _ _ _ rfl]; rfl
  have HC := Lib.hid (fun c' => idx_c (c := c') hr1 hb id hB1 ans ha)
  have HS := Lib.hid (s.alloc (.cells #[.int .i64 id] 3))
  clear hr hr1 hB1 s ha zf
  go_enter Try.func20, Try.ntmps20
  go_wp2_with (first
    | (go_at_call 26; (with_reducible refine (HC.out _).mono ?_); rintro e w3 ⟨rfl, hw3⟩
       have H3 := Lib.hid (HS.out.next hw3)
       clear hw3))
  go_ret
  exact ⟨rfl, H3.out⟩
end
end Go.Proofs.Ytbjjphpkpmikjaa
