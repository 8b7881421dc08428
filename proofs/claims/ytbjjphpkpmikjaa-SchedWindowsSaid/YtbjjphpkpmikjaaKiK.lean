/- Stage 11: who is ready, and how much may be sent: the program's firstReady and most. -/
import Derived.Test.YtbjjphpkpmikjaaKiJ
namespace Go.Proofs.Ytbjjphpkpmikjaa
open Go.RowKit Go.Own Go.Sch
set_option linter.unusedVariables false
set_option linter.unusedSimpArgs false
set_option maxRecDepth 100000
/-- where the first one that is ready stands -/
def Rp (W : Int) (q : List Fl) (ans : Int) : Prop := (ans = -1 ∧ firstR W q = none) ∨ ∃ a f b, firstR W q = some (a, f, b) ∧ ans = (a.length : Int)
theorem Rp.ex (W : Int) (q : List Fl) : ∃ ans, Rp W q ans := by
  cases h : firstR W q with
  | none => exact ⟨-1, .inl ⟨rfl, h⟩⟩
  | some x => obtain ⟨a, f, b⟩ := x; exact ⟨_, .inr ⟨a, f, b, h, rfl⟩⟩
theorem Rp.at_ {W : Int} {q : List Fl} {ans : Int} (h : Rp W q ans) {k : Nat} {f : Fl} (hf : q[k]? = some f) (hne : ∀ j, j < k → ∀ g, q[j]? = some g → rdy W g = false) : (rdy W f = true ∧ ans = (k : Int)) ∨ rdy W f = false := by
  cases e : rdy W f with
  | false => exact .inr rfl
  | true =>
    left
    refine ⟨rfl, ?_⟩
    rcases h with ⟨_, h1⟩ | ⟨a, g, b, h1, rfl⟩
    · rw [firstR_none h1 f (List.mem_of_getElem? hf)] at e; cases e
    · obtain ⟨rfl, h2, h3⟩ := firstR_some h1
      rcases Nat.lt_trichotomy k a.length with hk | hk | hk
      · rw [List.getElem?_append_left hk] at hf
        rw [h3 f (List.mem_of_getElem? hf)] at e; cases e
      · rw [hk]
      · rw [hne a.length hk g (by simp)] at h2; cases h2
theorem Rp.end_ {W : Int} {q : List Fl} {ans : Int} (h : Rp W q ans) (hne : ∀ j, j < q.length → ∀ g, q[j]? = some g → rdy W g = false) : ans = -1 := by
  rcases h with ⟨h, _⟩ | ⟨a, g, b, h1, rfl⟩
  · exact h
  · obtain ⟨rfl, h2, h3⟩ := firstR_some h1
    rw [hne a.length (by simp) g (by simp)] at h2; cases h2
theorem rdy_ways {W : Int} {f : Fl} {z : Bool} (h : rdy W f = z) : (f.wait = 0 ∧ f.en = true ∧ z = true) ∨ (f.wait = 0 ∧ f.en = false ∧ z = false) ∨ (0 < f.wait ∧ 0 < f.win ∧ 0 < W ∧ z = true) ∨ (0 < f.wait ∧ ¬ 0 < f.win ∧ z = false) ∨ (0 < f.wait ∧ 0 < f.win ∧ ¬ 0 < W ∧ z = false) := by
  subst h
  unfold rdy
  rcases Nat.eq_zero_or_pos f.wait with h | h
  · rw [h]
    cases f.en <;> simp
  · have h2 : decide (f.wait = 0) = false := decide_eq_false (by omega)
    rw [h2]
    by_cases h3 : 0 < f.win
    · by_cases h4 : 0 < W
      · simp [h, h3, h4]
      · simp [h, h3, h4]
    · simp [h, h3]
section
variable {S : Nat → Prop} {w0 w : World} {L : List Ob} {p : Nat} {fs : List (List UInt8)} {q : List Fl} {W : Int} {F : Nat} {cv qv : Value} {C : List (Value × List UInt8)}
set_option maxHeartbeats 8000000 in
theorem first_c (s : St S w0 w (SdL p cv qv C q W F L)) (hb : q.length ≤ 1000) (ans : Int) (ha : Rp W q ans) :
    Calls Try.prog 29 #[.pointer (some ⟨p, 0, none⟩)] w fun e w' => e = .returned (.int .i64 ans) ∧ St S w0 w' (SdL p cv qv C q W F L) := by
  obtain ⟨hl, z0, z1, z2, z3, zf⟩ := see_s s
  obtain ⟨n, hn⟩ : ∃ n, q.length = n := ⟨_, rfl⟩
  obtain ⟨A, c, rfl, hr, _⟩ := see_n s
  have hcell : ∀ k wr, k < n → St S w0 wr (SdL p cv (.slice A q.length c) C q W F L) → ∃ g o f, A = some ⟨g, o, none⟩ ∧ q[k]? = some f ∧ g < wr.heap.size ∧ wr.cell? ⟨g, o + k * 4, none⟩ = some (.int .i64 (f.id : Int)) ∧ wr.cell? ⟨g, o + k * 4 + 1, none⟩ = some (.int .i64 f.win) ∧ wr.cell? ⟨g, o + k * 4 + 2, none⟩ = some (.int .i64 (f.wait : Int)) ∧ wr.cell? ⟨g, o + k * 4 + 3, none⟩ = some (.bool f.en) := fun k wr hk sr => by
    obtain ⟨A', c', hA, hr', _⟩ := see_n sr
    injection hA with hA
    subst hA
    exact rd_fl hr' (by omega)
  have Hcell := Lib.hid hcell
  have Ha := Lib.hid ha
  have HS := Lib.hid s
  have HN := Lib.hid hn
  have hb2 : n ≤ 1000 := by omega
  have z1' : w.cell? ⟨p, 1, none⟩ = some (.slice A n c) := by rw [← hn]; exact z1
  clear hr hcell ha s zf hb z1 z0 hn
  go_enter Try.func29, Try.ntmps29
  go_wp2
  go_step3
  go_wp2
  go_step3
  go_wp2
  go_loopg [11, 3] n (fun gh i fv wr => ∃ k : Nat, gh + k = n ∧ i = .int .i64 k ∧ fv = .int .i64 (-1) ∧ Hid (∀ j, j < k → ∀ g, q[j]? = some g → rdy W g = false) ∧ Hid (St S w0 wr (SdL p cv (.slice A q.length c) C q W F L)))
  case atStart => exact ⟨0, by omega, rfl, rfl, fun j hj => absurd hj (Nat.not_lt_zero _), HS.out⟩
  case round =>
    obtain ⟨k, hgk, rfl, rfl, hne, HW⟩ := hrel
    clear z1' z2 z3 hl
    cases gk with
    | zero =>
      obtain rfl : k = n := by omega
      have hans : ans = -1 := Ha.out.end_ (by rw [HN.out]; exact hne.out)
      subst hans
      go_wp2
      (try rw [Exit.noGoto_ret]); go_ret
      exact ⟨rfl, HW.out⟩
    | succ g1 =>
      have hkn : k < n := by omega
      obtain ⟨hl, _, _, z2, _, _⟩ := see_s HW.out
      obtain ⟨g, o, f, rfl, hf, hgl, d0, d1, d2, d3⟩ := Hcell.out k wr hkn HW.out
      have hw := Ha.out.at_ hf hne.out
      have hk1 : IntKind.i64.wrap ((k : Int) + 1) = (k : Int) + 1 := by rw [IntKind.wrap_i64]; omega
      have hnext : rdy W f = false → Hid (∀ j, j < k + 1 → ∀ g, q[j]? = some g → rdy W g = false) := fun h => by
        intro j hj x hx
        by_cases e : j = k
        · subst e
          rw [hf] at hx
          injection hx with hx
          subst hx
          exact h
        · exact hne.out j (by omega) x hx
      obtain ⟨fi, fw, fa, fe⟩ := f
      simp only at d0 d1 d2 d3 hw hnext
      have HA := Lib.hid (HW.out.alloc (.cells #[.int .i64 (fi : Int), .int .i64 fw, .int .i64 (fa : Int), .bool fe] 63))
      have hpar := rdy_ways (W := W) (f := ⟨fi, fw, fa, fe⟩) rfl
      simp only at hpar
      have hmeet : Hid (∀ x : Bool, rdy W ⟨fi, fw, fa, fe⟩ = x → x = true → ans = (k : Int)) := by
        intro x hx hx2
        rcases hw with ⟨_, h⟩ | h
        · exact h
        · rw [h] at hx; rw [← hx] at hx2; cases hx2
      clear hf hw
      rcases hpar with ⟨h1, h2, h3⟩ | ⟨h1, h2, h3⟩ | ⟨h1, h2, h4, h3⟩ | ⟨h1, h2, h3⟩ | ⟨h1, h2, h4, h3⟩
      · subst h1 h2
        obtain rfl : ans = (k : Int) := hmeet.out _ h3 rfl
        clear h3 hnext hmeet
        go_wp2
        (try rw [Exit.noGoto_ret]); go_ret
        exact ⟨rfl, HA.out⟩
      · subst h1 h2
        have HN1 := hnext h3
        clear h3 hnext hmeet
        go_wp2
        go_roundg g1
        case measure => omega
        case rel => exact ⟨k + 1, by omega, by go_num, rfl, HN1.out, HA.out⟩
      · obtain rfl : ans = (k : Int) := hmeet.out _ h3 rfl
        have h5 : ((fa : Int) == 0) = false := by simp; omega
        clear h3 hnext hmeet
        go_wp2
        (try rw [Exit.noGoto_ret]); go_ret
        exact ⟨rfl, HA.out⟩
      · have HN1 := hnext h3
        have h5 : ((fa : Int) == 0) = false := by simp; omega
        clear h3 hnext hmeet
        go_wp2
        go_roundg g1
        case measure => omega
        case rel => exact ⟨k + 1, by omega, by go_num, rfl, HN1.out, HA.out⟩
      · have HN1 := hnext h3
        have h5 : ((fa : Int) == 0) = false := by simp; omega
        clear h3 hnext hmeet
        go_wp2
        go_roundg g1
        case measure => omega
        case rel => exact ⟨k + 1, by omega, by go_num, rfl, HN1.out, HA.out⟩
theorem run_min5 {P : Program} {w : World} (ts : Array TypeId) (t : TypeId) (x y z u v : Int) : (Builtin.min_ ts t #[.int .i64 x, .int .i64 y, .int .i64 z, .int .i64 u, .int .i64 v]).run P w = .ok (.int .i64 (min (min x y) (min (min z u) v))) w := by
  have e2 : ∀ a b : Int, (if b < a then b else a) = min a b := fun a b => by rw [Int.min_def]; split <;> split <;> omega
  have : (if v < (if u < (if z < (if y < x then y else x) then z else (if y < x then y else x)) then u else (if z < (if y < x then y else x) then z else (if y < x then y else x))) then v else (if u < (if z < (if y < x then y else x) then z else (if y < x then y else x)) then u else (if z < (if y < x then y else x) then z else (if y < x then y else x)))) = min (min x y) (min (min z u) v) := by
    simp only [e2]
    omega
  rw [← this]
  simp [Builtin.min_, Builtin.min2]
theorem octs_max {W : Int} {F c : Nat} {f : Fl} {x : Nat} (hr : rdy W f = true) (hc : 9 ≤ c) (hx : octs W F c f = x) : (if (0 : Int) < min (min (f.wait : Int) f.win) (min (min W (F : Int)) ((c : Int) - 9)) then min (min (f.wait : Int) f.win) (min (min W (F : Int)) ((c : Int) - 9)) else 0) = (x : Int) := by
  subst hx
  unfold octs
  have := rdy_ways hr
  split <;> split <;> omega
set_option maxHeartbeats 4000000 in
theorem most_c (s : St S w0 w (SdL p cv qv C q W F L)) (fi fa : Nat) (fw : Int) (fe : Bool) (m : Int) (x : Nat) (hx : (if (0 : Int) < min (min (fa : Int) fw) (min (min W (F : Int)) m) then min (min (fa : Int) fw) (min (min W (F : Int)) m) else 0) = (x : Int)) :
    Calls Try.prog 30 #[.pointer (some ⟨p, 0, none⟩), .agg #[.int .i64 (fi : Int), .int .i64 fw, .int .i64 (fa : Int), .bool fe], .int .i64 m] w fun e w' => e = .returned (.int .i64 (x : Int)) ∧ St S w0 w' (SdL p cv qv C q W F L) := by
  obtain ⟨r, hr⟩ : ∃ r, w.heap.size = r := ⟨_, rfl⟩
  have ha := s.alloc (.cells #[.int .i64 (fi : Int), .int .i64 fw, .int .i64 (fa : Int), .bool fe] 63)
  have hb := Blk.new w 63 [.int .i64 (fi : Int), .int .i64 fw, .int .i64 (fa : Int), .bool fe]
  obtain ⟨W1, hW⟩ : ∃ W1, w.alloc (.cells #[.int .i64 (fi : Int), .int .i64 fw, .int .i64 (fa : Int), .bool fe] 63) = W1 := ⟨_, rfl⟩
  rw [hW] at ha
  rw [show w.alloc (.cells [.int .i64 (fi : Int), .int .i64 fw, .int .i64 (fa : Int), .bool fe].toArray 63) = W1 from hW, hr] at hb
  obtain ⟨hl, _, _, z2, z3, _⟩ := see_s ha
  have HA := Lib.hid ha
  have b1 : W1.cell? ⟨r, 1, none⟩ = some (.int .i64 fw) := hb.cell 1
  have b2 : W1.cell? ⟨r, 2, none⟩ = some (.int .i64 (fa : Int)) := hb.cell 2
  have bl := hb.lt
  have HW := Lib.hid hW
  have HR := Lib.hid hr
  clear hW hr ha hb
  have hm : ∀ (ts : Array TypeId) (t : TypeId) (w : World), (Builtin.min_ ts t #[.int .i64 (fa : Int), .int .i64 fw, .int .i64 W, .int .i64 (F : Int), .int .i64 m]).run Try.prog w = .ok (.int .i64 (min (min (fa : Int) fw) (min (min W (F : Int)) m))) w := fun ts t w => run_min5 ts t _ _ _ _ _
  generalize min (min (fa : Int) fw) (min (min W (F : Int)) m) = M at hm hx
  clear s
  go_enter Try.func30, Try.ntmps30
  go_wp2
  rw [HW.out, HR.out]
  refine wp_region_still_lit (by kernel_rfl) (by kernel_rfl) ?_
  iterate 16 still_step
  refine wpStill_nil ?_
  go_wp2
  go_ret
  exact ⟨rfl, HA.out.drew⟩
end
end Go.Proofs.Ytbjjphpkpmikjaa
