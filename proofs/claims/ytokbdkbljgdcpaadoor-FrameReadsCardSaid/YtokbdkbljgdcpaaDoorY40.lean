/- Several texts in one: FE, Fv. -/
import Derived.Test.YtokbdkbljgdcpaaDoorY36
import Derived.Test.YtokbdkbljgdcpaaDoorY37
import Derived.Test.YtokbdkbljgdcpaaDoorY38
import Derived.Test.YtokbdkbljgdcpaaDoorY39
import Derived.Test.YtokbdkbljgdcpaaDoorY2
import Derived.Test.YtokbdkbljgdcpaaDoorY11
import Derived.Deep.AppendSrc
/- frame: a head and its payload, whole. -/
namespace Go.Proofs.YtokbdkbljgdcpaaDoor
open Go.RowKit Go.Own Go.Frm
set_option linter.unusedVariables false
set_option maxRecDepth 100000
theorem badSize_no {k fl n : Nat} (h : badSize k fl n = false) : must k fl ≤ n ∧ (k = 4 → n % 6 = 0) := by
  unfold badSize at h
  simp only [Bool.or_eq_false_iff, decide_eq_false_iff_not] at h
  obtain ⟨⟨h1, h2⟩, h3⟩ := h
  refine ⟨by omega, ?_⟩
  rintro rfl
  simp at h3
  exact h3.1
theorem needP_plain {k fl : Nat} {xs : List UInt8} (h : badSize k fl xs.length = false) (hp : padded k fl = false) (hm : xs.length ≤ 16777215) : NeedP k fl xs := by
  obtain ⟨h1, h2⟩ := badSize_no h
  unfold must at h1
  refine ⟨hm, ?_, ?_, ?_, ?_, ?_, ?_, ?_⟩
  · rintro rfl hw; rw [hw] at h1; simp at h1; omega
  · rintro rfl; simp [base] at h1; omega
  · rintro rfl; simp [base] at h1; omega
  · intro hk; have := h2 hk; omega
  · rintro rfl; simp [base] at h1; omega
  · rintro rfl; simp [base] at h1; omega
  · rintro rfl; simp [base] at h1; omega
theorem unpad_len (xs : List UInt8) : (unpad true xs).length = xs.length - 1 - (xs.headD 0).toNat := by
  simp [unpad]
theorem hP_kinds {k : Nat} (h : hP k = true) : k = 0 ∨ k = 1 ∨ k = 5 := by
  unfold hP at h
  simp at h
  omega
theorem needP_pad {k fl : Nat} {xs : List UInt8} (h : badSize k fl xs.length = false) (hp : padded k fl = true) (hm : xs.length ≤ 16777215) (hlt : ¬ xs.length - must k fl < (xs.headD 0).toNat) : NeedP k fl (unpad true xs) := by
  obtain ⟨h1, h2⟩ := badSize_no h
  have hk : hP k = true := by unfold padded at hp; simp at hp; exact hp.1
  have hl := unpad_len xs
  generalize (xs.headD 0).toNat = hd at hl hlt
  unfold must at h1 hlt
  rw [hp] at h1 hlt
  rcases hP_kinds hk with rfl | rfl | rfl
  · refine ⟨by omega, ?_, ?_, ?_, ?_, ?_, ?_, ?_⟩ <;> intro h <;> omega
  · refine ⟨by omega, ?_, ?_, ?_, ?_, ?_, ?_, ?_⟩
    · intro _ hw
      rw [hw] at h1 hlt
      simp [base] at h1 hlt
      omega
    all_goals (intro h; omega)
  · refine ⟨by omega, ?_, ?_, ?_, ?_, ?_, ?_, ?_⟩
    · intro h; omega
    · intro h; omega
    · intro h; omega
    · intro h; omega
    · intro _
      simp [base] at h1 hlt
      omega
    all_goals (intro h; omega)
theorem must_pad {k fl : Nat} (hp : padded k fl = true) : 1 ≤ must k fl := by unfold must; rw [hp]; simp; omega
section
variable {w : World} {A : Option Addr} {n c k fl s : Nat} {xs : List UInt8}
/-- a frame is read as the document says -/
theorem frame_c (hG : Gl w) (hr : Rd w 1 A n (xs.map BV)) (hnc : n ≤ c) (hc : c ≤ 9223372036854775807) (hA : ∀ a, A = some a → a.block < w.heap.size) (hn : n < 16777216) (hl : xs.length = n) : Calls Tryd.prog 41 #[hdV n k fl s, .slice A n c] w (FraP w (parseP k fl s xs)) := by
  cases hs : stray k (s : Int) with
  | true =>
    have e : parseP k fl s xs = (zeroF, ⟨true, 1, 0⟩) := by unfold parseP; rw [hs]; rfl
    rw [e]
    exact frame_bad hG hn 1 0 (by unfold chkP; rw [hs]; rfl)
  | false =>
    cases hb : badSize k fl n with
    | true =>
      have e : parseP k fl s xs = (zeroF, ⟨true, 6, bif k == 2 then (s : Int) else 0⟩) := by unfold parseP; rw [hs, hl, hb]; rfl
      rw [e]
      exact frame_bad hG hn 6 _ (by unfold chkP; rw [hs, hb]; rfl)
    | false =>
      have hx : chkP n k fl s = noF := by unfold chkP; rw [hs, hb]; rfl
      have hb' : badSize k fl xs.length = false := by rw [hl]; exact hb
      have hm : xs.length ≤ 16777215 := by omega
      have key : ∀ F : Fm, readP k fl s xs = F → (padded k fl && decide (n - must k fl < (xs.headD 0).toNat)) = false → parseP k fl s xs = bif (unfitP F).is then (zeroF, unfitP F) else (F, noF) := by
        intro F hF hq
        unfold parseP
        rw [hs, hb', hl, hq, hF]
        rfl
      have noP : ∀ F : Fm, (unfitP F).is = false → unfitP F = noF := by
        intro F hu
        unfold unfitP at hu ⊢
        cases h1 : (F.kind == 5 && F.last == 0)
        · rw [h1] at hu
          cases h2 : (F.kind == 8 && F.inc == 0)
          · rfl
          · rw [h2] at hu; cases hu
        · rw [h1] at hu; cases hu
      have yesP : ∀ F : Fm, (unfitP F).is = true → ∃ cc z, unfitP F = ⟨true, cc, z⟩ := by
        intro F hu
        cases hq : unfitP F with
        | mk a b d => rw [hq] at hu; cases hu; exact ⟨b, d, rfl⟩
      cases hp : padded k fl with
      | false =>
        have hF : readP k fl s xs = readB k fl s 0 xs := by unfold readP; rw [hp]; rfl
        have ek := key _ hF (by rw [hp]; rfl)
        have hN := needP_plain hb' hp hm
        cases hu : (unfitP (readB k fl s 0 xs)).is with
        | true =>
          obtain ⟨cc, z, hq⟩ := yesP _ hu
          rw [ek, hu, hq]
          exact frame_plain_bad hG hr hnc hc hA hn hx hp hN _ rfl cc z hq
        | false =>
          have hq := noP _ hu
          rw [ek, hu]
          exact frame_plain_ok hG hr hnc hc hA hn hx hp hN _ rfl 0 0 hq
      | true =>
        have h1 := must_pad hp
        have hmn : must k fl ≤ n := by have := (badSize_no hb).1; exact this
        by_cases hlt : n - must k fl < (xs.headD 0).toNat
        · have e : parseP k fl s xs = (zeroF, ⟨true, 1, 0⟩) := by
            unfold parseP; rw [hs, hb', hl, hp, decide_eq_true hlt]; rfl
          rw [e]
          exact frame_pad_bad hG hr hnc hc hA hn hx hp hl _ rfl hmn h1 hlt
        · have hF : readP k fl s xs = readB k fl s ((xs.headD 0).toNat + 1) (unpad true xs) := by unfold readP; rw [hp]; rfl
          have ek := key _ hF (by rw [decide_eq_false hlt, Bool.and_false])
          have hN := needP_pad hb' hp hm (by rw [hl]; exact hlt)
          cases hu : (unfitP (readB k fl s ((xs.headD 0).toNat + 1) (unpad true xs))).is with
          | true =>
            obtain ⟨cc, z, hq⟩ := yesP _ hu
            rw [ek, hu, hq]
            exact frame_pad_unfit hG hr hnc hc hA hn hx hp hl _ rfl hmn h1 hlt _ rfl hN _ rfl cc z hq
          | false =>
            have hq := noP _ hu
            rw [ek, hu]
            exact frame_pad_ok hG hr hnc hc hA hn hx hp hl _ rfl hmn h1 hlt _ rfl hN _ rfl 0 0 hq
end
end Go.Proofs.YtokbdkbljgdcpaaDoor

/- A parser in memory: told, New, SetMax, Size. -/
namespace Go.Proofs.YtokbdkbljgdcpaaDoor
open Go.RowKit Go.Own Go.Frm
set_option linter.unusedVariables false
set_option maxRecDepth 100000

/-- what a parser holds: the slice of its own, from some place on -/
def Hel (w : World) (p : Nat) (v : Value) (F : Nat → Prop) (xs : List UInt8) : Prop :=
  (v = .slice none 0 0 ∧ xs = [] ∧ F = fun _ => False) ∨
  ∃ g o c cur, v = .slice (some ⟨g, o, none⟩) xs.length c ∧ Blk w g 5 cur ∧ xs.length ≤ c ∧ o + c ≤ cur.length ∧ c ≤ 9223372036854775807 ∧ (cur.drop o).take xs.length = xs.map BV ∧ (∀ u ∈ cur, u.oneCell' = true) ∧ g ≠ p ∧ F = fun i => i = g
/-- at block p lies a parser of Max m that holds xs; its blocks -/
def PFo (p m : Nat) (st : Pst) : Ob := fun w F => ∃ v G, Blk w p 82 [v, .int .i64 (m : Int), .bool st.done] ∧ Hel w p v G st.held ∧ st.ok ∧ st.held.length ≤ 16777224 ∧ 16384 ≤ m ∧ m ≤ 16777215 ∧ F = fun i => i = p ∨ G i
theorem Hel.fr {w w' : World} {p : Nat} {v : Value} {F S : Nat → Prop} {xs : List UInt8} (h : Hel w p v F xs) (hf : Fr S w w') (hs : ∀ i, F i → ¬ S i) : Hel w' p v F xs := by
  rcases h with h | ⟨g, o, c, cur, h1, h2, h3, h4, h5, h6, h7, h8, rfl⟩
  · exact .inl h
  · exact .inr ⟨g, o, c, cur, h1, h2.fr hf (hs g rfl), h3, h4, h5, h6, h7, h8, rfl⟩
theorem Hel.lt {w : World} {p : Nat} {v : Value} {F : Nat → Prop} {xs : List UInt8} (h : Hel w p v F xs) {i : Nat} (hi : F i) : i < w.heap.size := by
  rcases h with ⟨_, _, rfl⟩ | ⟨g, o, c, cur, h1, h2, h3, h4, h5, h6, h7, h8, rfl⟩
  · exact hi.elim
  · obtain rfl : i = g := hi
    exact h2.lt
theorem framed_PFo (p m : Nat) (st : Pst) : Framed (PFo p m st) := by
  refine ⟨fun w F h i hi => ?_, fun w w' F S h hf hn => ?_⟩
  · obtain ⟨v, G, h1, h2, h3, h4, h5, h6, rfl⟩ := h
    rcases hi with rfl | hi
    · exact h1.lt
    · exact h2.lt hi
  · obtain ⟨v, G, h1, h2, h3, h4, h5, h6, rfl⟩ := h
    exact ⟨v, G, h1.fr hf (hn p (.inl rfl)), h2.fr hf (fun i hi => hn i (.inr hi)), h3, h4, h5, h6, rfl⟩
/-- the slice reads as the list -/
theorem Hel.rd {w : World} {p : Nat} {v : Value} {F : Nat → Prop} {xs : List UInt8} (h : Hel w p v F xs) : ∃ A c, v = .slice A xs.length c ∧ Rd w 1 A xs.length (xs.map BV) ∧ xs.length ≤ c ∧ c ≤ 9223372036854775807 ∧ (∀ a, A = some a → F a.block) := by
  rcases h with ⟨rfl, rfl, rfl⟩ | ⟨g, o, c, cur, rfl, h2, h3, h4, h5, h6, h7, h8, rfl⟩
  · exact ⟨none, 0, rfl, Rd.nil _ _ _, Nat.le_refl _, by omega, fun a ha => by cases ha⟩
  · refine ⟨some ⟨g, o, none⟩, c, rfl, ⟨by simp, fun hn => ⟨g, o, rfl, fun j u hu => ?_⟩⟩, h3, h5, fun a ha => by cases ha; rfl⟩
    rw [h2.cell, ← hu, ← h6, List.getElem?_take, List.getElem?_drop]
    have hj : j < xs.length := by simpa using (List.getElem?_eq_some_iff.1 hu).1
    rw [if_pos hj]
section
variable {w : World}
/-- New: the walk of SetMax and of New -/
theorem setMaxV {p : Nat} {m : Int} {v : Value} {d : Bool} (hb : Blk w p 82 [v, .int .i64 m, .bool d]) (z : Int) (hz : -9223372036854775808 ≤ z ∧ z ≤ 9223372036854775807) (k : Nat) (hk : clampM z = k) :
    Calls Tryd.prog 19 #[.pointer (some ⟨p, 0, none⟩), .int .i64 z] w fun e w' => e = .returned (.tuple #[]) ∧ w' = w.setCell ⟨p, 1, none⟩ (.int .i64 (k : Int)) := by
  have z1 := hb.cell 1
  have zf := hb.frozen 1
  have hl := hb.lt
  simp only [List.getElem?_cons_zero, List.getElem?_cons_succ] at z1
  obtain ⟨a, b⟩ := hz
  have key : (z < 16384 ∧ k = 16384) ∨ (¬ z < 16384 ∧ 16777215 < z ∧ k = 16777215) ∨ (¬ z < 16384 ∧ ¬ 16777215 < z ∧ (k : Int) = z) := by
    unfold clampM at hk; omega
  clear hb hk
  rcases key with ⟨h1, rfl⟩ | ⟨h1, h2, rfl⟩ | ⟨h1, h2, h3⟩
  all_goals
    go_enter Tryd.func19, Tryd.ntmps19
    go_wp2
    go_end0
    exact ⟨rfl, rfl⟩
theorem clampM_bd (z : Int) : 16384 ≤ clampM z ∧ clampM z ≤ 16777215 := by unfold clampM; omega
theorem setMax_c {p m : Nat} {st : Pst} {F : Nat → Prop} (h : PFo p m st w F) (z : Int) (hz : -9223372036854775808 ≤ z ∧ z ≤ 9223372036854775807) :
    Calls Tryd.prog 19 #[.pointer (some ⟨p, 0, none⟩), .int .i64 z] w fun e w' => e = .returned (.tuple #[]) ∧ St F w w' [PFo p (clampM z) st] := by
  obtain ⟨v, G, h1, h2, h3, h4, h5, h6, rfl⟩ := h
  refine (setMaxV h1 z hz (clampM z) rfl).mono ?_
  rintro e w' ⟨rfl, rfl⟩
  have hf : Fr (· = p) w (w.setCell ⟨p, 1, none⟩ (.int .i64 (clampM z : Int))) := Fr.setCell (S := (· = p)) (Fr.refl _ _) (p := ⟨p, 1, none⟩) (.inl rfl) _
  have hb := clampM_bd z
  refine ⟨rfl, St.changed (framed_PFo p (clampM z) st) (F' := fun i => i = p ∨ G i) ⟨v, G, h1.set_ 1 _, h2.fr hf (fun i hi e => ?_), h3, h4, hb.1, hb.2, rfl⟩ (fun i hi => .inl hi) (hf.mono (fun i _ hi => .inl hi))⟩
  rcases h2 with ⟨_, _, rfl⟩ | ⟨g, o, c, cur, _, _, _, _, _, _, _, hgp, rfl⟩
  · exact hi
  · exact hgp (by rw [← hi]; exact e)
theorem size_c {p m : Nat} {st : Pst} {F : Nat → Prop} (h : PFo p m st w F) : Calls Tryd.prog 25 #[.pointer (some ⟨p, 0, none⟩)] w fun e w' => e = .returned (.int .i64 (st.held.length : Int)) ∧ w' = w := by
  obtain ⟨v, G, h1, h2, h3, h4, h5, h6, rfl⟩ := h
  obtain ⟨A, c, rfl, _, h7, h8, _⟩ := h2.rd
  have z0 := h1.cell 0
  simp only [List.getElem?_cons_zero] at z0
  have hl := h1.lt
  clear h1 h2 h3
  obtain ⟨n, hn⟩ : ∃ n, st.held.length = n := ⟨_, rfl⟩
  rw [hn] at z0 h7 h4 ⊢
  clear hn
  go_enter Tryd.func25, Tryd.ntmps25
  go_wp2
  go_ret
  exact ⟨rfl, rfl⟩
set_option maxHeartbeats 1000000 in
theorem new_c (z : Int) (hz : -9223372036854775808 ≤ z ∧ z ≤ 9223372036854775807) :
    Calls Tryd.prog 17 #[.int .i64 z] w fun e w' => ∃ p, e = .returned (.pointer (some ⟨p, 0, none⟩)) ∧ St (fun _ => False) w w' [PFo p (clampM z) ⟨[], false⟩] := by
  have X0 := Blk.new w 82 [.slice none 0 0, .int .i64 0, .bool false]
  have Hz := Lib.hid hz
  have HX := Lib.hid X0
  clear X0 hz
  go_enter Tryd.func17, Tryd.ntmps17
  go_wp2_with (first
    | (go_at_call 19; (with_reducible refine (setMaxV HX.out z Hz.out (clampM z) rfl).mono ?_); rintro e w2 ⟨rfl, rfl⟩))
  go_ret
  have hb := clampM_bd z
  refine ⟨w.heap.size, rfl, St.made (framed_PFo _ _ _) (F := fun i => i = w.heap.size ∨ False) ⟨.slice none 0 0, fun _ => False, Blk.new w 82 [.slice none 0 0, .int .i64 (clampM z : Int), .bool false], .inl ⟨rfl, rfl, rfl⟩, (show Pst.ok ⟨[], false⟩ from fun h => by cases h), Nat.zero_le _, hb.1, hb.2, rfl⟩ (fun i hi => ?_) ?_⟩
  · rcases hi with rfl | hi
    · exact Nat.le_refl _
    · exact hi.elim
  · exact (Below.refl _ _).alloc (Nat.le_refl _) _
end
end Go.Proofs.YtokbdkbljgdcpaaDoor
