/- Several texts in one: Fr, Fn, Fs. -/
import Derived.Test.YtokbdkbljgdcpaaDoorY9
import Derived.Test.YtokbdkbljgdcpaaDoorY10
import Derived.Test.YtokbdkbljgdcpaaDoorY2
import Derived.StillTailTactics
import Derived.Test.YtokbdkbljgdcpaaDoorY5
/- What payload leaves, in one word for all kinds. -/
namespace Go.Proofs.YtokbdkbljgdcpaaDoor
open Go.RowKit Go.Own Go.Frm
set_option linter.unusedVariables false
set_option maxRecDepth 100000

/-- the slices of a frame, of the call's own -/
def FrOwn (w : World) (b : Nat) (f : Fm) (pv lv : Value) : Prop :=
  ∃ A c B d, pv = .slice A f.pay.length c ∧ lv = .slice B f.list.length d ∧ w.ownsRow b 5 1 pv f.pay.length (f.pay.map BV) ∧ w.ownsRow b 50 2 lv f.list.length (scells f.list)
theorem frOwn_none (w : World) (b : Nat) (f : Fm) (h1 : f.pay = []) (h2 : f.list = []) : FrOwn w b f (.slice none 0 0) (.slice none 0 0) := by
  refine ⟨none, 0, none, 0, ?_, ?_, ?_, ?_⟩
  · rw [h1]; rfl
  · rw [h2]; rfl
  · rw [h1]; exact World.ownsRow_nil _ _ _ _
  · rw [h2]; exact World.ownsRow_nil _ _ _ _
/-- what must be there for payload -/
structure NeedP (k fl : Nat) (xs : List UInt8) : Prop where
  most : xs.length ≤ 16777215
  k1 : k = 1 → withP k fl = true → 5 ≤ xs.length
  k2 : k = 2 → 5 ≤ xs.length
  k3 : k = 3 → 4 ≤ xs.length
  k4 : k = 4 → xs.length = 6 * (xs.length / 6)
  k5 : k = 5 → 4 ≤ xs.length
  k7 : k = 7 → 8 ≤ xs.length
  k8 : k = 8 → 4 ≤ xs.length
def PayP (w : World) (r : Nat) (f : Fm) (e : Ending) (w' : World) : Prop :=
  e = .returned (.tuple #[]) ∧ ∃ pv lv ys, RG w' r (frC f pv lv) ys ∧ Fr (· = r) w w' ∧ FrOwn w' w.heap.size f pv lv
theorem num_one (xs : List UInt8) (h : 1 ≤ xs.length) : num (xs.take 1) = (xs.headD 0).toNat := by
  cases xs with
  | nil => simp at h
  | cons x r => simp [num]
section
variable {w : World} {r : Nat} {xs : List UInt8}
theorem payload_any (k fl s pd : Nat) (h : RG w r (frC (flagP k fl s pd) (.slice none 0 0) (.slice none 0 0)) xs) (hn : NeedP k fl xs) :
    Calls Tryd.prog 65 #[.pointer (some ⟨r, 0, none⟩)] w (PayP w r (readB k fl s pd xs)) := by
  rcases kinds k with rfl | rfl | rfl | rfl | rfl | rfl | rfl | rfl | rfl | rfl | hk
  · refine (payload_0 h rfl hn.most).mono ?_
    rintro e w' ⟨A, c, he, h1, h2, h3⟩
    have hf : readB 0 fl s pd xs = { flagP 0 fl s pd with pay := xs } := by simp [readB, flagP, withP, hR, hW, hT, hC, hB, hF, hL, hI, hE, hH, withA, hA]
    rw [hf]
    exact ⟨he, _, _, _, h1, h2, A, c, none, 0, rfl, rfl, h3, World.ownsRow_nil _ _ _ _⟩
  · cases hp : withP 1 fl
    · refine (payload_1n h rfl (by show some _ = some _; rw [show (flagP 1 fl s pd).prio = withP 1 fl from rfl, hp]) hn.most).mono ?_
      rintro e w' ⟨A, c, he, h1, h2, h3⟩
      have hf : readB 1 fl s pd xs = { flagP 1 fl s pd with pay := xs } := by
        unfold readB flagP
        simp only [hp, Bool.false_or]
        simp [hW, hT, hC, hB, hF, hL, hI]
      rw [hf]
      exact ⟨he, _, _, _, h1, h2, A, c, none, 0, rfl, rfl, h3, World.ownsRow_nil _ _ _ _⟩
    · have h5 := hn.k1 rfl hp
      refine (payload_1y h rfl (by show some _ = some _; rw [show (flagP 1 fl s pd).prio = withP 1 fl from rfl, hp]) h5 hn.most).mono ?_
      rintro e w' ⟨A, c, he, h1, h2, h3⟩
      have h4 := num_one (xs.drop 4) (by rw [List.length_drop]; omega)
      have hf : readB 1 fl s pd xs = { flagP 1 fl s pd with pay := xs.drop 5, depend := (low (num (xs.take 4)) : Int), excl := hi31 (num (xs.take 4)), weight := ((xs.drop 4).headD 0).toNat + 1 } := by
        unfold readB flagP
        simp only [hp, Bool.true_or]
        simp [hT, hC, hB, hF, hL, hI]
      rw [hf]
      refine ⟨he, .slice A (xs.drop 5).length c, .slice none 0 0, xs.drop 5, ?_, h2, A, c, none, 0, rfl, rfl, h3, World.ownsRow_nil _ _ _ _⟩
      unfold prioC at h1
      rw [h4] at h1
      exact h1
  · have h5 := hn.k2 rfl
    refine (payload_2 h rfl h5).mono ?_
    rintro e w' ⟨he, h1, h2⟩
    have h4 := num_one (xs.drop 4) (by rw [List.length_drop]; omega)
    have hf : readB 2 fl s pd xs = { flagP 2 fl s pd with depend := (low (num (xs.take 4)) : Int), excl := hi31 (num (xs.take 4)), weight := ((xs.drop 4).headD 0).toNat + 1 } := by simp [readB, flagP, withP, hR, hW, hT, hC, hB, hF, hL, hI, hE, hH, withA, hA]
    rw [hf]
    refine ⟨he, .slice none 0 0, .slice none 0 0, xs.drop 5, ?_, h2, frOwn_none _ _ _ rfl rfl⟩
    unfold prioC at h1
    rw [h4] at h1
    exact h1
  · have h5 := hn.k3 rfl
    refine (payload_3 h rfl h5).mono ?_
    rintro e w' ⟨he, h1, h2⟩
    have hf : readB 3 fl s pd xs = { flagP 3 fl s pd with code := num (xs.take 4) } := by simp [readB, flagP, withP, hR, hW, hT, hC, hB, hF, hL, hI, hE, hH, withA, hA]
    rw [hf]
    exact ⟨he, _, _, _, h1, h2, frOwn_none _ _ _ rfl rfl⟩
  · have h5 := hn.k4 rfl
    refine (payload_4 h rfl rfl (xs.length / 6) h5 hn.most).mono ?_
    rintro e w' ⟨A, c, he, h1, h2, h3⟩
    have hf : readB 4 fl s pd xs = { flagP 4 fl s pd with list := settsN (xs.length / 6) xs } := by simp [readB, flagP, withP, hR, hW, hT, hC, hB, hF, hL, hI, hE, hH, withA, hA]
    rw [hf]
    have hl : (settsN (xs.length / 6) xs).length = xs.length / 6 := settsN_length _ _
    refine ⟨he, _, _, _, h1, h2, none, 0, A, c, rfl, ?_, World.ownsRow_nil _ _ _ _, ?_⟩
    · show _ = Value.slice A (settsN (xs.length / 6) xs).length c
      rw [hl]
    · show World.ownsRow _ _ _ _ _ (settsN (xs.length / 6) xs).length _
      rw [hl]
      exact h3
  · have h5 := hn.k5 rfl
    refine (payload_5 h rfl h5 hn.most).mono ?_
    rintro e w' ⟨A, c, he, h1, h2, h3⟩
    have hf : readB 5 fl s pd xs = { flagP 5 fl s pd with pay := xs.drop 4, last := (low (num (xs.take 4)) : Int) } := by simp [readB, flagP, withP, hR, hW, hT, hC, hB, hF, hL, hI, hE, hH, withA, hA]
    rw [hf]
    exact ⟨he, _, _, _, h1, h2, A, c, none, 0, rfl, rfl, h3, World.ownsRow_nil _ _ _ _⟩
  · refine (payload_6 h rfl hn.most).mono ?_
    rintro e w' ⟨A, c, he, h1, h2, h3⟩
    have hf : readB 6 fl s pd xs = { flagP 6 fl s pd with pay := xs } := by simp [readB, flagP, withP, hR, hW, hT, hC, hB, hF, hL, hI, hE, hH, withA, hA]
    rw [hf]
    exact ⟨he, _, _, _, h1, h2, A, c, none, 0, rfl, rfl, h3, World.ownsRow_nil _ _ _ _⟩
  · have h5 := hn.k7 rfl
    refine (payload_7 h rfl h5 hn.most).mono ?_
    rintro e w' ⟨A, c, he, h1, h2, h3⟩
    have hf : readB 7 fl s pd xs = { flagP 7 fl s pd with pay := xs.drop 8, last := (low (num (xs.take 4)) : Int), code := num ((xs.drop 4).take 4) } := by simp [readB, flagP, withP, hR, hW, hT, hC, hB, hF, hL, hI, hE, hH, withA, hA]
    rw [hf]
    exact ⟨he, _, _, _, h1, h2, A, c, none, 0, rfl, rfl, h3, World.ownsRow_nil _ _ _ _⟩
  · have h5 := hn.k8 rfl
    refine (payload_8 h rfl h5).mono ?_
    rintro e w' ⟨he, h1, h2⟩
    have hf : readB 8 fl s pd xs = { flagP 8 fl s pd with inc := (low (num (xs.take 4)) : Int) } := by simp [readB, flagP, withP, hR, hW, hT, hC, hB, hF, hL, hI, hE, hH, withA, hA]
    rw [hf]
    exact ⟨he, _, _, _, h1, h2, frOwn_none _ _ _ rfl rfl⟩
  · refine (payload_9 h rfl hn.most).mono ?_
    rintro e w' ⟨A, c, he, h1, h2, h3⟩
    have hf : readB 9 fl s pd xs = { flagP 9 fl s pd with pay := xs } := by simp [readB, flagP, withP, hR, hW, hT, hC, hB, hF, hL, hI, hE, hH, withA, hA]
    rw [hf]
    exact ⟨he, _, _, _, h1, h2, A, c, none, 0, rfl, rfl, h3, World.ownsRow_nil _ _ _ _⟩
  · refine (payload_hi h k hk rfl hn.most).mono ?_
    rintro e w' ⟨A, c, he, h1, h2, h3⟩
    obtain ⟨l1, _, l3, l4, l5, l6, l7, l8, l9, l10, l11, l12, _⟩ := hi_letters k hk
    have hf : readB k fl s pd xs = { flagP k fl s pd with pay := xs } := by simp [readB, flagP, withP, withA, l1, l3, l4, l5, l6, l7, l8, l9, l10, l11, l12]
    rw [hf]
    exact ⟨he, _, _, _, h1, h2, A, c, none, 0, rfl, rfl, h3, World.ownsRow_nil _ _ _ _⟩
end
end Go.Proofs.YtokbdkbljgdcpaaDoor

/- unfit, padding. -/
namespace Go.Proofs.YtokbdkbljgdcpaaDoor
open Go.RowKit Go.Own Go.Frm
set_option linter.unusedVariables false
set_option maxRecDepth 100000

section
variable {w : World}
set_option maxHeartbeats 1000000 in
theorem unfit_any (f : Fm) (pv lv : Value) (b : Bool) (c : Nat) (z : Int) (hx : unfitP f = ⟨b, c, z⟩) : Calls Tryd.prog 66 #[frV f pv lv] w fun e w' => e = .returned (.agg #[.bool b, .int .u32 (c : Int), .int .i64 z]) ∧ Below w.heap.size w w' := by
  obtain ⟨kind, stream, fin, eh, ack, prio, pay, flags, pad, depend, excl, weight, code, list, last, inc⟩ := f
  have key : ((kind == 5) = true ∧ (last == 0) = true ∧ b = true ∧ c = 1 ∧ z = 0) ∨ ((kind == 8) = true ∧ (kind == 5) = false ∧ (inc == 0) = true ∧ b = true ∧ c = 1 ∧ z = stream) ∨
      ((kind == 5) = true ∧ (last == 0) = false ∧ (kind == 8) = false ∧ b = false ∧ c = 0 ∧ z = 0) ∨ ((kind == 5) = false ∧ (kind == 8) = true ∧ (inc == 0) = false ∧ b = false ∧ c = 0 ∧ z = 0) ∨ ((kind == 5) = false ∧ (kind == 8) = false ∧ b = false ∧ c = 0 ∧ z = 0) := by
    unfold unfitP at hx
    simp only at hx
    by_cases h5 : kind = 5
    · subst h5
      cases hl : (last == 0)
      · right; right; left
        rw [hl] at hx
        have h : noF = ⟨b, c, z⟩ := hx
        cases h
        exact ⟨rfl, rfl, rfl, rfl, rfl, rfl⟩
      · left
        rw [hl] at hx
        have h : conF 1 = ⟨b, c, z⟩ := hx
        cases h
        exact ⟨rfl, rfl, rfl, rfl, rfl⟩
    · have e5 : (kind == 5) = false := by simpa using h5
      rw [e5] at hx
      by_cases h8 : kind = 8
      · subst h8
        cases hl : (inc == 0)
        · right; right; right; left
          rw [hl] at hx
          have h : noF = ⟨b, c, z⟩ := hx
          cases h
          exact ⟨rfl, rfl, rfl, rfl, rfl, rfl⟩
        · right; left
          rw [hl] at hx
          have h : (⟨true, 1, stream⟩ : Flt) = ⟨b, c, z⟩ := hx
          cases h
          exact ⟨rfl, rfl, rfl, rfl, rfl, rfl⟩
      · have e8 : (kind == 8) = false := by simpa using h8
        right; right; right; right
        rw [e8] at hx
        have h : noF = ⟨b, c, z⟩ := hx
        cases h
        exact ⟨e5, e8, rfl, rfl, rfl⟩
  clear hx
  have X2 := Lib.hid (blk_new2 w (.cells #[.int .i64 kind, .int .i64 stream, .bool fin, .bool eh, .bool ack, .bool prio, pv, .int .i64 flags, .int .i64 pad, .int .i64 depend, .bool excl, .int .i64 weight, .int .u32 (code : Int), lv, .int .i64 last, .int .i64 inc] 27) 46 [.bool false, .int .u32 0, .int .i64 0])
  have B2 : Hid (Below w.heap.size w _) := (((Below.refl _ w).alloc (Nat.le_refl _) (.cells #[.int .i64 kind, .int .i64 stream, .bool fin, .bool eh, .bool ack, .bool prio, pv, .int .i64 flags, .int .i64 pad, .int .i64 depend, .bool excl, .int .i64 weight, .int .u32 (code : Int), lv, .int .i64 last, .int .i64 inc] 27)).alloc (by simp) (.cells #[.bool false, .int .u32 0, .int .i64 0] 46))
  rcases key with ⟨h1, h2, rfl, rfl, rfl⟩ | ⟨h1, h2, h3, rfl, rfl, rfl⟩ | ⟨h1, h2, h3, rfl, rfl, rfl⟩ | ⟨h1, h2, h3, rfl, rfl, rfl⟩ | ⟨h1, h2, rfl, rfl, rfl⟩
  · go_enter Tryd.func66, Tryd.ntmps66
    go_wp2_with (first
      | (go_at_call 40; (with_reducible refine (faultOf_any 1 0 _).mono ?_); rintro e w5 ⟨rfl, hb5⟩
         obtain ⟨hc5, hf5⟩ := bcell hb5
         have X5 := Lib.hid (blk_below X2.out hb5)
         have L5 := X5.out.lt
         have HB5 := Lib.hid (B2.out.trans (hb5.mono B2.out.size))
         clear hb5))
    refine bodyPost_ret (res_flt (p := 2) rfl rfl (((X5.out.set_ 0 _).set_ 1 _).set_ 2 _)) rfl ⟨rfl, ?_⟩
    exact ((HB5.out.setCell (by simp) _).setCell (by simp) _).setCell (by simp) _
  · go_enter Tryd.func66, Tryd.ntmps66
    go_wp2_with (first
      | (go_at_call 40; (with_reducible refine (faultOf_any 1 _ _).mono ?_); rintro e w5 ⟨rfl, hb5⟩
         obtain ⟨hc5, hf5⟩ := bcell hb5
         have X5 := Lib.hid (blk_below X2.out hb5)
         have L5 := X5.out.lt
         have HB5 := Lib.hid (B2.out.trans (hb5.mono B2.out.size))
         clear hb5))
    refine bodyPost_ret (res_flt (p := 2) rfl rfl (((X5.out.set_ 0 _).set_ 1 _).set_ 2 _)) rfl ⟨rfl, ?_⟩
    exact ((HB5.out.setCell (by simp) _).setCell (by simp) _).setCell (by simp) _
  all_goals
    go_enter Tryd.func66, Tryd.ntmps66
    go_wp2
    refine bodyPost_ret (res_flt (p := 2) rfl rfl X2.out) rfl ⟨rfl, B2.out⟩
end
section
variable {w : World} {r : Nat} {cs : List Value} {xs : List UInt8}
theorem RG.fr2 {w' : World} {S : Nat → Prop} (h : RG w r cs xs) (hf : Fr S w w') (hs : ∀ i, i ≤ r → ¬ S i) : RG w' r cs xs := by
  obtain ⟨A, n, c, hl, hb, hr, h1, h2, h3⟩ := h
  exact ⟨A, n, c, hl, hb.fr hf (hs r (Nat.le_refl _)), hr.fr hf (fun a ha => hs _ (Nat.le_of_lt (h3 a ha))), h1, h2, h3⟩
/-- what padding leaves -/
def PadP (w : World) (r : Nat) (cs : List Value) (xs : List UInt8) (most : Nat) (e : Ending) (w' : World) : Prop :=
  Fr (· = r) w w' ∧ ((most < (xs.headD 0).toNat ∧ e = .returned (.agg #[.bool true, .int .u32 1, .int .i64 0])) ∨
    (¬ most < (xs.headD 0).toNat ∧ e = .returned (.agg #[.bool false, .int .u32 0, .int .i64 0]) ∧ RG w' r (cs.set 8 (.int .i64 (((xs.headD 0).toNat + 1 : Nat) : Int))) (unpad true xs)))
theorem num_head (xs : List UInt8) (h : 1 ≤ xs.length) : num (xs.take 1) = (xs.headD 0).toNat := by
  cases xs with
  | nil => simp at h
  | cons x r => simp [num]
set_option maxHeartbeats 2000000 in
theorem padding_c (h : RG w r cs xs) (hx : 1 ≤ xs.length) (most : Nat) (hm : most ≤ 16777215) (hbig : most + 1 ≤ xs.length) : Calls Tryd.prog 63 #[.pointer (some ⟨r, 0, none⟩), .int .i64 (most : Int)] w (PadP w r cs xs most) := by
  have hrl := h.lt
  have H := Lib.hid h
  obtain ⟨p, hp⟩ : ∃ p, (xs.headD 0).toNat = p := ⟨_, rfl⟩
  have hp2 : p < 256 := by rw [← hp]; exact (xs.headD 0).toNat_lt
  have hn := (num_head xs hx).trans hp
  have HP := Lib.hid hp
  have HN := Lib.hid hn
  have hbx : Hid (Below w.heap.size w (w.alloc (.cells #[.bool false, .int .u32 0, .int .i64 0] 46))) := (Below.refl _ w).alloc (Nat.le_refl _) _
  have H0 := Lib.hid (h.below hbx.out)
  have X0 := Lib.hid (Blk.new w 46 [.bool false, .int .u32 0, .int .i64 0])
  clear h hp hn
  unfold PadP
  rw [HP.out]
  by_cases hlt : most < p
  · have k1 : (most : Int) < (p : Int) := by omega
    go_enter Tryd.func63, Tryd.ntmps63
    go_wp2_with (first
      | (go_at_call 59; (with_reducible refine (number_c H0.out 1 1 rfl (by omega) (by omega) hx).mono ?_); rintro e w1 ⟨rfl, h1, f1⟩
         rw [HN.out]
         have X1 := Lib.hid (Blk.fr X0.out f1 (fun e => by omega))
         have F1 := Lib.hid ((Fr.of_below hbx.out (S := (· = r)) (fun i a b => by omega)).trans f1 (fun _ _ h => h))
         have L1 := X1.out.lt
         clear h1 f1)
      | (go_at_call 40; (with_reducible refine (faultOf_any 1 0 _).mono ?_); rintro e w5 ⟨rfl, hb5⟩
         have X5 := Lib.hid (blk_below X1.out hb5)
         have z0 := X5.out.cell 0
         have z1 := X5.out.cell 1
         have z2 := X5.out.cell 2
         have zf := X5.out.frozen
         simp only [List.getElem?_cons_zero, List.getElem?_cons_succ] at z0 z1 z2
         have F5 := Lib.hid (F1.out.trans (Fr.of_below hb5 (S := (· = r)) (fun i a b => by omega)) (fun _ _ h => h))
         clear hb5))
    refine bodyPost_ret (res_flt (p := 4) rfl rfl (((X5.out.set_ 0 _).set_ 1 _).set_ 2 _)) rfl ⟨?_, .inl ⟨hlt, rfl⟩⟩
    exact ((F5.out.setCell (.inr (Nat.le_refl _)) _).setCell (.inr (Nat.le_refl _)) _).setCell (.inr (Nat.le_refl _)) _
  · have k1 : ¬ (most : Int) < (p : Int) := by omega
    go_enter Tryd.func63, Tryd.ntmps63
    go_wp2_with (first
      | (go_at_call 59; (with_reducible refine (number_c H0.out 1 1 rfl (by omega) (by omega) hx).mono ?_); rintro e w1 ⟨rfl, h1, f1⟩
         rw [HN.out]
         have X1 := Lib.hid (Blk.fr X0.out f1 (fun e => by omega))
         obtain ⟨⟨_, _, y8⟩, z8⟩ := h1.at_ 8 (by omega)
         have h2 := h1.set_ 8 (by omega) (.int .i64 ((p : Int) + 1))
         have F1 := Lib.hid (((Fr.of_below hbx.out (S := (· = r)) (fun i a b => by omega)).trans f1 (fun _ _ h => h)).setCell (p := ⟨r, 8, none⟩) (.inl rfl) (.int .i64 ((p : Int) + 1)))
         have L1 := h1.lt
         obtain ⟨A, n, c, hl, hb, hr, hnc, hc, hA⟩ := id h2
         have hn' : (xs.drop 1).length = n := by simpa using hr.1
         rw [List.length_drop] at hn'
         have y16 := blk_tail hl hb
         have z16 := hb.frozen 16
         have L2 := hb.lt
         have H2 := Lib.hid h2
         have Hr := Lib.hid hr
         have HA := Lib.hid hA
         have wn : IntKind.i64.wrap ((n : Int) - (p : Int)) = ((n - p : Nat) : Int) := by rw [IntKind.wrap_i64]; omega
         have hpn : p ≤ n := by omega
         have hnp : n - p ≤ c := by omega
         have hN := Lib.hid hn'
         clear h1 f1 h2 hb hr hA hl hn'))
    have X3 : Hid (Blk (w1.setCell ⟨r, 8, none⟩ (.int .i64 ((p : Int) + 1))) w.heap.size 46 [.bool false, .int .u32 0, .int .i64 0]) := Blk.fr (S := (· = r)) X1.out (Fr.setCell (S := (· = r)) (Fr.refl _ _) (p := ⟨r, 8, none⟩) (.inl rfl) _) (fun e => by omega)
    generalize (w1.setCell ⟨r, 8, none⟩ (.int .i64 ((p : Int) + 1))) = w3 at H2 Hr F1 X3 y16 z16 L2 ⊢
    go_still_tail 15, (by kernel_rfl)
    change wpList _ _ _ _ _ w3.drew
    have H3 : Hid (RG w3.drew r (cs.set 8 (.int .i64 ((p : Int) + 1))) (xs.drop 1)) := H2.out.below (below_drewN (Below.refl _ _) 1)
    have R3 : Hid (Rd w3 1 A (n - p) (((xs.drop 1).take (n - p)).map BV)) := by
      have h := Hr.out.take (k := n - p) (by omega)
      rw [Nat.mul_one, ← List.map_take] at h
      exact h
    have z0 := X3.out.cell 0
    have z1 := X3.out.cell 1
    have z2 := X3.out.cell 2
    have zf := X3.out.frozen
    simp only [List.getElem?_cons_zero, List.getElem?_cons_succ] at z0 z1 z2
    have hne : ¬ w.heap.size = r := by omega
    have hne2 : ¬ r = w.heap.size := by omega
    go_wp2
    have HU : Hid (unpad true xs = (xs.drop 1).take (n - p)) := by
      show _ = _
      unfold unpad
      rw [cond_true, HP.out, ← hN.out]
    have H4 : RG (w3.setCell ⟨r, 16, none⟩ (.slice A (n - p) c)) r (cs.set 8 (.int .i64 ((p : Int) + 1))) ((xs.drop 1).take (n - p)) := H2.out.left R3.out hnp hc HA.out
    have X4 : Blk (w3.setCell ⟨r, 16, none⟩ (.slice A (n - p) c)) w.heap.size 46 [.bool false, .int .u32 0, .int .i64 0] := Blk.fr (S := (· = r)) X3.out (Fr.setCell (S := (· = r)) (Fr.refl _ _) (p := ⟨r, 16, none⟩) (.inl rfl) _) hne
    have F4 : Fr (· = r) w (w3.setCell ⟨r, 16, none⟩ (.slice A (n - p) c)) := F1.out.setCell (p := ⟨r, 16, none⟩) (.inl rfl) _
    refine bodyPost_ret (res_flt (p := 4) rfl rfl (blk_drew (((X4.set_ 0 _).set_ 1 _).set_ 2 _))) rfl ⟨?_, .inr ⟨hlt, rfl, ?_⟩⟩
    · exact (((F4.setCell (.inr (Nat.le_refl _)) _).setCell (.inr (Nat.le_refl _)) _).setCell (.inr (Nat.le_refl _)) _).drew
    · rw [HU.out]
      refine H4.fr2 (S := (· = w.heap.size)) (((Fr.setCell (S := (· = w.heap.size)) (Fr.refl _ _) (p := ⟨w.heap.size, 0, none⟩) (.inl rfl) _).setCell (p := ⟨w.heap.size, 1, none⟩) (.inl rfl) _).setCell (p := ⟨w.heap.size, 2, none⟩) (.inl rfl) _).drew (fun i hi e => by omega)
end
end Go.Proofs.YtokbdkbljgdcpaaDoor

/- frame: the frame of a head and its payload. -/
namespace Go.Proofs.YtokbdkbljgdcpaaDoor
open Go.RowKit Go.Own Go.Frm
set_option linter.unusedVariables false
set_option maxRecDepth 100000

def zero16 : List Value := [.int .i64 0, .int .i64 0, .bool false, .bool false, .bool false, .bool false, .slice none 0 0, .int .i64 0, .int .i64 0, .int .i64 0, .bool false, .int .i64 0, .int .u32 0, .slice none 0 0, .int .i64 0, .int .i64 0]
/-- the blocks that frame makes first -/
structure Fx (w : World) (a n k fl s : Nat) : Prop where
  b0 : Blk w a 85 [.int .i64 (n : Int), .int .i64 (k : Int), .int .i64 (fl : Int), .int .i64 (s : Int), .int .i64 ((hpN k fl : Nat) : Int)]
  b1 : Blk w (a + 1) 27 zero16
  b2 : Blk w (a + 2) 46 [.bool false, .int .u32 0, .int .i64 0]
theorem Fx.below {w w' : World} {a n k fl s : Nat} (h : Fx w a n k fl s) (hb : Below w.heap.size w w') : Fx w' a n k fl s := ⟨blk_below h.b0 hb, blk_below h.b1 hb, blk_below h.b2 hb⟩
theorem Fx.fr {w w' : World} {S : Nat → Prop} {a n k fl s : Nat} (h : Fx w a n k fl s) (hf : Fr S w w') (hs : ∀ i, i ≤ a + 2 → ¬ S i) : Fx w' a n k fl s := ⟨h.b0.fr hf (hs _ (by omega)), h.b1.fr hf (hs _ (by omega)), h.b2.fr hf (hs _ (by omega))⟩
theorem fx_new (w : World) (n k fl s : Nat) : Fx (((w.alloc (.cells #[.int .i64 (n : Int), .int .i64 (k : Int), .int .i64 (fl : Int), .int .i64 (s : Int), .int .i64 ((hpN k fl : Nat) : Int)] 85)).alloc (.cells #[.int .i64 0, .int .i64 0, .bool false, .bool false, .bool false, .bool false, .slice none 0 0, .int .i64 0, .int .i64 0, .int .i64 0, .bool false, .int .i64 0, .int .u32 0, .slice none 0 0, .int .i64 0, .int .i64 0] 27)).alloc (.cells #[.bool false, .int .u32 0, .int .i64 0] 46)) w.heap.size n k fl s := by
  refine ⟨(blk_new1 w _ _ _).alloc _, (blk_new2 w _ 27 zero16).alloc _, ?_⟩
  have h := blk_new2 (w.alloc (.cells #[.int .i64 (n : Int), .int .i64 (k : Int), .int .i64 (fl : Int), .int .i64 (s : Int), .int .i64 ((hpN k fl : Nat) : Int)] 85)) (.cells #[.int .i64 0, .int .i64 0, .bool false, .bool false, .bool false, .bool false, .slice none 0 0, .int .i64 0, .int .i64 0, .int .i64 0, .bool false, .int .i64 0, .int .u32 0, .slice none 0 0, .int .i64 0, .int .i64 0] 27) 46 [.bool false, .int .u32 0, .int .i64 0]
  have e : (w.alloc (.cells #[.int .i64 (n : Int), .int .i64 (k : Int), .int .i64 (fl : Int), .int .i64 (s : Int), .int .i64 ((hpN k fl : Nat) : Int)] 85)).heap.size + 1 = w.heap.size + 2 := by simp
  rw [e] at h
  exact h
theorem res_ff {fn : Func} {p q : Tmp} (h : fn.results = #[.cell p 27, .cell q 46]) {tmps : Array Value} {w : World} {g d : Nat} {cs : List Value} {a b c : Value} (hl : cs.length = 16) (hp : tmps.getD p undef = .pointer (some ⟨g, 0, none⟩)) (hq : tmps.getD q undef = .pointer (some ⟨d, 0, none⟩)) (hb : Blk w g 27 cs) (hd : Blk w d 46 [a, b, c]) :
    (results fn tmps).run Tryd.prog w = .ok (.tuple #[.agg cs.toArray, .agg #[a, b, c]]) w := by
  have hp' : tmps[p]?.getD undef = .pointer (some ⟨g, 0, none⟩) := by simpa using hp
  have hq' : tmps[q]?.getD undef = .pointer (some ⟨d, 0, none⟩) := by simpa using hq
  have h1 := run_loadVar_row (P := Tryd.prog) w g 27 27 cs.toArray (0, 0) _ hb Tryd.underlying27 rfl (by rw [info_frame]; simp [hl])
  have h2 := run_loadVar_row (P := Tryd.prog) w d 46 46 #[a, b, c] (0, 0) _ hd Tryd.underlying46 rfl (by kernel_rfl)
  simp [results, h, hp', hq', asAddr, h1, h2]
theorem cells16 {w : World} {g : Nat} (h : Blk w g 27 zero16) : w.cell? ⟨g, 0, none⟩ = some (.int .i64 0) ∧ w.cell? ⟨g, 1, none⟩ = some (.int .i64 0) ∧ w.cell? ⟨g, 2, none⟩ = some (.bool false) ∧ w.cell? ⟨g, 3, none⟩ = some (.bool false) ∧ w.cell? ⟨g, 4, none⟩ = some (.bool false) ∧ w.cell? ⟨g, 5, none⟩ = some (.bool false) ∧ w.cell? ⟨g, 6, none⟩ = some (.slice none 0 0) ∧ w.cell? ⟨g, 7, none⟩ = some (.int .i64 0) ∧ w.cell? ⟨g, 8, none⟩ = some (.int .i64 0) ∧ w.cell? ⟨g, 9, none⟩ = some (.int .i64 0) ∧ w.cell? ⟨g, 10, none⟩ = some (.bool false) ∧ w.cell? ⟨g, 11, none⟩ = some (.int .i64 0) ∧ w.cell? ⟨g, 12, none⟩ = some (.int .u32 0) ∧ w.cell? ⟨g, 13, none⟩ = some (.slice none 0 0) ∧ w.cell? ⟨g, 14, none⟩ = some (.int .i64 0) ∧ w.cell? ⟨g, 15, none⟩ = some (.int .i64 0) :=
  ⟨h.cell 0, h.cell 1, h.cell 2, h.cell 3, h.cell 4, h.cell 5, h.cell 6, h.cell 7, h.cell 8, h.cell 9, h.cell 10, h.cell 11, h.cell 12, h.cell 13, h.cell 14, h.cell 15⟩
/-- a frame is stored into a block that was made for it -/
theorem store16 {w : World} {g : Nat} (h : Blk w g 27 zero16) (v0 v1 v2 v3 v4 v5 v6 v7 v8 v9 v10 v11 v12 v13 v14 v15 : Value) : Blk ((((((((((((((((w.setCell ⟨g, 0, none⟩ v0).setCell ⟨g, 1, none⟩ v1).setCell ⟨g, 2, none⟩ v2).setCell ⟨g, 3, none⟩ v3).setCell ⟨g, 4, none⟩ v4).setCell ⟨g, 5, none⟩ v5).setCell ⟨g, 6, none⟩ v6).setCell ⟨g, 7, none⟩ v7).setCell ⟨g, 8, none⟩ v8).setCell ⟨g, 9, none⟩ v9).setCell ⟨g, 10, none⟩ v10).setCell ⟨g, 11, none⟩ v11).setCell ⟨g, 12, none⟩ v12).setCell ⟨g, 13, none⟩ v13).setCell ⟨g, 14, none⟩ v14).setCell ⟨g, 15, none⟩ v15) g 27 [v0, v1, v2, v3, v4, v5, v6, v7, v8, v9, v10, v11, v12, v13, v14, v15] ∧ Fr (· = g) w ((((((((((((((((w.setCell ⟨g, 0, none⟩ v0).setCell ⟨g, 1, none⟩ v1).setCell ⟨g, 2, none⟩ v2).setCell ⟨g, 3, none⟩ v3).setCell ⟨g, 4, none⟩ v4).setCell ⟨g, 5, none⟩ v5).setCell ⟨g, 6, none⟩ v6).setCell ⟨g, 7, none⟩ v7).setCell ⟨g, 8, none⟩ v8).setCell ⟨g, 9, none⟩ v9).setCell ⟨g, 10, none⟩ v10).setCell ⟨g, 11, none⟩ v11).setCell ⟨g, 12, none⟩ v12).setCell ⟨g, 13, none⟩ v13).setCell ⟨g, 14, none⟩ v14).setCell ⟨g, 15, none⟩ v15) :=
  ⟨((((((((((((((((h.set_ 0 v0).set_ 1 v1).set_ 2 v2).set_ 3 v3).set_ 4 v4).set_ 5 v5).set_ 6 v6).set_ 7 v7).set_ 8 v8).set_ 9 v9).set_ 10 v10).set_ 11 v11).set_ 12 v12).set_ 13 v13).set_ 14 v14).set_ 15 v15), (Fr.setCell (S := (· = g)) ((Fr.setCell (S := (· = g)) ((Fr.setCell (S := (· = g)) ((Fr.setCell (S := (· = g)) ((Fr.setCell (S := (· = g)) ((Fr.setCell (S := (· = g)) ((Fr.setCell (S := (· = g)) ((Fr.setCell (S := (· = g)) ((Fr.setCell (S := (· = g)) ((Fr.setCell (S := (· = g)) ((Fr.setCell (S := (· = g)) ((Fr.setCell (S := (· = g)) ((Fr.setCell (S := (· = g)) ((Fr.setCell (S := (· = g)) ((Fr.setCell (S := (· = g)) ((Fr.setCell (S := (· = g)) (Fr.refl (· = g) w) (p := ⟨g, 0, none⟩) (.inl rfl) v0)) (p := ⟨g, 1, none⟩) (.inl rfl) v1)) (p := ⟨g, 2, none⟩) (.inl rfl) v2)) (p := ⟨g, 3, none⟩) (.inl rfl) v3)) (p := ⟨g, 4, none⟩) (.inl rfl) v4)) (p := ⟨g, 5, none⟩) (.inl rfl) v5)) (p := ⟨g, 6, none⟩) (.inl rfl) v6)) (p := ⟨g, 7, none⟩) (.inl rfl) v7)) (p := ⟨g, 8, none⟩) (.inl rfl) v8)) (p := ⟨g, 9, none⟩) (.inl rfl) v9)) (p := ⟨g, 10, none⟩) (.inl rfl) v10)) (p := ⟨g, 11, none⟩) (.inl rfl) v11)) (p := ⟨g, 12, none⟩) (.inl rfl) v12)) (p := ⟨g, 13, none⟩) (.inl rfl) v13)) (p := ⟨g, 14, none⟩) (.inl rfl) v14)) (p := ⟨g, 15, none⟩) (.inl rfl) v15)⟩
theorem store3 {w : World} {g : Nat} {a b c : Value} (h : Blk w g 46 [a, b, c]) (v0 v1 v2 : Value) : Blk (((w.setCell ⟨g, 0, none⟩ v0).setCell ⟨g, 1, none⟩ v1).setCell ⟨g, 2, none⟩ v2) g 46 [v0, v1, v2] ∧ Fr (· = g) w (((w.setCell ⟨g, 0, none⟩ v0).setCell ⟨g, 1, none⟩ v1).setCell ⟨g, 2, none⟩ v2) :=
  ⟨((h.set_ 0 v0).set_ 1 v1).set_ 2 v2, ((Fr.setCell (S := (· = g)) (Fr.refl _ _) (p := ⟨g, 0, none⟩) (.inl rfl) v0).setCell (p := ⟨g, 1, none⟩) (.inl rfl) v1).setCell (p := ⟨g, 2, none⟩) (.inl rfl) v2⟩
theorem rgCells {w : World} {r : Nat} {f : Fm} {pv lv : Value} {ys : List UInt8} (h : RG w r (frC f pv lv) ys) : w.cell? ⟨r, 0, none⟩ = some (.int .i64 f.kind) ∧ w.cell? ⟨r, 1, none⟩ = some (.int .i64 f.stream) ∧ w.cell? ⟨r, 2, none⟩ = some (.bool f.fin) ∧ w.cell? ⟨r, 3, none⟩ = some (.bool f.eh) ∧ w.cell? ⟨r, 4, none⟩ = some (.bool f.ack) ∧ w.cell? ⟨r, 5, none⟩ = some (.bool f.prio) ∧ w.cell? ⟨r, 6, none⟩ = some (pv) ∧ w.cell? ⟨r, 7, none⟩ = some (.int .i64 f.flags) ∧ w.cell? ⟨r, 8, none⟩ = some (.int .i64 f.pad) ∧ w.cell? ⟨r, 9, none⟩ = some (.int .i64 f.depend) ∧ w.cell? ⟨r, 10, none⟩ = some (.bool f.excl) ∧ w.cell? ⟨r, 11, none⟩ = some (.int .i64 f.weight) ∧ w.cell? ⟨r, 12, none⟩ = some (.int .u32 (f.code : Int)) ∧ w.cell? ⟨r, 13, none⟩ = some (lv) ∧ w.cell? ⟨r, 14, none⟩ = some (.int .i64 f.last) ∧ w.cell? ⟨r, 15, none⟩ = some (.int .i64 f.inc) := by
  obtain ⟨A, n, c, hl, hb, _⟩ := h
  exact ⟨blk_head hl hb (i := 0) rfl, blk_head hl hb (i := 1) rfl, blk_head hl hb (i := 2) rfl, blk_head hl hb (i := 3) rfl, blk_head hl hb (i := 4) rfl, blk_head hl hb (i := 5) rfl, blk_head hl hb (i := 6) rfl, blk_head hl hb (i := 7) rfl, blk_head hl hb (i := 8) rfl, blk_head hl hb (i := 9) rfl, blk_head hl hb (i := 10) rfl, blk_head hl hb (i := 11) rfl, blk_head hl hb (i := 12) rfl, blk_head hl hb (i := 13) rfl, blk_head hl hb (i := 14) rfl, blk_head hl hb (i := 15) rfl⟩
end Go.Proofs.YtokbdkbljgdcpaaDoor
