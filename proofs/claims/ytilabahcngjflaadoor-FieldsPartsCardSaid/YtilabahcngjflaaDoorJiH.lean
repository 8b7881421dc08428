/- Stage 10: what is seen is put in. -/
import Derived.Test.YtilabahcngjflaaDoorJiM
namespace Go.Proofs.YtilabahcngjflaaDoor
open Go.RowKit Go.Own Go.Tbl Go.Fie
set_option linter.unusedVariables false
set_option linter.unusedSimpArgs false
set_option maxRecDepth 100000
theorem MSn.open_ {w : World} {b n : Nat} {g : Sn} (h : MSn w b g n) : ∃ D : DataW Unit, (∀ w2, Below w.heap.size w w2 → w2.ownsMap Tryd.prog 9 fldElem b n D) ∧ ∀ k : ByteArray, Maps.has D (.string k.data.toList) = has g k ∧ ∀ f, g k = some f → ∀ z, D.atKey (.string k.data.toList) z = fData f := by
  have hlt := h.lt
  obtain ⟨D, ⟨es, clock, hb, r⟩, h2⟩ := h
  exact ⟨D, fun w2 hw => ⟨es, clock, (hw.block b hlt).trans hb, r⟩, h2⟩
/-- how a call ends that puts in, or gives up -/
def AddPost (w : World) (b n : Nat) (r : Option Sn) (e : Ending) (w' : World) : Prop :=
  Fr (· = b) w w' ∧ match r with
    | some g' => e = .returned (.tuple #[]) ∧ MSn w' b g' (n + 1)
    | none => e = .panicked [{ v := .iface 59 (.agg #[]), recovered := false }]
theorem cells3 {w : World} {g : Nat} {t : TypeId} {a b c : Value} (h : Blk w g t [a, b, c]) : w.cell? ⟨g, 0, none⟩ = some a ∧ w.cell? ⟨g, 1, none⟩ = some b ∧ w.cell? ⟨g, 2, none⟩ = some c :=
  ⟨h.cell 0, h.cell 1, h.cell 2⟩
theorem fr_of_below {w w' : World} (b : Nat) (h : Below w.heap.size w w') : Fr (· = b) w w' := Fr.of_below h (fun i h1 h2 => by omega)
section
variable {w : World} {b n : Nat} {g : Sn}
set_option maxHeartbeats 2000000 in
theorem addP_c (h : MSn w b g n) (hn : n < 9223372036854775807) {A : Option Addr} {m c : Nat} {ns : List ByteArray} (hr : Rd w 1 A m (ns.map Value.string)) (hm : m ≤ 9223372036854775807) (f : Fld) (hf : fok f) :
    Calls Tryd.prog 33 #[.map (some b), .agg #[.string f.n, .string f.v, .bool f.nv], .slice A m c] w fun e w' => AddPost w b n (addP ns g f) e w' := by
  obtain ⟨N, V, nv⟩ := f
  obtain ⟨hN, hV⟩ := hf
  simp only at hN hV
  have a1 : ∀ w2, Below w.heap.size w w2 → Calls Tryd.prog 36 #[.map (some b), .string N] w2 fun e w' => e = .returned (.bool (has g N)) ∧ Below w2.heap.size w2 w' := fun w2 hb => has_c (h.below hb) N hN
  obtain ⟨D, ho, h2⟩ := h.open_
  have hc : ∀ w2, Below w.heap.size w w2 → Calls Tryd.prog 42 #[.slice A m c, .string N] w2 fun e w' => e = .returned (.bool (mem ns N)) ∧ w' = w2 := fun w2 hb => contains_c (hr.below hb) hm N
  have hadd : addP ns g ⟨N, V, nv⟩ = bif mem ns N && !has g N then some (upd g N ⟨N, V, nv⟩) else none := rfl
  obtain ⟨b1, h1⟩ : ∃ x, mem ns N = x := ⟨_, rfl⟩
  obtain ⟨b2, h3⟩ : ∃ x, has g N = x := ⟨_, rfl⟩
  rw [h1] at hc
  rw [h3] at a1
  rw [h1, h3] at hadd
  rw [hadd]
  have HC := Lib.hid hc
  have A1 := Lib.hid a1
  have HO := Lib.hid ho
  have H2 := Lib.hid h2
  have hk := keyS hN
  have HK := Lib.hid hk
  have hX := Blk.new w 34 [.string N, .string V, .bool nv]
  have HX := Lib.hid hX
  have HB : Hid (Below w.heap.size w (w.alloc (.cells #[.string N, .string V, .bool nv] 34))) := (Below.refl _ _).alloc (Nat.le_refl _) _
  clear h hr a1 ho h2 hc hadd h1 h3 hk hX
  cases b1
  · go_enter Tryd.func33, Tryd.ntmps33
    go_wp2_with (first
      | (go_at_call 42; (with_reducible refine (HC.out _ HB.out).mono ?_); rintro e w4 ⟨rfl, hw⟩; subst hw)
      | (go_at_call 30; (with_reducible refine (must_no _).mono ?_); rintro e w4 ⟨rfl, hw⟩; subst hw))
    exact ⟨rfl, fr_of_below b HB.out, rfl⟩
  cases b2
  · go_enter Tryd.func33, Tryd.ntmps33
    go_wp2_with (first
      | (go_at_call 42; (with_reducible refine (HC.out _ HB.out).mono ?_); rintro e w4 ⟨rfl, hw⟩; subst hw)
      | (go_at_call 36; (with_reducible refine (A1.out _ HB.out).mono ?_); rintro e w5 ⟨rfl, hb⟩
         have hx := HX.out.below hb HX.out.lt
         have hb2 := HB.out.trans (hb.mono HB.out.size)
         obtain ⟨x0, x1, x2⟩ := cells3 hx
         clear HB HX
         have HB := Lib.hid hb2
         have HX := Lib.hid hx
         clear hb hb2 hx)
      | (go_at_call 30; (with_reducible refine (must_ok _).mono ?_); rintro e w4 ⟨rfl, hw⟩; subst hw)
      | (at_mapUpdate; refine wpList_mapUpdate_own _ rfl _ _ _ 49 rfl 9 34 lawS Tryd.underlying49 fldElem b n D rfl (HO.out _ HB.out) (by unfold maxLen; omega) _ _ _ rfl rfl HK.out (fData ⟨N, V, nv⟩) [] rfl ?_; intro w6 hown6 hgrow6))
    go_end0
    have hm6 := MSn.put (HO.out _ HB.out) H2.out N ⟨N, V, nv⟩ hown6
    exact ⟨(fr_of_below b HB.out).trans (Fr.of_grown (S := (· = b)) hgrow6 (fun i _ e => by simpa using e)) (fun _ _ h => h), rfl, hm6⟩
  · go_enter Tryd.func33, Tryd.ntmps33
    go_wp2_with (first
      | (go_at_call 42; (with_reducible refine (HC.out _ HB.out).mono ?_); rintro e w4 ⟨rfl, hw⟩; subst hw)
      | (go_at_call 36; (with_reducible refine (A1.out _ HB.out).mono ?_); rintro e w5 ⟨rfl, hb⟩; have hb2 := HB.out.trans (hb.mono HB.out.size); clear HB; have HB := Lib.hid hb2; clear hb hb2)
      | (go_at_call 30; (with_reducible refine (must_no _).mono ?_); rintro e w4 ⟨rfl, hw⟩; subst hw))
    exact ⟨rfl, fr_of_below b HB.out, rfl⟩
set_option maxHeartbeats 2000000 in
theorem addL_c (h : MSn w b g n) (hn : n < 9223372036854775807) (f : Fld) (hf : fok f) :
    Calls Tryd.prog 45 #[.map (some b), .agg #[.string f.n, .string f.v, .bool f.nv]] w fun e w' => AddPost w b n (addL g f) e w' := by
  obtain ⟨N, V, nv⟩ := f
  obtain ⟨hN, hV⟩ := hf
  simp only at hN hV
  have a1 : ∀ w2, Below w.heap.size w w2 → Calls Tryd.prog 36 #[.map (some b), .string nCL] w2 fun e w' => e = .returned (.bool (has g nCL)) ∧ Below w2.heap.size w2 w' := fun w2 hb => has_c (h.below hb) nCL (by decide)
  obtain ⟨D, ho, h2⟩ := h.open_
  obtain ⟨N0, V0, B0, e0⟩ := fld3 (fOf g nCL)
  have l1 := fun w2 (hb : Below w.heap.size w w2) => (h.below hb).look nCL (by decide) N0 V0 B0 e0
  have hc : ∀ w2, Calls Tryd.prog 50 #[.string V] w2 fun e w' => e = .returned (.bool (okL V)) ∧ w' = w2 := fun w2 => isL_c V hV w2
  have hv : val g nCL = V0 := by rw [← fOf_val, e0]
  have hadd : addL g ⟨N, V, nv⟩ = bif okL V && (!has g nCL || decide (V0 = V)) then some (upd g nCL ⟨N, V, nv⟩) else none := by unfold addL; rw [hv]
  have q1 := eqS V0 V
  obtain ⟨b1, h1⟩ : ∃ x, okL V = x := ⟨_, rfl⟩
  obtain ⟨b2, h3⟩ : ∃ x, has g nCL = x := ⟨_, rfl⟩
  obtain ⟨b3, h4⟩ : ∃ x, decide (V0 = V) = x := ⟨_, rfl⟩
  rw [h1] at hc
  rw [h3] at a1
  rw [h1, h3, h4] at hadd
  rw [hadd]
  replace q1 := q1.trans h4
  have hf1 := field1
  have HC := Lib.hid hc
  have A1 := Lib.hid a1
  have L1 := Lib.hid l1
  have HO := Lib.hid ho
  have H2 := Lib.hid h2
  have hk := keyS (k := nCL) (by decide)
  have HK := Lib.hid hk
  have hX := Blk.new w 34 [.string N, .string V, .bool nv]
  have HX := Lib.hid hX
  have HB : Hid (Below w.heap.size w (w.alloc (.cells #[.string N, .string V, .bool nv] 34))) := (Below.refl _ _).alloc (Nat.le_refl _) _
  clear h a1 l1 e0 hv ho h2 hc hadd h1 h3 h4 hk hX
  cases b1
  · go_enter Tryd.func45, Tryd.ntmps45
    go_wp2_with (first
      | (go_at_call 50; (with_reducible refine (HC.out _).mono ?_); rintro e w4 ⟨rfl, hw⟩; subst hw)
      | (go_at_call 30; (with_reducible refine (must_no _).mono ?_); rintro e w4 ⟨rfl, hw⟩; subst hw))
    exact ⟨rfl, fr_of_below b HB.out, rfl⟩
  cases b2
  · go_enter Tryd.func45, Tryd.ntmps45
    go_wp2_with (first
      | (go_at_call 50; (with_reducible refine (HC.out _).mono ?_); rintro e w4 ⟨rfl, hw⟩; subst hw)
      | (go_at_call 36; (with_reducible refine (A1.out _ HB.out).mono ?_); rintro e w5 ⟨rfl, hb⟩
         have hx := HX.out.below hb HX.out.lt
         have hb2 := HB.out.trans (hb.mono HB.out.size)
         obtain ⟨x0, x1, x2⟩ := cells3 hx
         clear HB HX
         have HB := Lib.hid hb2
         have HX := Lib.hid hx
         clear hb hb2 hx)
      | (go_at_call 30; (with_reducible refine (must_ok _).mono ?_); rintro e w4 ⟨rfl, hw⟩; subst hw)
      | (at_mapUpdate; refine wpList_mapUpdate_own _ rfl _ _ _ 49 rfl 9 34 lawS Tryd.underlying49 fldElem b n D rfl (HO.out _ HB.out) (by unfold maxLen; omega) _ _ _ rfl rfl HK.out (fData ⟨N, V, nv⟩) [] rfl ?_; intro w6 hown6 hgrow6))
    go_end0
    have hm6 := MSn.put (HO.out _ HB.out) H2.out nCL ⟨N, V, nv⟩ hown6
    exact ⟨(fr_of_below b HB.out).trans (Fr.of_grown (S := (· = b)) hgrow6 (fun i _ e => by simpa using e)) (fun _ _ h => h), rfl, hm6⟩
  cases b3
  · go_enter Tryd.func45, Tryd.ntmps45
    go_wp2_with (first
      | (go_at_call 50; (with_reducible refine (HC.out _).mono ?_); rintro e w4 ⟨rfl, hw⟩; subst hw)
      | (go_at_call 36; (with_reducible refine (A1.out _ HB.out).mono ?_); rintro e w5 ⟨rfl, hb⟩
         have hx := HX.out.below hb HX.out.lt
         have hb2 := HB.out.trans (hb.mono HB.out.size)
         have hl := L1.out _ hb2
         obtain ⟨x0, x1, x2⟩ := cells3 hx
         clear HB HX
         have HB := Lib.hid hb2
         have HX := Lib.hid hx
         clear hb hb2 hx)
      | (go_at_call 30; (with_reducible refine (must_ok _).mono ?_); rintro e w4 ⟨rfl, hw⟩; subst hw)
      | (go_at_call 30; (with_reducible refine (must_no _).mono ?_); rintro e w4 ⟨rfl, hw⟩; subst hw))
    exact ⟨rfl, fr_of_below b HB.out, rfl⟩
  · go_enter Tryd.func45, Tryd.ntmps45
    go_wp2_with (first
      | (go_at_call 50; (with_reducible refine (HC.out _).mono ?_); rintro e w4 ⟨rfl, hw⟩; subst hw)
      | (go_at_call 36; (with_reducible refine (A1.out _ HB.out).mono ?_); rintro e w5 ⟨rfl, hb⟩
         have hx := HX.out.below hb HX.out.lt
         have hb2 := HB.out.trans (hb.mono HB.out.size)
         have hl := L1.out _ hb2
         obtain ⟨x0, x1, x2⟩ := cells3 hx
         clear HB HX
         have HB := Lib.hid hb2
         have HX := Lib.hid hx
         clear hb hb2 hx)
      | (go_at_call 30; (with_reducible refine (must_ok _).mono ?_); rintro e w4 ⟨rfl, hw⟩; subst hw)
      | (at_mapUpdate; refine wpList_mapUpdate_own _ rfl _ _ _ 49 rfl 9 34 lawS Tryd.underlying49 fldElem b n D rfl (HO.out _ HB.out) (by unfold maxLen; omega) _ _ _ rfl rfl HK.out (fData ⟨N, V, nv⟩) [] rfl ?_; intro w6 hown6 hgrow6))
    go_end0
    have hm6 := MSn.put (HO.out _ HB.out) H2.out nCL ⟨N, V, nv⟩ hown6
    exact ⟨(fr_of_below b HB.out).trans (Fr.of_grown (S := (· = b)) hgrow6 (fun i _ e => by simpa using e)) (fun _ _ h => h), rfl, hm6⟩
theorem AddPost.up {w w2 : World} {b n : Nat} {r : Option Sn} {e : Ending} {w' : World} (h : AddPost w2 b n r e w') (hb : Below w.heap.size w w2) : AddPost w b n r e w' :=
  ⟨(fr_of_below b hb).trans h.1 (fun _ _ h => h), h.2⟩
theorem MSn.more (h : MSn w b g n) : MSn w b g (n + 1) := by
  obtain ⟨D, h1, h2⟩ := h
  exact ⟨D, h1.mono (by omega), h2⟩
set_option maxHeartbeats 2000000 in
theorem addO_c (h : MSn w b g n) (hn : n < 9223372036854775807) (f : Fld) (hf : fok f) :
    Calls Tryd.prog 34 #[.map (some b), .agg #[.string f.n, .string f.v, .bool f.nv]] w fun e w' => AddPost w b n (addO g f) e w' := by
  obtain ⟨N, V, nv⟩ := f
  have hN := hf.1
  simp only at hN
  have hc1 : ∀ w2, Calls Tryd.prog 43 #[.string N] w2 fun e w' => e = .returned (.bool (okN N)) ∧ w' = w2 := fun w2 => isN_c N hN w2
  have hc2 : ∀ w2, Calls Tryd.prog 44 #[.agg #[.string N, .string V, .bool nv]] w2 fun e w' => e = .returned (.bool (conn ⟨N, V, nv⟩)) ∧ Below w2.heap.size w2 w' := fun w2 => conn_c ⟨N, V, nv⟩ w2
  have hm : ∀ w2, Below w.heap.size w w2 → MSn w2 b g n := fun w2 hb => h.below hb
  have hl : ∀ w2, Below w.heap.size w w2 → Calls Tryd.prog 45 #[.map (some b), .agg #[.string N, .string V, .bool nv]] w2 fun e w' => AddPost w b n (addL g ⟨N, V, nv⟩) e w' := fun w2 hb => (addL_c (h.below hb) hn ⟨N, V, nv⟩ hf).mono fun e w' hp => hp.up hb
  have hadd : addO g ⟨N, V, nv⟩ = bif okN N && !conn ⟨N, V, nv⟩ then (bif decide (N = nCL) then addL g ⟨N, V, nv⟩ else some g) else none := rfl
  have q1 := eqL N [99, 111, 110, 116, 101, 110, 116, 45, 108, 101, 110, 103, 116, 104]
  obtain ⟨b1, h1⟩ : ∃ x, okN N = x := ⟨_, rfl⟩
  obtain ⟨b2, h3⟩ : ∃ x, conn ⟨N, V, nv⟩ = x := ⟨_, rfl⟩
  obtain ⟨b3, h4⟩ : ∃ x, decide (N = nCL) = x := ⟨_, rfl⟩
  rw [h1] at hc1
  rw [h3] at hc2
  rw [h1, h3, h4] at hadd
  rw [hadd]
  replace q1 := q1.trans h4
  have HC1 := Lib.hid hc1
  have HC2 := Lib.hid hc2
  have HM := Lib.hid hm
  have HX := Lib.hid (Blk.new w 34 [.string N, .string V, .bool nv])
  have HB : Hid (Below w.heap.size w (w.alloc (.cells #[.string N, .string V, .bool nv] 34))) := (Below.refl _ _).alloc (Nat.le_refl _) _
  cases b1
  · clear h hc1 hc2 hm hadd h1 h3 h4 hl hf
    go_enter Tryd.func34, Tryd.ntmps34
    go_wp2_with (first
      | (go_at_call 43; (with_reducible refine (HC1.out _).mono ?_); rintro e w4 ⟨rfl, hw⟩; subst hw)
      | (go_at_call 30; (with_reducible refine (must_no _).mono ?_); rintro e w4 ⟨rfl, hw⟩; subst hw))
    exact ⟨rfl, fr_of_below b HB.out, rfl⟩
  cases b2
  · obtain ⟨r, hr⟩ : ∃ r, addL g ⟨N, V, nv⟩ = r := ⟨_, rfl⟩
    rw [hr] at hl
    have hgo : (bif b3 then addL g ⟨N, V, nv⟩ else some g) = (bif b3 then r else some g) := by rw [hr]
    simp only [Bool.not_false, Bool.and_self, cond_true]
    rw [hgo]
    have HL := Lib.hid hl
    clear h hc1 hc2 hm hadd h1 h3 h4 hl hf hr hgo
    cases b3
    · go_enter Tryd.func34, Tryd.ntmps34
      go_wp2_with (first
        | (go_at_call 43; (with_reducible refine (HC1.out _).mono ?_); rintro e w4 ⟨rfl, hw⟩; subst hw)
        | (go_at_call 44; (with_reducible refine (HC2.out _).mono ?_); rintro e w5 ⟨rfl, hb⟩
           have hx := HX.out.below hb HX.out.lt
           have hb2 := HB.out.trans (hb.mono HB.out.size)
           obtain ⟨x0, x1, x2⟩ := cells3 hx
           clear HB HX
           have HB := Lib.hid hb2
           have HX := Lib.hid hx
           clear hb hb2 hx)
        | (go_at_call 30; (with_reducible refine (must_ok _).mono ?_); rintro e w4 ⟨rfl, hw⟩; subst hw))
      go_end0
      exact ⟨fr_of_below b HB.out, rfl, (HM.out _ HB.out).more⟩
    · cases r with
      | none =>
        go_enter Tryd.func34, Tryd.ntmps34
        go_wp2_with (first
          | (go_at_call 43; (with_reducible refine (HC1.out _).mono ?_); rintro e w4 ⟨rfl, hw⟩; subst hw)
          | (go_at_call 44; (with_reducible refine (HC2.out _).mono ?_); rintro e w5 ⟨rfl, hb⟩
             have hx := HX.out.below hb HX.out.lt
             have hb2 := HB.out.trans (hb.mono HB.out.size)
             obtain ⟨x0, x1, x2⟩ := cells3 hx
             clear HB HX
             have HB := Lib.hid hb2
             have HX := Lib.hid hx
             clear hb hb2 hx)
          | (go_at_call 30; (with_reducible refine (must_ok _).mono ?_); rintro e w4 ⟨rfl, hw⟩; subst hw)
          | (go_at_call 45; (with_reducible refine (HL.out _ HB.out).mono ?_); rintro e w7 ⟨hf7, rfl⟩; have HF := Lib.hid hf7; clear hf7))
        exact ⟨rfl, HF.out, rfl⟩
      | some g1 =>
        go_enter Tryd.func34, Tryd.ntmps34
        go_wp2_with (first
          | (go_at_call 43; (with_reducible refine (HC1.out _).mono ?_); rintro e w4 ⟨rfl, hw⟩; subst hw)
          | (go_at_call 44; (with_reducible refine (HC2.out _).mono ?_); rintro e w5 ⟨rfl, hb⟩
             have hx := HX.out.below hb HX.out.lt
             have hb2 := HB.out.trans (hb.mono HB.out.size)
             obtain ⟨x0, x1, x2⟩ := cells3 hx
             clear HB HX
             have HB := Lib.hid hb2
             have HX := Lib.hid hx
             clear hb hb2 hx)
          | (go_at_call 30; (with_reducible refine (must_ok _).mono ?_); rintro e w4 ⟨rfl, hw⟩; subst hw)
          | (go_at_call 45; (with_reducible refine (HL.out _ HB.out).mono ?_); rintro e w7 ⟨hf7, rfl, hm7⟩; have HF := Lib.hid hf7; have HM7 := Lib.hid hm7; clear hf7 hm7))
        go_end0
        exact ⟨HF.out, rfl, HM7.out⟩
  · clear h hc1 hc2 hm hadd h1 h3 h4 hl hf
    go_enter Tryd.func34, Tryd.ntmps34
    go_wp2_with (first
      | (go_at_call 43; (with_reducible refine (HC1.out _).mono ?_); rintro e w4 ⟨rfl, hw⟩; subst hw)
      | (go_at_call 44; (with_reducible refine (HC2.out _).mono ?_); rintro e w5 ⟨rfl, hb⟩; have hb2 := HB.out.trans (hb.mono HB.out.size); clear HB; have HB := Lib.hid hb2; clear hb hb2)
      | (go_at_call 30; (with_reducible refine (must_no _).mono ?_); rintro e w4 ⟨rfl, hw⟩; subst hw))
    exact ⟨rfl, fr_of_below b HB.out, rfl⟩
end
end Go.Proofs.YtilabahcngjflaaDoor
