/- Stage 10: lookF: the fields of a message are gone through. -/
import Derived.Test.YtilabahcngjflaaDoorJiH
import Derived.Deep.LoopGhost
namespace Go.Proofs.YtilabahcngjflaaDoor
open Go.RowKit Go.Own Go.Tbl Go.Fie
set_option linter.unusedVariables false
set_option linter.unusedSimpArgs false
set_option maxRecDepth 100000
/-- how lookF ends -/
def LookPost (w : World) (r : Option Sn) (e : Ending) (w' : World) : Prop :=
  Below w.heap.size w w' ∧ match r with
    | some g => ∃ b k, e = .returned (.map (some b)) ∧ MSn w' b g k
    | none => e = .panicked [{ v := .iface 59 (.agg #[]), recovered := false }]
theorem look_cons (ns : List ByteArray) (a : Bool) (g : Sn) (f : Fld) (r : List Fld) : lookF ns a g (f :: r) = (step1 ns a g f).bind fun g' => lookF ns (a && psd f) g' r := by
  rw [lookF]
  cases step1 ns a g f <;> rfl
theorem below_fr {w0 w w' : World} {b : Nat} (h : Below w0.heap.size w0 w) (hf : Fr (· = b) w w') (hb : w0.heap.size ≤ b) : Below w0.heap.size w0 w' :=
  h.trans (hf.below h.size (fun i _ e => by omega))
set_option maxHeartbeats 4000000 in
theorem look_c {w : World} {A : Option Addr} {n c : Nat} {l : List Fld} (hr : Rd w 3 A n (fcellsL l)) (hok : ∀ f ∈ l, fok f) (hn : n ≤ 9223372036854775807)
    {An : Option Addr} {m cn : Nat} {ns : List ByteArray} (hrn : Rd w 1 An m (ns.map Value.string)) (hm : m ≤ 9223372036854775807) :
    Calls Tryd.prog 23 #[.slice A n c, .slice An m cn] w fun e w' => LookPost w (lookF ns true none0 l) e w' := by
  have hl : l.length = n := by have := hr.1; rw [fcellsL_length] at this; omega
  obtain ⟨R, hR⟩ : ∃ R, lookF ns true none0 l = R := ⟨_, rfl⟩
  rw [hR]
  have HR := Lib.hid hR
  have Hr := Lib.hid hr
  have Hrn := Lib.hid hrn
  have Hok := Lib.hid hok
  have Hl := Lib.hid hl
  have hmm := @run_makeMap Tryd.prog
  clear hR hr hrn hok hl
  go_enter Tryd.func23, Tryd.ntmps23
  go_wp2_with (fail)
  go_loopg [6, 12] n (fun gh a i w' => ∃ (k : Nat) (a' : Bool) (g : Sn), gh + k = n ∧ a = .bool a' ∧ i = .int .i64 (k : Int) ∧ MSn w' w.heap.size g k ∧ Below w.heap.size w w' ∧ Hid (lookF ns a' g (l.drop k) = R))
  case atStart =>
    exact ⟨0, true, none0, by omega, rfl, rfl, MSn.made w, (Below.refl _ _).alloc (Nat.le_refl _) _, HR.out⟩
  case round =>
    obtain ⟨k, a', g, hk, rfl, rfl, hms, hbw, hrest⟩ := hrel
    have Hms := Lib.hid hms
    have Hbw := Lib.hid hbw
    clear hms hbw
    cases gk with
    | zero =>
      obtain rfl : k = n := by omega
      have h1 := hrest.out
      rw [List.drop_of_length_le (by rw [Hl.out]; exact Nat.le_refl _), lookF] at h1
      have H1 := Lib.hid h1
      clear h1
      go_wp2_with (fail)
      go_ret
      refine ⟨Hbw.out, ?_⟩
      rw [← H1.out]
      exact ⟨_, _, rfl, Hms.out⟩
    | succ g1 =>
      have hlt : k < n := by omega
      have k1 : (k : Int) < (n : Int) := by omega
      have hkl : k < l.length := by rw [Hl.out]; exact hlt
      obtain ⟨f, hf⟩ : ∃ f, l[k]? = some f := ⟨_, List.getElem?_eq_getElem hkl⟩
      have hfo := Hok.out f (List.mem_of_getElem? hf)
      obtain ⟨b0, o0, rfl, d0, d1, d2⟩ := rd_fld (Hr.out.below Hbw.out) hf
      have hdrop : l.drop k = f :: l.drop (k + 1) := by
        rw [List.drop_eq_getElem_cons hkl]
        rw [List.getElem?_eq_getElem hkl] at hf
        rw [Option.some.inj hf]
      have h1 := hrest.out
      rw [hdrop, look_cons] at h1
      have hkm : k < 9223372036854775807 := by omega
      have hV : ∀ w2, Calls Tryd.prog 31 #[.string f.v] w2 fun e w' => e = .returned (.bool (okV f.v)) ∧ w' = w2 := fun w2 => isV_c f.v hfo.2 w2
      have hP : ∀ w2, Calls Tryd.prog 32 #[.agg #[.string f.n, .string f.v, .bool f.nv]] w2 fun e w' => e = .returned (.bool (psd f)) ∧ Below w2.heap.size w2 w' := fun w2 => isP_c f w2
      have hAO : ∀ w2, Below wr.heap.size wr w2 → Calls Tryd.prog 34 #[.map (some w.heap.size), .agg #[.string f.n, .string f.v, .bool f.nv]] w2 fun e w' => AddPost wr w.heap.size k (addO g f) e w' := fun w2 hb => (addO_c (Hms.out.below hb) hkm f hfo).mono fun e w' hp => hp.up hb
      have hAP : ∀ w2, Below wr.heap.size wr w2 → Calls Tryd.prog 33 #[.map (some w.heap.size), .agg #[.string f.n, .string f.v, .bool f.nv], .slice An m cn] w2 fun e w' => AddPost wr w.heap.size k (addP ns g f) e w' := fun w2 hb =>
        (addP_c (Hms.out.below hb) hkm ((Hrn.out.below Hbw.out).below hb) hm f hfo).mono fun e w' hp => hp.up hb
      have hst : step1 ns a' g f = bif okV f.v then (bif a' && psd f then addP ns g f else addO g f) else none := rfl
      rw [hst] at h1
      obtain ⟨N, V, nv⟩ := f
      simp only at d0 d1 d2 hV hP hAO hAP h1
      obtain ⟨vb, hvb⟩ : ∃ x, okV V = x := ⟨_, rfl⟩
      obtain ⟨pb, hpb⟩ : ∃ x, psd ⟨N, V, nv⟩ = x := ⟨_, rfl⟩
      rw [hvb] at hV h1
      rw [hpb] at hP h1
      have HV := Lib.hid hV
      have HP := Lib.hid hP
      have HX := Lib.hid (Blk.new wr 34 [.string N, .string V, .bool nv])
      have HB : Hid (Below wr.heap.size wr (wr.alloc (.cells #[.string N, .string V, .bool nv] 34))) := (Below.refl _ _).alloc (Nat.le_refl _) _
      clear hV hP hdrop hst hf hfo hvb hpb hrest hkl
      cases vb
      · have H1 := Lib.hid h1
        clear h1 hAO hAP
        go_wp2_with (first
          | (go_at_call 31; (with_reducible refine (HV.out _).mono ?_); rintro e w4 ⟨rfl, hw⟩; subst hw)
          | (go_at_call 30; (with_reducible refine (must_no _).mono ?_); rintro e w4 ⟨rfl, hw⟩; subst hw))
        -- NOT A VALUE
        refine ⟨rfl, Hbw.out.trans (HB.out.mono Hbw.out.size), ?_⟩
        rw [← (show none = R from H1.out)]
      have hnm : (fun i => i = w.heap.size) = (fun i => i = w.heap.size) := rfl
      clear hnm
      cases a'
      · simp only [cond_true, Bool.false_and, cond_false] at h1
        obtain ⟨r, hr⟩ : ∃ r, addO g ⟨N, V, nv⟩ = r := ⟨_, rfl⟩
        rw [hr] at hAO
        have h2 : (r.bind fun g' => lookF ns false g' (l.drop (k + 1))) = R := by rw [← hr]; exact h1
        have HAO := Lib.hid hAO
        have H2 := Lib.hid h2
        clear h1 h2 hr hAO hAP
        cases r with
        | none =>
          go_wp2_with (first
            | (go_at_call 31; (with_reducible refine (HV.out _).mono ?_); rintro e w4 ⟨rfl, hw⟩; subst hw)
            | (go_at_call 30; (with_reducible refine (must_ok _).mono ?_); rintro e w4 ⟨rfl, hw⟩; subst hw)
            | (go_at_call 34; (with_reducible refine (HAO.out _ HB.out).mono ?_); rintro e w7 ⟨hf7, rfl⟩; have HF := Lib.hid (below_fr Hbw.out hf7 (Nat.le_refl _)); clear hf7))
          refine ⟨rfl, HF.out, ?_⟩
          rw [← (show none = R from H2.out)]
        | some gn =>
          go_wp2_with (first
            | (go_at_call 31; (with_reducible refine (HV.out _).mono ?_); rintro e w4 ⟨rfl, hw⟩; subst hw)
            | (go_at_call 30; (with_reducible refine (must_ok _).mono ?_); rintro e w4 ⟨rfl, hw⟩; subst hw)
            | (go_at_call 34; (with_reducible refine (HAO.out _ HB.out).mono ?_); rintro e w7 ⟨hf7, rfl, hm7⟩; have HF := Lib.hid (below_fr Hbw.out hf7 (Nat.le_refl _)); have HM7 := Lib.hid hm7; clear hf7 hm7))
          go_roundg g1
          case measure => omega
          case rel => exact ⟨k + 1, false, gn, by omega, rfl, by go_num, HM7.out, HF.out, H2.out⟩
      cases pb
      · simp only [cond_true, Bool.true_and, cond_false] at h1
        obtain ⟨r, hr⟩ : ∃ r, addO g ⟨N, V, nv⟩ = r := ⟨_, rfl⟩
        rw [hr] at hAO
        have h2 : (r.bind fun g' => lookF ns false g' (l.drop (k + 1))) = R := by rw [← hr]; exact h1
        have HAO := Lib.hid hAO
        have H2 := Lib.hid h2
        clear h1 h2 hr hAO hAP
        cases r with
        | none =>
          go_wp2_with (first
            | (go_at_call 31; (with_reducible refine (HV.out _).mono ?_); rintro e w4 ⟨rfl, hw⟩; subst hw)
            | (go_at_call 30; (with_reducible refine (must_ok _).mono ?_); rintro e w4 ⟨rfl, hw⟩; subst hw)
            | (go_at_call 32; (with_reducible refine (HP.out _).mono ?_); rintro e w5 ⟨rfl, hb⟩
               have hx := HX.out.below hb HX.out.lt
               have hb2 := HB.out.trans (hb.mono HB.out.size)
               obtain ⟨x0, x1, x2⟩ := cells3 hx
               clear HB HX
               have HB := Lib.hid hb2
               have HX := Lib.hid hx
               clear hb hb2 hx)
            | (go_at_call 34; (with_reducible refine (HAO.out _ HB.out).mono ?_); rintro e w7 ⟨hf7, rfl⟩; have HF := Lib.hid (below_fr Hbw.out hf7 (Nat.le_refl _)); clear hf7))
          refine ⟨rfl, HF.out, ?_⟩
          rw [← (show none = R from H2.out)]
        | some gn =>
          go_wp2_with (first
            | (go_at_call 31; (with_reducible refine (HV.out _).mono ?_); rintro e w4 ⟨rfl, hw⟩; subst hw)
            | (go_at_call 30; (with_reducible refine (must_ok _).mono ?_); rintro e w4 ⟨rfl, hw⟩; subst hw)
            | (go_at_call 32; (with_reducible refine (HP.out _).mono ?_); rintro e w5 ⟨rfl, hb⟩
               have hx := HX.out.below hb HX.out.lt
               have hb2 := HB.out.trans (hb.mono HB.out.size)
               obtain ⟨x0, x1, x2⟩ := cells3 hx
               clear HB HX
               have HB := Lib.hid hb2
               have HX := Lib.hid hx
               clear hb hb2 hx)
            | (go_at_call 34; (with_reducible refine (HAO.out _ HB.out).mono ?_); rintro e w7 ⟨hf7, rfl, hm7⟩; have HF := Lib.hid (below_fr Hbw.out hf7 (Nat.le_refl _)); have HM7 := Lib.hid hm7; clear hf7 hm7))
          go_roundg g1
          case measure => omega
          case rel => exact ⟨k + 1, false, gn, by omega, rfl, by go_num, HM7.out, HF.out, H2.out⟩
      · simp only [cond_true, Bool.true_and, cond_false] at h1
        obtain ⟨r, hr⟩ : ∃ r, addP ns g ⟨N, V, nv⟩ = r := ⟨_, rfl⟩
        rw [hr] at hAP
        have h2 : (r.bind fun g' => lookF ns true g' (l.drop (k + 1))) = R := by rw [← hr]; exact h1
        have HAP := Lib.hid hAP
        have H2 := Lib.hid h2
        clear h1 h2 hr hAP hAO
        cases r with
        | none =>
          go_wp2_with (first
            | (go_at_call 31; (with_reducible refine (HV.out _).mono ?_); rintro e w4 ⟨rfl, hw⟩; subst hw)
            | (go_at_call 30; (with_reducible refine (must_ok _).mono ?_); rintro e w4 ⟨rfl, hw⟩; subst hw)
            | (go_at_call 32; (with_reducible refine (HP.out _).mono ?_); rintro e w5 ⟨rfl, hb⟩
               have hx := HX.out.below hb HX.out.lt
               have hb2 := HB.out.trans (hb.mono HB.out.size)
               obtain ⟨x0, x1, x2⟩ := cells3 hx
               clear HB HX
               have HB := Lib.hid hb2
               have HX := Lib.hid hx
               clear hb hb2 hx)
            | (go_at_call 33; (with_reducible refine (HAP.out _ HB.out).mono ?_); rintro e w7 ⟨hf7, rfl⟩; have HF := Lib.hid (below_fr Hbw.out hf7 (Nat.le_refl _)); clear hf7))
          refine ⟨rfl, HF.out, ?_⟩
          rw [← (show none = R from H2.out)]
        | some gn =>
          go_wp2_with (first
            | (go_at_call 31; (with_reducible refine (HV.out _).mono ?_); rintro e w4 ⟨rfl, hw⟩; subst hw)
            | (go_at_call 30; (with_reducible refine (must_ok _).mono ?_); rintro e w4 ⟨rfl, hw⟩; subst hw)
            | (go_at_call 32; (with_reducible refine (HP.out _).mono ?_); rintro e w5 ⟨rfl, hb⟩
               have hx := HX.out.below hb HX.out.lt
               have hb2 := HB.out.trans (hb.mono HB.out.size)
               obtain ⟨x0, x1, x2⟩ := cells3 hx
               clear HB HX
               have HB := Lib.hid hb2
               have HX := Lib.hid hx
               clear hb hb2 hx)
            | (go_at_call 33; (with_reducible refine (HAP.out _ HB.out).mono ?_); rintro e w7 ⟨hf7, rfl, hm7⟩; have HF := Lib.hid (below_fr Hbw.out hf7 (Nat.le_refl _)); have HM7 := Lib.hid hm7; clear hf7 hm7))
          go_roundg g1
          case measure => omega
          case rel => exact ⟨k + 1, true, gn, by omega, rfl, by go_num, HM7.out, HF.out, H2.out⟩
end Go.Proofs.YtilabahcngjflaaDoor
