/- The document's Write: its contract. -/
import Derived.Test.YtokbdkbljgdcpaaDoorYWC
import Derived.Test.YtokbdkbljgdcpaaDoorYWB
import Derived.Test.YtokbdkbljgdcpaaDoorY12
import Derived.Test.YtokbdkbljgdcpaaDoorY1
import Derived.Deep.RegionHeld
import Derived.Deep.DeepCutAuto
namespace Go.Proofs.YtokbdkbljgdcpaaDoor
open Go.RowKit Go.Own Go.Frm
set_option linter.unusedVariables false
set_option maxRecDepth 100000
/-- the frame's box, and nothing else has changed -/
def At (w wx : World) (C : List Value) : Prop := Blk wx w.heap.size 27 C ∧ Below w.heap.size w wx
theorem At.next {w wx wy : World} {C : List Value} (h : At w wx C) (hb : Below wx.heap.size wx wy) : At w wy C := ⟨blk_below h.1 hb, h.2.trans (hb.mono h.2.size)⟩
theorem At.drew {w wx : World} {C : List Value} (h : At w wx C) : At w wx.drew C := ⟨h.1.drew, below_drewN h.2 1⟩
theorem At.b {w wx : World} {C : List Value} (h : At w wx C) : Below w.heap.size w wx := h.2
theorem At.blk {w wx : World} {C : List Value} (h : At w wx C) : Blk wx w.heap.size 27 C := h.1
theorem num_w (v n : Nat) (z y : Int) (hz : z = (v : Int)) (hy : y = (n : Int)) (hv : v < 18446744073709551616) (hn : n ≤ 8) (xs : List UInt8) (hxs : be v n = xs) (w : World) :
    Calls Tryd.prog 36 #[.int .u64 z, .int .i64 y] w fun e w' => e = .returned (.string ⟨xs.toArray⟩) ∧ Below w.heap.size w w' := by
  subst hz hy hxs
  exact number_r v n hv hn w
theorem app_ba (xs ys : List UInt8) : ({ data := xs.toArray } : ByteArray) ++ { data := ys.toArray } = ⟨(xs ++ ys).toArray⟩ := by
  apply ByteArray.ext
  simp
theorem ret_str {a b : ByteArray} (h : a = b) : Value.string a = .string b := by rw [h]
theorem u64_in {z : Int} (h : 0 ≤ z ∧ z ≤ 18446744073709551615) : IntKind.u64.wrap z = z := by rw [IntKind.wrap_u64]; omega
theorem i64_in {z : Int} (h : -9223372036854775808 ≤ z ∧ z ≤ 9223372036854775807) : IntKind.i64.wrap z = z := by rw [IntKind.wrap_i64]; omega
set_option maxHeartbeats 16000000 in
theorem rwrite_ok (f : Fm) (k : Nat) (hk : f.kind = (k : Int)) (hk2 : k < 256) (hc : okF f) (hmay : mayB f = true) (hbd : (body f).length ≤ 16777215) (A B : Option Addr) (n c m d : Nat) {w : World}
    (hp : Rd w 1 A n (f.pay.map BV)) (hn : n ≤ 3000) (hnc : n ≤ c) (hrd : Rd w 2 B m (scells f.list)) (hm : m ≤ 500) :
    Calls Tryd.prog 15 #[frV f (.slice A n c) (.slice B m d)] w fun e w' => e = .returned (.tuple #[.string ⟨(wr f).toArray⟩, .int .i64 0]) ∧ Below w.heap.size w w' := by
  have hpl : f.pay.length = n := by simpa using hp.1
  have hll := rd_set_len hrd
  have hcma := fun W (hr : Rd W 2 B m (scells f.list)) => may_c f A B n c m d (w := W) hpl hll hr (by omega) (by omega) _ hmay
  have P := (may_iff f).1 hmay
  have hfl := fun W => flags_r f P.f0 P.f1 (.slice A n c) (.slice B m d) W
  have hbody : ((((((padA f ++ prioB f) ++ lastB f) ++ codeB f) ++ incB f) ++ listB f.list) ++ f.pay) ++ padZ f = body f := by unfold body mustB; simp only [List.append_assoc]
  obtain ⟨PA, hPA⟩ : ∃ l, padA f = l := ⟨_, rfl⟩
  obtain ⟨PP, hPP⟩ : ∃ l, prioB f = l := ⟨_, rfl⟩
  obtain ⟨PL, hPL⟩ : ∃ l, lastB f = l := ⟨_, rfl⟩
  obtain ⟨PC, hPC⟩ : ∃ l, codeB f = l := ⟨_, rfl⟩
  obtain ⟨PI, hPI⟩ : ∃ l, incB f = l := ⟨_, rfl⟩
  obtain ⟨PZ, hPZ⟩ : ∃ l, padZ f = l := ⟨_, rfl⟩
  rw [hPA, hPP, hPL, hPC, hPI, hPZ] at hbody
  have hkk : f.k = k := by unfold Fm.k; rw [hk]; rfl
  have hwr : wr f = headB (body f).length k (flagsN f) f.stream.toNat ++ body f := by rw [← hkk]; rfl
  -- what each part is
  have gA : (0 < f.pad ∧ ∃ q : Nat, q ≤ 255 ∧ f.pad - 1 = (q : Int) ∧ be q 1 = PA ∧ List.replicate q 0 = PZ) ∨ (¬ 0 < f.pad ∧ PA = [] ∧ PZ = []) := by
    unfold padA at hPA
    unfold padZ at hPZ
    have := P.p1
    by_cases h : 0 < f.pad
    · rw [decide_eq_true h] at hPA hPZ
      exact .inl ⟨h, (f.pad - 1).toNat, by omega, by omega, hPA, hPZ⟩
    · rw [decide_eq_false h] at hPA hPZ
      exact .inr ⟨h, hPA.symm, hPZ.symm⟩
  have gP : ((f.prio = true ∨ (f.prio = false ∧ k = 2)) ∧ ∃ (q e t : Nat) (L1 L2 : List UInt8), f.depend = (q : Int) ∧ q ≤ 2147483647 ∧ e = q + (bif f.excl then 2147483648 else 0) ∧ f.weight - 1 = (t : Int) ∧ t ≤ 255 ∧ be e 4 = L1 ∧ be t 1 = L2 ∧ PP = L1 ++ L2) ∨ (f.prio = false ∧ ¬ k = 2 ∧ PP = []) := by
    unfold prioB at hPP
    rw [hkk] at hPP
    by_cases h : (f.prio || hW k) = true
    · rw [h] at hPP
      have hw : f.weighed = true := by
        unfold Fm.weighed
        rw [hkk]
        rw [Bool.or_eq_true] at h
        rcases h with h | h
        · have := P.r h; rw [hkk] at this; rw [this, h]; simp
        · rw [h]; rfl
      rcases P.wb with q | ⟨q1, q2, q3, q4⟩
      · rw [q] at hw; cases hw
      · refine .inl ⟨?_, f.depend.toNat, depN f, (f.weight - 1).toNat, _, _, by omega, by omega, rfl, by omega, by omega, rfl, rfl, hPP.symm⟩
        cases hp : f.prio with
        | true => exact .inl rfl
        | false => rw [hp] at h; simp [hW] at h; exact .inr ⟨rfl, h⟩
    · rw [Bool.not_eq_true] at h
      rw [h] at hPP
      rw [Bool.or_eq_false_iff] at h
      exact .inr ⟨h.1, by have := h.2; simpa [hW] using this, hPP.symm⟩
  have gL : ((k = 5 ∨ (¬ k = 5 ∧ k = 7)) ∧ ∃ q : Nat, f.last = (q : Int) ∧ q ≤ 2147483647 ∧ be q 4 = PL) ∨ (¬ k = 5 ∧ ¬ k = 7 ∧ PL = []) := by
    unfold lastB at hPL
    rw [hkk] at hPL
    have h0 := P.l0
    have h1 := P.l1
    by_cases h : k = 5 ∨ k = 7
    · have e : hT k = true := by rcases h with rfl | rfl <;> rfl
      rw [e] at hPL
      exact .inl ⟨by omega, f.last.toNat, by omega, by omega, hPL⟩
    · have e : hT k = false := by simp [hT]; omega
      rw [e] at hPL
      exact .inr ⟨by omega, by omega, hPL.symm⟩
  have gC : ((k = 3 ∨ (¬ k = 3 ∧ k = 7)) ∧ be f.code 4 = PC) ∨ (¬ k = 3 ∧ ¬ k = 7 ∧ PC = []) := by
    unfold codeB at hPC
    rw [hkk] at hPC
    by_cases h : k = 3 ∨ k = 7
    · have e : hC k = true := by rcases h with rfl | rfl <;> rfl
      rw [e] at hPC
      exact .inl ⟨by omega, hPC⟩
    · have e : hC k = false := by simp [hC]; omega
      rw [e] at hPC
      exact .inr ⟨by omega, by omega, hPC.symm⟩
  have gI : (k = 8 ∧ ∃ q : Nat, f.inc = (q : Int) ∧ q ≤ 2147483647 ∧ be q 4 = PI) ∨ (¬ k = 8 ∧ PI = []) := by
    unfold incB at hPI
    rw [hkk] at hPI
    by_cases h : k = 8
    · have e : hI k = true := by rw [h]; rfl
      rw [e] at hPI
      rcases P.k8 with q | q
      · rw [hkk] at q; exact absurd h q
      · exact .inl ⟨h, f.inc.toNat, by omega, by omega, hPI⟩
    · have e : hI k = false := by simp [hI]; exact h
      rw [e] at hPI
      exact .inr ⟨h, hPI.symm⟩
  have hids := P.ids
  have hs0 := P.s0
  have hs1 := P.s1
  have hcode := hc.1
  have hvals := hc.2
  have hfn : flagsN f < 256 := by
    have := P.f0
    have := P.f1
    exact (bits_of f P).lt
  obtain ⟨fl, hflN⟩ : ∃ fl, flagsN f = fl := ⟨_, rfl⟩
  rw [hflN] at hwr hfl hfn
  obtain ⟨BO, hBO⟩ : ∃ l, body f = l := ⟨_, rfl⟩
  rw [hBO] at hwr hbd hbody
  obtain ⟨WR, hWR⟩ : ∃ l, wr f = l := ⟨_, rfl⟩
  rw [hWR] at hwr ⊢
  clear hmay P hPA hPP hPL hPC hPI hPZ hkk hflN hBO hWR hc
  obtain ⟨kind, stream, fin, eh, ack, prio, pay, flags, pad, depend, excl, weight, code, list, last, inc⟩ := f
  simp only at *
  subst hk
  obtain ⟨sn, rfl⟩ : ∃ sn : Nat, stream = (sn : Int) := ⟨stream.toNat, by omega⟩
  obtain ⟨S2, hS2⟩ : ∃ l, PA ++ PP = l := ⟨_, rfl⟩
  rw [hS2] at hbody
  obtain ⟨S3, hS3⟩ : ∃ l, S2 ++ PL = l := ⟨_, rfl⟩
  rw [hS3] at hbody
  obtain ⟨S4, hS4⟩ : ∃ l, S3 ++ PC = l := ⟨_, rfl⟩
  rw [hS4] at hbody
  obtain ⟨S5, hS5⟩ : ∃ l, S4 ++ PI = l := ⟨_, rfl⟩
  rw [hS5] at hbody
  have hlen : PA.length + PP.length ≤ 16777215 ∧ S2.length + PL.length ≤ 16777215 ∧ S3.length + PC.length ≤ 16777215 ∧ S4.length + PI.length ≤ 16777215 ∧ S5.length + (listB list).length + pay.length + PZ.length ≤ 16777215 := by
    have e := congrArg List.length hbody
    simp only [List.length_append] at e
    have e2 := congrArg List.length hS2
    have e3 := congrArg List.length hS3
    have e4 := congrArg List.length hS4
    have e5 := congrArg List.length hS5
    simp only [List.length_append] at e2 e3 e4 e5
    omega
  have ZP : Hid (PA.length + PP.length ≤ 16777215) := hlen.1
  have ZS3 : Hid (¬ 9223372036854775807 < S2.length + PL.length) := by have := hlen.2.1; show ¬ _; omega
  have ZS4 : Hid (¬ 9223372036854775807 < S3.length + PC.length) := by have := hlen.2.2.1; show ¬ _; omega
  have ZS5 : Hid (¬ 9223372036854775807 < S4.length + PI.length) := by have := hlen.2.2.2.1; show ¬ _; omega
  have ZB : Hid (S5.length + (listB list).length + pay.length + PZ.length ≤ 16777215) := hlen.2.2.2.2
  clear hlen
  have hA0 : At w (w.alloc (.cells #[(.int .i64 (k : Int)), (.int .i64 (sn : Int)), (.bool fin), (.bool eh), (.bool ack), (.bool prio), (.slice A n c), (.int .i64 flags), (.int .i64 pad), (.int .i64 depend), (.bool excl), (.int .i64 weight), (.int .u32 (code : Int)), (.slice B m d), (.int .i64 last), (.int .i64 inc)] 27)) (frC (Fm.mk (k : Int) (sn : Int) fin eh ack prio pay flags pad depend excl weight code list last inc) (.slice A n c) (.slice B m d)) :=
    ⟨Blk.new w 27 _, (Below.refl _ _).alloc (Nat.le_refl _) _⟩
  have HA0 := Lib.hid hA0
  have N1 : Hid ((1 : Int) = ((1 : Nat) : Int)) := rfl
  have N2 : Hid ((2 : Int) = ((2 : Nat) : Int)) := rfl
  have N3 : Hid ((3 : Int) = ((3 : Nat) : Int)) := rfl
  have N4 : Hid ((4 : Int) = ((4 : Nat) : Int)) := rfl
  have HP := Lib.hid hp
  have HR := Lib.hid hrd
  have HMA := Lib.hid hcma
  have HFL := Lib.hid hfl
  have GA := Lib.hid gA
  have GP := Lib.hid gP
  have GL := Lib.hid gL
  have GC := Lib.hid gC
  have GI := Lib.hid gI
  have HIDS := Lib.hid hids
  have HVALS := Lib.hid hvals
  have HBODY := Lib.hid hbody
  have HS2 := Lib.hid hS2
  have HS3 := Lib.hid hS3
  have HS4 := Lib.hid hS4
  have HS5 := Lib.hid hS5
  have HWR := Lib.hid hwr
  have HBL := Lib.hid hbd
  have HLL := Lib.hid hll
  have HPL := Lib.hid hpl
  clear hA0 hp hrd hcma hfl gA gP gL gC gI hids hvals hbody hS2 hS3 hS4 hS5 hwr hbd hll hpl
  go_enter Tryd.func15, Tryd.ntmps15
  go_upto_region 3 with (first
    | (go_at_call 35; (with_reducible refine (HMA.out _ (HR.out.below HA0.out.b)).mono ?_); rintro e w1 ⟨rfl, hb⟩
       have HA1 := Lib.hid (HA0.out.next hb)
       clear hb))
  go_cut [4] (fun s wx => s = .string { data := #[] } ∧ At w wx (frC (Fm.mk (k : Int) (sn : Int) fin eh ack prio pay flags pad depend excl weight code list last inc) (.slice A n c) (.slice B m d)))
  case first =>
    as_aux_lemma =>
      go_wp2
      go_meet
      case rel => exact ⟨rfl, HA1.out⟩
  clear HA0 HA1
  case rest =>
  obtain ⟨rfl, hA⟩ := hcut
  have HA := Lib.hid hA
  clear hA
  go_step
  go_step
  go_cut [4] (fun s wx => s = .string ⟨PA.toArray⟩ ∧ At w wx (frC (Fm.mk (k : Int) (sn : Int) fin eh ack prio pay flags pad depend excl weight code list last inc) (.slice A n c) (.slice B m d)))
  case first =>
    as_aux_lemma =>
      obtain ⟨z0, z1, z2, z3, z4, z5, z6, z7, z8, z9, z10, z11, z12, z13, z14, z15⟩ := frCells HA.out.blk
      simp only at z8
      clear z0 z1 z2 z3 z4 z5 z6 z7 z9 z10 z11 z12 z13 z14 z15
      rcases GA.out with ⟨h, q, hq, e1, e2, _⟩ | ⟨h, e2, _⟩
      · have u1 : IntKind.i64.wrap (pad - 1) = (q : Int) := by rw [e1]; exact i64_in (by omega)
        have u2 : IntKind.u64.wrap (q : Int) = (q : Int) := u64_in (by omega)
        have E := Lib.hid e2
        have Q := Lib.hid hq
        clear e1 e2
        go_wp2_with (first
          | (go_at_call 36; (with_reducible refine (num_w q 1 _ _ rfl N1.out (by have := Q.out; omega) (by omega) PA E.out _).mono ?_); rintro e HA2w ⟨rfl, hb⟩; have HA2 := Lib.hid (HA.out.next hb); clear hb))
        go_meet
        case rel => exact ⟨rfl, HA2.out⟩
      · subst e2
        go_wp2
        go_meet
        case rel => exact ⟨rfl, HA.out⟩
  case rest =>
  obtain ⟨rfl, hA⟩ := hcut
  have HA := Lib.hid hA
  clear hA
  go_step
  go_step
  go_cut [4] (fun s wx => s = .string ⟨S2.toArray⟩ ∧ At w wx (frC (Fm.mk (k : Int) (sn : Int) fin eh ack prio pay flags pad depend excl weight code list last inc) (.slice A n c) (.slice B m d)))
  case first =>
    as_aux_lemma =>
      obtain ⟨z0, z1, z2, z3, z4, z5, z6, z7, z8, z9, z10, z11, z12, z13, z14, z15⟩ := frCells HA.out.blk
      simp only at z0 z5 z9 z10 z11
      clear z1 z2 z3 z4 z6 z7 z8 z12 z13 z14 z15
      rcases GP.out with ⟨hw, q, e, t, L1, L2, e1, e2, e3, e4, e5, e6, e7, e8⟩ | ⟨h1, h2, e8⟩
      · have u1 : IntKind.u64.wrap (q : Int) = (q : Int) := u64_in (by omega)
        have u2 : IntKind.i64.wrap (weight - 1) = (t : Int) := by rw [e4]; exact i64_in (by omega)
        have u3 : IntKind.u64.wrap (t : Int) = (t : Int) := u64_in (by omega)
        have E6 := Lib.hid e6
        have E7 := Lib.hid e7
        have E5 := Lib.hid e5
        have hrel : PA ++ L1 ++ L2 = S2 := by rw [List.append_assoc, ← e8, HS2.out]
        have HREL := Lib.hid hrel
        have y1 := ZP.out
        rw [e8, List.length_append] at y1
        have x1 : ¬ 9223372036854775807 < PA.length + L1.length := by omega
        have x2 : ¬ 9223372036854775807 < PA.length + L1.length + L2.length := by omega
        clear y1 e8
        subst e1
        clear e4 e5 e6 e7 hrel z11
        have he : e < 18446744073709551616 := by rw [e3]; cases excl <;> simp <;> omega
        have HE := Lib.hid he
        clear he
        have E3' := Lib.hid e3
        clear e3
        rcases hw with rfl | ⟨rfl, h2⟩
        · go_upto_region 7 with (fail)
          go_cut [5] (fun v wx => v = .int .u64 (q : Int) ∧ At w wx (frC (Fm.mk (k : Int) (sn : Int) fin eh ack true pay flags pad (q : Int) excl weight code list last inc) (.slice A n c) (.slice B m d)))
          case first =>
            go_wp2
            go_meet
            case rel => exact ⟨rfl, HA.out⟩
          case rest =>
          obtain ⟨rfl, hA⟩ := hcut
          have HA8 := Lib.hid hA
          clear hA
          obtain ⟨_, _, _, _, _, _, _, _, _, _, g10, _, _, _, _, _⟩ := frCells HA8.out.blk; simp only at g10
          go_step
          go_step
          go_cut [5] (fun v wx => v = .int .u64 (e : Int) ∧ At w wx (frC (Fm.mk (k : Int) (sn : Int) fin eh ack true pay flags pad (q : Int) excl weight code list last inc) (.slice A n c) (.slice B m d)))
          case first =>
            cases excl
            · obtain rfl : e = q := by simpa using E3'.out
              go_wp2
              go_meet
              case rel => exact ⟨rfl, HA8.out⟩
            · have u4 : IntKind.u64.wrap ((q : Int) + 2147483648) = (e : Int) := by
                have e3' : e = q + 2147483648 := by simpa using E3'.out
                rw [e3', u64_in (by omega)]
                omega
              go_wp2
              go_meet
              case rel => exact ⟨rfl, HA8.out⟩
          case rest =>
            obtain ⟨rfl, hA⟩ := hcut
            have HAd := Lib.hid hA.drew
            have HAq := Lib.hid hA
            clear hA
            obtain ⟨_, _, _, _, _, _, _, _, _, _, _, f0, _, _, _, _⟩ := frCells HAq.out.blk; simp only at f0
            obtain ⟨_, _, _, _, _, _, _, _, _, _, _, f1, _, _, _, _⟩ := frCells HAd.out.blk; simp only at f1
            go_step
            go_region_held (fun w' => w'.cell? ⟨w.heap.size, 11, none⟩ = some (.int .i64 weight)) (first | exact f1 | exact f2 | exact f3) (first
              | (go_at_call 36; (with_reducible refine (num_w e 4 _ _ rfl N4.out HE.out (by omega) L1 E6.out _).mono ?_); rintro e HA2w ⟨rfl, hb⟩; have HA2 := Lib.hid (HAd.out.next hb); obtain ⟨_, _, _, _, _, _, _, _, _, _, _, f2, _, _, _, _⟩ := frCells HA2.out.blk; simp only at f2; clear hb)
              | (go_at_call 36; (with_reducible refine (num_w t 1 _ _ rfl N1.out (by have := E5.out; omega) (by omega) L2 E7.out _).mono ?_); rintro e HA3w ⟨rfl, hb⟩; have HA3 := Lib.hid (HA2.out.next hb); obtain ⟨_, _, _, _, _, _, _, _, _, _, _, f3, _, _, _, _⟩ := frCells HA3.out.blk; simp only at f3; clear hb))
            go_wp2
            go_meet
            case rel => exact ⟨ret_str (by rw [app_ba, app_ba, HREL.out]), HA3.out⟩
        · have hq : ((k : Int) == 2) = true := by simp; omega
          clear h2
          go_upto_region 7 with (fail)
          go_cut [5] (fun v wx => v = .int .u64 (q : Int) ∧ At w wx (frC (Fm.mk (k : Int) (sn : Int) fin eh ack false pay flags pad (q : Int) excl weight code list last inc) (.slice A n c) (.slice B m d)))
          case first =>
            go_wp2
            go_meet
            case rel => exact ⟨rfl, HA.out⟩
          case rest =>
          obtain ⟨rfl, hA⟩ := hcut
          have HA8 := Lib.hid hA
          clear hA
          obtain ⟨_, _, _, _, _, _, _, _, _, _, g10, _, _, _, _, _⟩ := frCells HA8.out.blk; simp only at g10
          go_step
          go_step
          go_cut [5] (fun v wx => v = .int .u64 (e : Int) ∧ At w wx (frC (Fm.mk (k : Int) (sn : Int) fin eh ack false pay flags pad (q : Int) excl weight code list last inc) (.slice A n c) (.slice B m d)))
          case first =>
            cases excl
            · obtain rfl : e = q := by simpa using E3'.out
              go_wp2
              go_meet
              case rel => exact ⟨rfl, HA8.out⟩
            · have u4 : IntKind.u64.wrap ((q : Int) + 2147483648) = (e : Int) := by
                have e3' : e = q + 2147483648 := by simpa using E3'.out
                rw [e3', u64_in (by omega)]
                omega
              go_wp2
              go_meet
              case rel => exact ⟨rfl, HA8.out⟩
          case rest =>
            obtain ⟨rfl, hA⟩ := hcut
            have HAd := Lib.hid hA.drew
            have HAq := Lib.hid hA
            clear hA
            obtain ⟨_, _, _, _, _, _, _, _, _, _, _, f0, _, _, _, _⟩ := frCells HAq.out.blk; simp only at f0
            obtain ⟨_, _, _, _, _, _, _, _, _, _, _, f1, _, _, _, _⟩ := frCells HAd.out.blk; simp only at f1
            go_step
            go_region_held (fun w' => w'.cell? ⟨w.heap.size, 11, none⟩ = some (.int .i64 weight)) (first | exact f1 | exact f2 | exact f3) (first
              | (go_at_call 36; (with_reducible refine (num_w e 4 _ _ rfl N4.out HE.out (by omega) L1 E6.out _).mono ?_); rintro e HA2w ⟨rfl, hb⟩; have HA2 := Lib.hid (HAd.out.next hb); obtain ⟨_, _, _, _, _, _, _, _, _, _, _, f2, _, _, _, _⟩ := frCells HA2.out.blk; simp only at f2; clear hb)
              | (go_at_call 36; (with_reducible refine (num_w t 1 _ _ rfl N1.out (by have := E5.out; omega) (by omega) L2 E7.out _).mono ?_); rintro e HA3w ⟨rfl, hb⟩; have HA3 := Lib.hid (HA2.out.next hb); obtain ⟨_, _, _, _, _, _, _, _, _, _, _, f3, _, _, _, _⟩ := frCells HA3.out.blk; simp only at f3; clear hb))
            go_wp2
            go_meet
            case rel => exact ⟨ret_str (by rw [app_ba, app_ba, HREL.out]), HA3.out⟩
      · have hq : ((k : Int) == 2) = false := by simp; omega
        have hrel : PA = S2 := by rw [← HS2.out, e8, List.append_nil]
        have HREL := Lib.hid hrel
        clear e8 hrel h2
        subst h1
        go_wp2
        go_meet
        case rel => exact ⟨ret_str (by rw [HREL.out]), HA.out⟩
  case rest =>
  obtain ⟨rfl, hA⟩ := hcut
  have HA := Lib.hid hA
  clear hA
  go_step
  go_step
  go_cut [4] (fun s wx => s = .string ⟨S3.toArray⟩ ∧ At w wx (frC (Fm.mk (k : Int) (sn : Int) fin eh ack prio pay flags pad depend excl weight code list last inc) (.slice A n c) (.slice B m d)))
  case first =>
    as_aux_lemma =>
      obtain ⟨z0, z1, z2, z3, z4, z5, z6, z7, z8, z9, z10, z11, z12, z13, z14, z15⟩ := frCells HA.out.blk
      simp only at z0 z14
      clear z1 z2 z3 z4 z5 z6 z7 z8 z9 z10 z11 z12 z13 z15
      rcases GL.out with ⟨hk, q, e1, e2, e3⟩ | ⟨hk, hk2, e3⟩
      · have u1 : IntKind.u64.wrap (q : Int) = (q : Int) := u64_in (by omega)
        subst e1
        have E3 := Lib.hid e3
        have HV : Hid (q < 18446744073709551616) := (by omega : q < 18446744073709551616)
        have hrel : S2 ++ PL = S3 := HS3.out
        have HREL := Lib.hid hrel
        clear e3 hrel
        rcases hk with hk | ⟨hk, hk2⟩
        · have hq : ((k : Int) == 5) = true := by simp; omega
          clear hk
          go_wp2_with (first
            | (go_at_call 36; (with_reducible refine (num_w q 4 _ _ rfl N4.out HV.out (by omega) PL E3.out _).mono ?_); rintro e HA2w ⟨rfl, hb⟩; have HA2 := Lib.hid (HA.out.next hb); clear hb))
          go_meet
          case rel => exact ⟨ret_str (by rw [app_ba, HREL.out]), HA2.out⟩
        · have hq : ((k : Int) == 5) = false := by simp; omega
          have hq2 : ((k : Int) == 7) = true := by simp; omega
          clear hk hk2
          go_wp2_with (first
            | (go_at_call 36; (with_reducible refine (num_w q 4 _ _ rfl N4.out HV.out (by omega) PL E3.out _).mono ?_); rintro e HA2w ⟨rfl, hb⟩; have HA2 := Lib.hid (HA.out.next hb); clear hb))
          go_meet
          case rel => exact ⟨ret_str (by rw [app_ba, HREL.out]), HA2.out⟩
      · have hq5 : ((k : Int) == 5) = false := by simp; omega
        have hq7 : ((k : Int) == 7) = false := by simp; omega
        have hrel : S2 = S3 := by rw [← HS3.out, e3, List.append_nil]
        have HREL := Lib.hid hrel
        clear e3 hrel hk hk2
        go_wp2
        go_meet
        case rel => exact ⟨ret_str (by rw [HREL.out]), HA.out⟩
  case rest =>
  obtain ⟨rfl, hA⟩ := hcut
  have HA := Lib.hid hA
  clear hA
  go_step
  go_step
  go_cut [4] (fun s wx => s = .string ⟨S4.toArray⟩ ∧ At w wx (frC (Fm.mk (k : Int) (sn : Int) fin eh ack prio pay flags pad depend excl weight code list last inc) (.slice A n c) (.slice B m d)))
  case first =>
    as_aux_lemma =>
      obtain ⟨z0, z1, z2, z3, z4, z5, z6, z7, z8, z9, z10, z11, z12, z13, z14, z15⟩ := frCells HA.out.blk
      simp only at z0 z12
      clear z1 z2 z3 z4 z5 z6 z7 z8 z9 z10 z11 z13 z14 z15
      rcases GC.out with ⟨hk, e3⟩ | ⟨hk, hk2, e3⟩
      · have u1 : IntKind.u64.wrap (code : Int) = (code : Int) := u64_in (by omega)
        have E3 := Lib.hid e3
        have HV : Hid (code < 18446744073709551616) := (by omega : code < 18446744073709551616)
        have hrel : S3 ++ PC = S4 := HS4.out
        have HREL := Lib.hid hrel
        clear e3 hrel
        rcases hk with hk | ⟨hk, hk2⟩
        · have hq : ((k : Int) == 3) = true := by simp; omega
          clear hk
          go_wp2_with (first
            | (go_at_call 36; (with_reducible refine (num_w code 4 _ _ rfl N4.out HV.out (by omega) PC E3.out _).mono ?_); rintro e HA2w ⟨rfl, hb⟩; have HA2 := Lib.hid (HA.out.next hb); clear hb))
          go_meet
          case rel => exact ⟨ret_str (by rw [app_ba, HREL.out]), HA2.out⟩
        · have hq : ((k : Int) == 3) = false := by simp; omega
          have hq2 : ((k : Int) == 7) = true := by simp; omega
          clear hk hk2
          go_wp2_with (first
            | (go_at_call 36; (with_reducible refine (num_w code 4 _ _ rfl N4.out HV.out (by omega) PC E3.out _).mono ?_); rintro e HA2w ⟨rfl, hb⟩; have HA2 := Lib.hid (HA.out.next hb); clear hb))
          go_meet
          case rel => exact ⟨ret_str (by rw [app_ba, HREL.out]), HA2.out⟩
      · have hq3 : ((k : Int) == 3) = false := by simp; omega
        have hq7 : ((k : Int) == 7) = false := by simp; omega
        have hrel : S3 = S4 := by rw [← HS4.out, e3, List.append_nil]
        have HREL := Lib.hid hrel
        clear e3 hrel hk hk2
        go_wp2
        go_meet
        case rel => exact ⟨ret_str (by rw [HREL.out]), HA.out⟩
  case rest =>
  obtain ⟨rfl, hA⟩ := hcut
  have HA := Lib.hid hA
  clear hA
  go_step
  go_step
  go_cut [4] (fun s wx => s = .string ⟨S5.toArray⟩ ∧ At w wx (frC (Fm.mk (k : Int) (sn : Int) fin eh ack prio pay flags pad depend excl weight code list last inc) (.slice A n c) (.slice B m d)))
  case first =>
    as_aux_lemma =>
      obtain ⟨z0, z1, z2, z3, z4, z5, z6, z7, z8, z9, z10, z11, z12, z13, z14, z15⟩ := frCells HA.out.blk
      simp only at z0 z15
      clear z1 z2 z3 z4 z5 z6 z7 z8 z9 z10 z11 z12 z13 z14
      rcases GI.out with ⟨hk, q, e1, e2, e3⟩ | ⟨hk, e3⟩
      · have u1 : IntKind.u64.wrap (q : Int) = (q : Int) := u64_in (by omega)
        subst e1
        have E3 := Lib.hid e3
        have HV : Hid (q < 18446744073709551616) := (by omega : q < 18446744073709551616)
        have hrel : S4 ++ PI = S5 := HS5.out
        have HREL := Lib.hid hrel
        clear e3 hrel
        have hq : ((k : Int) == 8) = true := by simp; omega
        clear hk
        go_wp2_with (first
          | (go_at_call 36; (with_reducible refine (num_w q 4 _ _ rfl N4.out HV.out (by omega) PI E3.out _).mono ?_); rintro e HA2w ⟨rfl, hb⟩; have HA2 := Lib.hid (HA.out.next hb); clear hb))
        go_meet
        case rel => exact ⟨ret_str (by rw [app_ba, HREL.out]), HA2.out⟩
      · have hq8 : ((k : Int) == 8) = false := by simp; omega
        have hrel : S4 = S5 := by rw [← HS5.out, e3, List.append_nil]
        have HREL := Lib.hid hrel
        clear e3 hrel hk
        go_wp2
        go_meet
        case rel => exact ⟨ret_str (by rw [HREL.out]), HA.out⟩
  case rest =>
  obtain ⟨rfl, hA⟩ := hcut
  have HA := Lib.hid hA
  clear hA

  go_step
  go_step
  go_wp2
  go_loopg [4, 6] m (fun gh s i w' => ∃ j : Nat, gh + j = m ∧ i = .int .i64 (j : Int) ∧ s = .string ⟨(S5 ++ listB (list.take j)).toArray⟩ ∧ At w w' (frC (Fm.mk (k : Int) (sn : Int) fin eh ack prio pay flags pad depend excl weight code list last inc) (.slice A n c) (.slice B m d)))
  case atStart => exact ⟨0, by omega, rfl, by rw [List.take_zero]; show _ = Value.string ⟨(S5 ++ []).toArray⟩; rw [List.append_nil], HA.out⟩
  case round =>
    obtain ⟨j, hj, rfl, rfl, hA⟩ := hrel
    have HJ := Lib.hid hA
    clear hA HA
    obtain ⟨_, _, _, _, _, _, _, _, _, _, _, _, _, z13, _, _⟩ := frCells HJ.out.blk
    try simp only at z13
    cases gk with
    | succ g1 =>
      as_aux_lemma =>
        have k1 : j < m := by omega
        obtain ⟨⟨sid, sv⟩, hs⟩ : ∃ s, list[j]? = some s := ⟨_, List.getElem?_eq_getElem (by rw [HLL.out]; exact k1)⟩
        have hid := HIDS.out _ (List.mem_of_getElem? hs)
        have hsv := HVALS.out _ (List.mem_of_getElem? hs)
        simp only at hid hsv
        obtain ⟨si, rfl⟩ : ∃ si : Nat, sid = (si : Int) := ⟨sid.toNat, by omega⟩
        obtain ⟨SJ, hSJ⟩ : ∃ l, S5 ++ listB (list.take j) = l := ⟨_, rfl⟩
        obtain ⟨X2, hX2⟩ : ∃ l, be si 2 = l := ⟨_, rfl⟩
        obtain ⟨X4, hX4⟩ : ∃ l, be sv 4 = l := ⟨_, rfl⟩
        have hrel : SJ ++ X2 ++ X4 = S5 ++ listB (list.take (j + 1)) := by
          have e : list.take (j + 1) = list.take j ++ [((si : Int), sv)] := by rw [List.take_add_one, hs]; rfl
          rw [e, ← hSJ, ← hX2, ← hX4]
          simp [listB]
        have HREL := Lib.hid hrel
        have hSl : SJ.length ≤ 16777215 := by
          have h1 := ZB.out
          rw [← hSJ, List.length_append, listB_length, List.length_take]
          rw [listB_length] at h1
          omega
        have x1 : ¬ 9223372036854775807 < SJ.length + X2.length := by rw [← hX2, be_length]; omega
        have x2 : ¬ 9223372036854775807 < SJ.length + X2.length + X4.length := by rw [← hX2, ← hX4, be_length, be_length]; omega
        have E2 := Lib.hid hX2
        have E4 := Lib.hid hX4
        rw [hSJ]
        obtain ⟨b, o, rfl, d0, d1⟩ := rd_set (HR.out.below HJ.out.b) hs
        have hall : ∀ wy, At w wy (frC (Fm.mk (k : Int) (sn : Int) fin eh ack prio pay flags pad depend excl weight code list last inc) (.slice A n c) (.slice (some ⟨b, o, none⟩) m d)) → wy.cell? ⟨w.heap.size, 13, none⟩ = some (.slice (some ⟨b, o, none⟩) m d) ∧ wy.cell? ⟨b, o + j * 2, none⟩ = some (.int .i64 (si : Int)) ∧ wy.cell? ⟨b, o + j * 2 + 1, none⟩ = some (.int .u32 (sv : Int)) := by
          intro wy hy
          obtain ⟨b', o', e, d0, d1⟩ := rd_set (HR.out.below hy.b) hs
          cases e
          obtain ⟨_, _, _, _, _, _, _, _, _, _, _, _, _, z, _, _⟩ := frCells hy.blk
          exact ⟨z, d0, d1⟩
        have HALL := Lib.hid hall
        have HJd := Lib.hid HJ.out.drew
        have u1 : IntKind.u64.wrap (si : Int) = (si : Int) := u64_in (by omega)
        have u2 : IntKind.u64.wrap (sv : Int) = (sv : Int) := u64_in (by omega)
        have Q1 : Hid (si < 18446744073709551616) := (by omega : si < 18446744073709551616)
        have Q2 : Hid (sv < 18446744073709551616) := (by omega : sv < 18446744073709551616)
        clear hid hsv hSJ hX2 hX4 hrel hSl hall hs d0 d1 z13
        obtain ⟨z13, d0, d1⟩ := HALL.out _ HJ.out
        go_wp2
        go_region_held (fun w' => w'.cell? ⟨w.heap.size, 13, none⟩ = some (.slice (some ⟨b, o, none⟩) m d) ∧ w'.cell? ⟨b, o + j * 2, none⟩ = some (.int .i64 (si : Int)) ∧ w'.cell? ⟨b, o + j * 2 + 1, none⟩ = some (.int .u32 (sv : Int))) (first | exact HALL.out _ HJd.out | exact HALL.out _ HJ2.out | exact HALL.out _ HJ3.out) (first
          | (go_at_call 36; (with_reducible refine (num_w si 2 _ _ rfl N2.out Q1.out (by omega) X2 E2.out _).mono ?_); rintro e HJ2w ⟨rfl, hb⟩; have HJ2 := Lib.hid (HJd.out.next hb); clear hb)
          | (go_at_call 36; (with_reducible refine (num_w sv 4 _ _ rfl N4.out Q2.out (by omega) X4 E4.out _).mono ?_); rintro e HJ3w ⟨rfl, hb⟩; have HJ3 := Lib.hid (HJ2.out.next hb); clear hb))
        go_wp2
        go_roundg g1
        case measure => omega
        case rel => exact ⟨j + 1, by omega, by go_num, ret_str (by rw [app_ba, app_ba, HREL.out]), HJ3.out⟩
    | zero =>
      have k1 : ¬ j < m := by omega
      obtain rfl : j = m := by omega
      obtain ⟨S6, hS6⟩ : ∃ l, S5 ++ listB (list.take j) = l := ⟨_, rfl⟩
      rw [hS6]
      have e6 : list.take j = list := List.take_of_length_le (by rw [HLL.out]; exact Nat.le_refl _)
      rw [e6] at hS6
      have l6 := congrArg List.length hS6
      rw [List.length_append] at l6
      have hB := HBODY.out
      rw [hS6] at hB
      obtain ⟨S7, hS7⟩ : ∃ l, S6 ++ pay = l := ⟨_, rfl⟩
      rw [hS7] at hB
      have l7 := congrArg List.length hS7
      rw [List.length_append] at l7
      have zb := ZB.out
      have x1 : ¬ 9223372036854775807 < S6.length + pay.length := by omega
      have X2 : Hid (¬ 9223372036854775807 < S7.length + PZ.length) := by show ¬ _; omega
      have HS7 := Lib.hid hS7
      have HB2 := Lib.hid hB
      clear hS6 e6 l6 l7 hB hS7 zb
      go_upto_region 21 with (fail)
      go_cut [4] (fun s wx => s = .string ⟨S7.toArray⟩ ∧ At w wx (frC (Fm.mk (k : Int) (sn : Int) fin eh ack prio pay flags pad depend excl weight code list last inc) (.slice A n c) (.slice B j d)))
      case first =>
        as_aux_lemma =>
          obtain ⟨_, _, _, _, _, _, z6, _, _, _, _, _, _, _, _, _⟩ := frCells HJ.out.blk
          try simp only at z6
          have hcv := run_conv_bytes (P := Tryd.prog) (c := c) Tryd.underlying22 Tryd.underlying5 Tryd.underlying9 (HP.out.below HJ.out.b)
          go_wp2
          go_meet
          case rel => exact ⟨ret_str (by rw [app_ba, HS7.out]), HJ.out⟩
      clear HJ
      case rest =>
      obtain ⟨rfl, hA⟩ := hcut
      have HA := Lib.hid hA
      clear hA x1 z13
      go_step
      go_step
      go_cut [4] (fun s wx => s = .string ⟨BO.toArray⟩ ∧ At w wx (frC (Fm.mk (k : Int) (sn : Int) fin eh ack prio pay flags pad depend excl weight code list last inc) (.slice A n c) (.slice B j d)))
      case first =>
        as_aux_lemma =>
          obtain ⟨_, _, _, _, _, _, _, _, z8, _, _, _, _, _, _, _⟩ := frCells HA.out.blk
          try simp only at z8
          rcases GA.out with ⟨h, q, hq, e1, e2, e3⟩ | ⟨h, e2, e3⟩
          · have u1 : IntKind.i64.wrap (pad - 1) = (q : Int) := by rw [e1]; exact i64_in (by omega)
            have hmk := run_make_zeros EB rfl .i64 .i64 (q : Int) q rfl (by omega) (by omega)
            have hcz : ∀ wy : World, (convert 22 9 (.slice (some ⟨wy.heap.size, 0, none⟩) q q)).run Tryd.prog (wy.alloc (.cells (zeros zeroB q).toArray 5)) = .ok (.string ⟨PZ.toArray⟩) (wy.alloc (.cells (zeros zeroB q).toArray 5)) := by
              intro wy
              refine run_conv_bytes (P := Tryd.prog) (c := q) Tryd.underlying22 Tryd.underlying5 Tryd.underlying9 ?_
              have hz : zeros zeroB q = PZ.map BV := by rw [← e3]; simp [zeros, BV, zeroB]
              have hl : PZ.length = q := by rw [← e3]; simp
              have h := Rd.of_blk (n := q) (size := 1) (Blk.new wy 5 (zeros zeroB q)) (by rw [zeros_length]; omega)
              have e : (zeros zeroB q).take (q * 1) = PZ.map BV := by rw [Nat.mul_one, hz, List.take_of_length_le (by simp [hl])]
              rw [e] at h
              exact h
            have x2 := X2.out
            have HB := Lib.hid (fun wy : World => (Below.refl wy.heap.size wy).alloc (Nat.le_refl _) (.cells (zeros zeroB q).toArray 5))
            clear e1 e2 e3 hq
            go_wp2
            go_meet
            case rel => exact ⟨ret_str (by rw [app_ba, HB2.out]), HA.out.next (HB.out _)⟩
          · have hrel : S7 = BO := by have := HB2.out; rwa [e3, List.append_nil] at this
            have HREL := Lib.hid hrel
            clear e2 e3 hrel
            go_wp2
            go_meet
            case rel => exact ⟨ret_str (by rw [HREL.out]), HA.out⟩
      clear HA
      case rest =>
      obtain ⟨rfl, hA⟩ := hcut
      have HA := Lib.hid hA
      as_aux_lemma =>
        have hbl := HBL.out
        have x0 : ¬ 16777215 < BO.length := by omega
        have u1 : IntKind.u64.wrap (BO.length : Int) = (BO.length : Int) := u64_in (by omega)
        have u2 : IntKind.u64.wrap (k : Int) = (k : Int) := u64_in (by omega)
        have u3 : IntKind.u64.wrap (fl : Int) = (fl : Int) := u64_in (by omega)
        have u4 : IntKind.u64.wrap (sn : Int) = (sn : Int) := u64_in (by omega)
        obtain ⟨L3, hL3⟩ : ∃ l, be BO.length 3 = l := ⟨_, rfl⟩
        obtain ⟨LK, hLK⟩ : ∃ l, be k 1 = l := ⟨_, rfl⟩
        obtain ⟨LF, hLF⟩ : ∃ l, be fl 1 = l := ⟨_, rfl⟩
        obtain ⟨LS, hLS⟩ : ∃ l, be sn 4 = l := ⟨_, rfl⟩
        have hrel : L3 ++ LK ++ LF ++ LS ++ BO = WR := by
          rw [HWR.out, ← hL3, ← hLK, ← hLF, ← hLS]
          simp [headB]
        have q3 : L3.length = 3 := by rw [← hL3, be_length]
        have qk : LK.length = 1 := by rw [← hLK, be_length]
        have qf : LF.length = 1 := by rw [← hLF, be_length]
        have qs : LS.length = 4 := by rw [← hLS, be_length]
        have x1 : ¬ 9223372036854775807 < L3.length + LK.length := by omega
        have x2 : ¬ 9223372036854775807 < L3.length + LK.length + LF.length := by omega
        have x3 : ¬ 9223372036854775807 < L3.length + LK.length + LF.length + LS.length := by omega
        have x4 : ¬ 9223372036854775807 < L3.length + LK.length + LF.length + LS.length + BO.length := by omega
        have F3 := Lib.hid hL3
        have FK := Lib.hid hLK
        have FF := Lib.hid hLF
        have FS := Lib.hid hLS
        have HREL := Lib.hid hrel
        have Q0 : Hid (BO.length < 18446744073709551616) := (by omega : BO.length < 18446744073709551616)
        have Q1 : Hid (k < 18446744073709551616) := (by omega : k < 18446744073709551616)
        have Q2 : Hid (fl < 18446744073709551616) := (by omega : fl < 18446744073709551616)
        have Q3 : Hid (sn < 18446744073709551616) := (by omega : sn < 18446744073709551616)
        have HAd := Lib.hid HA.out.drew
        clear hA hbl hL3 hLK hLF hLS hrel q3 qk qf qs
        obtain ⟨z0, z1, z2, z3, z4, z5, z6, z7, z8, z9, z10, z11, z12, z13, z14, z15⟩ := frCells HA.out.blk
        simp only at z0 z1 z2 z3 z4 z5 z6 z7 z8 z9 z10 z11 z12 z13 z14 z15
        go_step
        go_step
        go_upto_region 26 with (fail)
        go_region_held (fun w' => w'.cell? ⟨w.heap.size, 0, none⟩ = some (.int .i64 (k : Int)) ∧ w'.cell? ⟨w.heap.size, 1, none⟩ = some (.int .i64 (sn : Int)) ∧ w'.cell? ⟨w.heap.size, 2, none⟩ = some (.bool fin) ∧ w'.cell? ⟨w.heap.size, 3, none⟩ = some (.bool eh) ∧ w'.cell? ⟨w.heap.size, 4, none⟩ = some (.bool ack) ∧ w'.cell? ⟨w.heap.size, 5, none⟩ = some (.bool prio) ∧ w'.cell? ⟨w.heap.size, 6, none⟩ = some (.slice A n c) ∧ w'.cell? ⟨w.heap.size, 7, none⟩ = some (.int .i64 flags) ∧ w'.cell? ⟨w.heap.size, 8, none⟩ = some (.int .i64 pad) ∧ w'.cell? ⟨w.heap.size, 9, none⟩ = some (.int .i64 depend) ∧ w'.cell? ⟨w.heap.size, 10, none⟩ = some (.bool excl) ∧ w'.cell? ⟨w.heap.size, 11, none⟩ = some (.int .i64 weight) ∧ w'.cell? ⟨w.heap.size, 12, none⟩ = some (.int .u32 (code : Int)) ∧ w'.cell? ⟨w.heap.size, 13, none⟩ = some (.slice B j d) ∧ w'.cell? ⟨w.heap.size, 14, none⟩ = some (.int .i64 last) ∧ w'.cell? ⟨w.heap.size, 15, none⟩ = some (.int .i64 inc)) (first | exact frCells HAd.out.blk | exact frCells HA2.out.blk | exact frCells HA3.out.blk | exact frCells HA4.out.blk | exact frCells HA5.out.blk | exact frCells HA6.out.blk) (first
          | (go_at_call 36; (with_reducible refine (num_w BO.length 3 _ _ rfl N3.out Q0.out (by omega) L3 F3.out _).mono ?_); rintro e HA2w ⟨rfl, hb⟩; have HA2 := Lib.hid (HAd.out.next hb); clear hb)
          | (go_at_call 36; (with_reducible refine (num_w k 1 _ _ rfl N1.out Q1.out (by omega) LK FK.out _).mono ?_); rintro e HA3w ⟨rfl, hb⟩; have HA3 := Lib.hid (HA2.out.next hb); clear hb)
          | (go_at_call 37; (with_reducible refine (HFL.out _).mono ?_); rintro e HA4w ⟨rfl, hb⟩; have HA4 := Lib.hid (HA3.out.next hb); clear hb)
          | (go_at_call 36; (with_reducible refine (num_w fl 1 _ _ rfl N1.out Q2.out (by omega) LF FF.out _).mono ?_); rintro e HA5w ⟨rfl, hb⟩; have HA5 := Lib.hid (HA4.out.next hb); clear hb)
          | (go_at_call 36; (with_reducible refine (num_w sn 4 _ _ rfl N4.out Q3.out (by omega) LS FS.out _).mono ?_); rintro e HA6w ⟨rfl, hb⟩; have HA6 := Lib.hid (HA5.out.next hb); clear hb))
        go_wp2
        go_ret2
        refine ⟨?_, HA6.out.b⟩
        rw [app_ba, app_ba, app_ba, app_ba, HREL.out]
        rfl
end Go.Proofs.YtokbdkbljgdcpaaDoor
