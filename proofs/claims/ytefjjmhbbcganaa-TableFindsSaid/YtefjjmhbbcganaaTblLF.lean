/- TableFinds, the walk. -/
import Derived.Test.YtefjjmhbbcganaaTblC
import Derived.Deep.DeepCutAuto
namespace Go.Proofs.Ytefjjmhbbcganaa
open Go.RowKit Go.Own Go.Tbl
set_option linter.unusedVariables false
attribute [local go_sem ↓] Go.wp_at_zero Go.wp_at_succ

theorem findF_cases {all : List Fld} {f : Fld} {R1 : Nat} {R2 : Bool} (h : findF all f = (R1, R2)) :
    (R2 = true ∧ ∃ k x, R1 = k + 1 ∧ all[k]? = some x ∧ sameB f x = true ∧ Miss (sameB f) all k) ∨
    (R2 = false ∧ (∀ g ∈ all, sameB f g = false) ∧ ((R1 = 0 ∧ ∀ g ∈ all, nameB f g = false) ∨ ∃ k x, R1 = k + 1 ∧ all[k]? = some x ∧ nameB f x = true ∧ Miss (nameB f) all k)) := by
  unfold findF at h
  cases h1 : place (sameB f) all with
  | some k =>
    rw [h1] at h
    injection h with h2 h3
    obtain ⟨x, hx, hs, hm⟩ := place_some h1
    exact .inl ⟨h3.symm, k, x, h2.symm, hx, hs, fun j g hj hg => hm j g hj hg⟩
  | none =>
    rw [h1] at h
    cases h4 : place (nameB f) all with
    | some k =>
      rw [h4] at h
      injection h with h2 h3
      obtain ⟨x, hx, hs, hm⟩ := place_some h4
      exact .inr ⟨h3.symm, place_none h1, .inr ⟨k, x, h2.symm, hx, hs, fun j g hj hg => hm j g hj hg⟩⟩
    | none =>
      rw [h4] at h
      injection h with h2 h3
      exact .inr ⟨h3.symm, place_none h1, .inl ⟨h2.symm, place_none h4⟩⟩
/-- what the law asks of each index -/
def FOk (j R1 : Nat) (R2 b1 b2 : Bool) : Prop := (j < R1 → (b1 && b2) = false ∧ (R2 = false → b1 = false)) ∧ (j = R1 → (b1 && b2) = R2 ∧ b1 = true) ∧ (R1 < j → (R2 = false → (b1 && b2) = false) ∧ (R1 = 0 → b1 = false))
theorem find_ok {all : List Fld} {f x : Fld} {R1 j : Nat} {R2 : Bool} (h : findF all f = (R1, R2)) (hj : 1 ≤ j) (hx : all[j - 1]? = some x) {b1 b2 : Bool} (h1 : (x.n.toList == f.n.toList) = b1) (h2 : (x.v.toList == f.v.toList) = b2) : FOk j R1 R2 b1 b2 := by
  have hs : sameB f x = (b1 && b2) := by rw [sameB, h1, h2]
  have hn : nameB f x = b1 := by rw [nameB, h1]
  have hxm := List.mem_of_getElem? hx
  rcases findF_cases h with ⟨rfl, k, y, rfl, hy, hsy, hm⟩ | ⟨rfl, hno, hc⟩
  · refine ⟨fun hlt => ⟨?_, fun e => (by cases e)⟩, fun e => ?_, fun hlt => ⟨fun e => (by cases e), fun e => (by omega)⟩⟩
    · rw [← hs]; exact hm (j - 1) x (by omega) hx
    · have : j - 1 = k := by omega
      rw [this, hy] at hx
      obtain rfl := Option.some.inj hx
      rw [hs] at hsy
      refine ⟨hsy, ?_⟩
      cases b1
      · simp at hsy
      · rfl
  · have h3 : (b1 && b2) = false := by rw [← hs]; exact hno x hxm
    refine ⟨fun hlt => ⟨h3, fun _ => ?_⟩, fun e => ⟨h3, ?_⟩, fun hlt => ⟨fun _ => h3, fun e => ?_⟩⟩
    · rcases hc with ⟨rfl, _⟩ | ⟨k, y, rfl, hy, hny, hm⟩
      · omega
      · rw [← hn]; exact hm (j - 1) x (by omega) hx
    · rcases hc with ⟨rfl, _⟩ | ⟨k, y, rfl, hy, hny, hm⟩
      · omega
      · have : j - 1 = k := by omega
        rw [this, hy] at hx
        obtain rfl := Option.some.inj hx
        rw [hn] at hny
        exact hny
    · rcases hc with ⟨rfl, h4⟩ | ⟨k, y, rfl, hy, hny, hm⟩
      · rw [← hn]; exact h4 x hxm
      · omega
theorem find_le {all : List Fld} {f : Fld} {R1 : Nat} {R2 : Bool} (h : findF all f = (R1, R2)) : R1 ≤ all.length ∧ (R1 = 0 → R2 = false) := by
  rcases findF_cases h with ⟨rfl, k, y, rfl, hy, _⟩ | ⟨rfl, _, ⟨rfl, _⟩ | ⟨k, y, rfl, hy, _⟩⟩
  · have := (List.getElem?_eq_some_iff.1 hy).1
    exact ⟨by omega, fun e => by omega⟩
  · exact ⟨by omega, fun _ => rfl⟩
  · have := (List.getElem?_eq_some_iff.1 hy).1
    exact ⟨by omega, fun _ => rfl⟩
theorem PB.ok {B : Nat} {w0 w : World} {p h : Nat} {l : List Fld} (t : PB B w0 w p h l) : ∀ f ∈ l, fok f ∧ f.nv = false := by obtain ⟨F, ht, _⟩ := t; exact ht.ok
theorem PB.small {B : Nat} {w0 w : World} {p h : Nat} {l : List Fld} (t : PB B w0 w p h l) : l.length ≤ 2048 := by
  obtain ⟨F, ht, _⟩ := t
  have h1 := ht.le
  have h2 := ht.top
  have h3 := len_szs l
  omega
theorem bLen_q {B : Nat} {w0 w : World} {p h : Nat} {l : List Fld} (t : PB B w0 w p h l) (n : Nat) (hn : l.length = n) : Calls Try.prog 29 #[.pointer (some ⟨p, 0, none⟩)] w fun e w' => e = .returned (.int .i64 (n : Int)) ∧ w = w' := by
  obtain ⟨F, ht, _⟩ := t
  exact pLen_q ht n hn
theorem bAt_f {B : Nat} {w0 w : World} {p h : Nat} {l : List Fld} (t : PB B w0 w p h l) (i : Int) (hi : i64 i) (n v : ByteArray) (hR : atL (statL ++ l) i = some ⟨n, v, false⟩) : Calls Try.prog 22 #[.pointer (some ⟨p, 0, none⟩), .int .i64 i] w fun e w' => e = .returned (.tuple #[.agg #[.string n, .string v, .bool false], .bool true]) ∧ PB B w0 w' p h l ∧ Below w.heap.size w w' := bAt t i hi _ hR
theorem bAt_no {B : Nat} {w0 w : World} {p h : Nat} {l : List Fld} (t : PB B w0 w p h l) (i : Int) (hi : i64 i) (hR : atL (statL ++ l) i = none) : Calls Try.prog 22 #[.pointer (some ⟨p, 0, none⟩), .int .i64 i] w fun e w' => e = .returned (.tuple #[.agg #[.string ⟨#[]⟩, .string ⟨#[]⟩, .bool false], .bool false]) ∧ PB B w0 w' p h l ∧ Below w.heap.size w w' := bAt t i hi _ hR
theorem all_never {l : List Fld} (hl : ∀ f ∈ l, fok f ∧ f.nv = false) : ∀ g ∈ statL ++ l, g.nv = false := by
  intro g hg
  rcases List.mem_append.1 hg with hg | hg
  · exact statL_never g hg
  · exact (hl g hg).2
set_option maxRecDepth 100000 in
set_option maxHeartbeats 8000000 in
theorem lawFinds {w : World} (m : Int) (hm : i64 m) {A : Option Addr} {n c : Nat} {l : List Fld} (s : FldsIn w A n c l) (f : Fld) (hf : fok f) :
    Calls Try.prog 9 #[.int .i64 m, .slice A n c, .agg #[.string f.n, .string f.v, .bool f.nv]] w fun e w' => e = .returned (.bool true) ∧ Below w.heap.size w w' := by
  obtain ⟨h, hh⟩ : ∃ h, clampI m = h := ⟨_, rfl⟩
  have Hh := Lib.hid hh
  have Hs := Lib.hid s
  have Hf := Lib.hid hf
  have hc63 := s.cm
  have hnc := s.nc
  clear hh s hf
  go_enter Try.func9, Try.ntmps9
  go_wp2_with (first
    | (go_at_call 10; (with_reducible refine (shown4 _).mono ?_); rintro e w1 ⟨rfl, b1⟩
       have B1 := Lib.hid (((Below.refl w.heap.size w).alloc (Nat.le_refl _) _).trans (b1.mono (by simp)))
       have V1 := Lib.hid ((Blk.new w 23 [.string f.n, .string f.v, .bool f.nv]).below b1 (by simp))
       have hw1 : w.heap.size < w1.heap.size := by have := b1.size; simp at this; omega
       clear b1)
    | (go_at_call 15; (with_reducible refine (bNew (B := w1.heap.size) (w0 := w1) m hm (Nat.le_refl _) (Below.refl _ _)).mono ?_); rintro e w2 ⟨p, rfl, t2⟩; rw [Hh.out] at t2; have T2 := Lib.hid t2; clear t2))
  obtain ⟨M, hM⟩ : ∃ M, min n 40 = M := ⟨_, rfl⟩
  have hM1 : M ≤ n := by omega
  have hM2 : M ≤ 40 := by omega
  have HM := Lib.hid hM
  clear hM
  go_loopg [9] M (fun gh i w' => ∃ (k : Nat) (L : List Fld), gh + k = M ∧ i = .int .i64 (k : Int) ∧ PB w1.heap.size w1 w' p h L)
  case atStart => exact ⟨0, [], by omega, rfl, T2.out⟩
  case round =>
    obtain ⟨k, L, hk, rfl, ht⟩ := hrel
    have HT := Lib.hid ht
    have hbel := B1.out.trans (ht.below.mono (by omega))
    have HBel := Lib.hid hbel
    have S2 := Lib.hid (Hs.out.rd.below hbel)
    clear hbel ht
    cases gk with
    | succ g1 =>
      have hkn : k < n := by omega
      obtain ⟨x, hx⟩ : ∃ x, l[k]? = some x := ⟨_, List.getElem?_eq_getElem (by rw [Hs.out.len]; exact hkn)⟩
      obtain ⟨b, o, rfl, d0, d1, d2⟩ := rd_fld S2.out hx
      have hxo := Hs.out.ok x (List.mem_of_getElem? hx)
      have HXo := Lib.hid hxo
      have k1 : (k : Int) < (n : Int) := by omega
      have k2 : (k : Int) < 40 := by omega
      have k3 : decide (k < n) = true := decide_eq_true hkn
      clear hx hxo
      go_wp2_with (first
        | (go_at_call 18; (with_reducible refine (bAdd HT.out x HXo.out _ rfl).mono ?_); rintro e w3 ⟨rfl, t3⟩; have T3 := Lib.hid t3; clear t3))
      go_roundg g1
      case measure => omega
      case rel => exact ⟨k + 1, _, by omega, by go_num, T3.out⟩
    | zero =>
      obtain rfl : k = M := by omega
      obtain ⟨q, hq⟩ : ∃ q, L.length = q := ⟨_, rfl⟩
      have hqs := HT.out.small
      rw [hq] at hqs
      have Hq := Lib.hid hq
      obtain ⟨R1, R2, hR⟩ : ∃ R1 R2, findF (statL ++ L) f = (R1, R2) := ⟨_, _, rfl⟩
      have HR := Lib.hid hR
      obtain ⟨hr1, hr2⟩ := find_le hR
      rw [List.length_append, statL_length, hq] at hr1
      have hr0 : ¬ (R1 : Int) < 0 := by omega
      have hr3 : ¬ (61 : Int) + (q : Int) < (R1 : Int) := by omega
      have Hr2 := Lib.hid hr2
      have V2 := Lib.hid (V1.out.below HT.out.below hw1)
      have v0 := V2.out.cell 0
      have v1 := V2.out.cell 1
      have v2 := V2.out.cell 2
      simp only [List.getElem?_cons_zero, List.getElem?_cons_succ] at v0 v1 v2
      have hcase : (decide (k < n) = false) ∨ ((k : Int) < (n : Int) ∧ ¬ (k : Int) < 40 ∧ decide (k < n) = true) := by
        have := HM.out
        by_cases h1 : k < n
        · exact .inr ⟨by omega, by omega, decide_eq_true h1⟩
        · exact .inl (decide_eq_false h1)
      clear hq hR hr2
      go_upto_region 6 with (fail)
      go_cut [32] (fun s wx => s = .bool false ∧ wx = wr)
      case first =>
        rcases hcase with hk1 | ⟨hk1, hk2, hk3⟩
        all_goals
          go_wp2
          go_meet
          case rel => exact ⟨rfl, rfl⟩
      case rest =>
        obtain ⟨rfl, rfl⟩ := hcut
        clear hcase
        go_upto_region 10 with (first
          | (go_at_call 24; (with_reducible refine (bFind HT.out f Hf.out R1 R2 HR.out).mono ?_); rintro e w3 ⟨rfl, t3, b3⟩; have T3 := Lib.hid t3; have V3 := Lib.hid (V2.out.below b3 (Blk.lt V2.out)); clear t3 b3))
        clear v0 v1 v2
        go_cut [62] (fun s wx => s = .bool false ∧ wx = w3)
        case first =>
          by_cases h0 : R1 = 0
          · subst h0
            have e2 := Hr2.out rfl
            subst e2
            go_wp2_with (first
              | (go_at_call 29; (with_reducible refine (bLen_q T3.out q Hq.out).mono ?_); rintro e w4 ⟨rfl, rfl⟩))
            go_meet
            case rel => exact ⟨rfl, rfl⟩
          · have e1 : ((R1 : Int) == 0) = false := by simp; omega
            have e3 : decide ((R1 : Int) < 0) = false := by rw [decide_eq_false_iff_not]; omega
            have e4 : decide ((61 : Int) + (q : Int) < (R1 : Int)) = false := by rw [decide_eq_false_iff_not]; omega
            go_wp2_with (first
              | (go_at_call 29; (with_reducible refine (bLen_q T3.out q Hq.out).mono ?_); rintro e w4 ⟨rfl, rfl⟩))
            go_meet
            case rel => exact ⟨rfl, rfl⟩
        case rest =>
          obtain ⟨rfl, rfl⟩ := hcut
          go_wp2
          obtain ⟨N, hN⟩ : ∃ N, min (61 + q) 299 = N := ⟨_, rfl⟩
          have HN := Lib.hid hN
          have hN1 : N ≤ 299 := by omega
          clear hN
          go_loopg [12] N (fun gh i w' => ∃ j : Nat, gh + j = N + 1 ∧ 1 ≤ j ∧ i = .int .i64 (j : Int) ∧ PB w1.heap.size w1 w' p h L)
          case atStart => exact ⟨1, by omega, by omega, rfl, T3.out⟩
          case round =>
            obtain ⟨j, hj, hj1, rfl, ht⟩ := hrel
            have HT4 := Lib.hid ht
            have V4 := Lib.hid (V1.out.below ht.below hw1)
            clear ht
            cases gk with
            | succ g1 =>
              have hjN : j ≤ 61 + q ∧ j < 300 := by have := HN.out; omega
              have k1 : (j : Int) ≤ (61 : Int) + (q : Int) := by omega
              have k1' : decide ((j : Int) ≤ (61 : Int) + (q : Int)) = true := decide_eq_true k1
              have k2 : (j : Int) < 300 := by omega
              have hji : i64 (j : Int) := by unfold i64; omega
              obtain ⟨x, hx⟩ : ∃ x, (statL ++ L)[j - 1]? = some x := ⟨_, List.getElem?_eq_getElem (by rw [List.length_append, statL_length, Hq.out]; omega)⟩
              have hxn := all_never HT4.out.ok x (List.mem_of_getElem? hx)
              obtain ⟨b1, hb1⟩ : ∃ b1, (x.n.toList == f.n.toList) = b1 := ⟨_, rfl⟩
              obtain ⟨b2, hb2⟩ : ∃ b2, (x.v.toList == f.v.toList) = b2 := ⟨_, rfl⟩
              have hok := find_ok HR.out hj1 hx hb1 hb2
              have hat : atL (statL ++ L) (j : Int) = some ⟨x.n, x.v, false⟩ := by
                unfold atL
                rw [if_neg (by rw [List.length_append, statL_length, Hq.out]; omega), show ((j : Int) - 1).toNat = j - 1 by omega, hx, ← hxn]
              have Hat := Lib.hid hat
              have Hok := Lib.hid hok
              clear hat hx hxn hok
              go_upto_region 16 with (first
                | (go_at_call 29; (with_reducible refine (bLen_q HT4.out q Hq.out).mono ?_); rintro e w4 ⟨rfl, rfl⟩)
                | (go_at_call 22; (with_reducible refine (bAt_f HT4.out (j : Int) hji x.n x.v Hat.out).mono ?_); rintro e w5 ⟨rfl, t5, b5⟩; have T5 := Lib.hid t5; have V5 := Lib.hid (V4.out.below b5 (Blk.lt V4.out)); clear t5 b5))
              have hlt5 : w.heap.size < w5.heap.size := Blk.lt V5.out
              have v0 := V5.out.cell 0
              have v1 := V5.out.cell 1
              simp only [List.getElem?_cons_zero, List.getElem?_cons_succ] at v0 v1
              go_cut [15] (fun s wx => s = .bool (b1 && b2) ∧ wx = w5.alloc (.cells #[.string x.n, .string x.v, .bool false] 23))
              case first =>
                cases b1
                · go_wp2
                  go_meet
                  case rel => exact ⟨rfl, rfl⟩
                · cases b2
                  · go_wp2
                    go_meet
                    case rel => exact ⟨rfl, rfl⟩
                  · go_wp2
                    go_meet
                    case rel => exact ⟨rfl, rfl⟩
              case rest =>
                obtain ⟨rfl, rfl⟩ := hcut
                have hok := Hok.out
                unfold FOk at hok
                clear Hok
                generalize hbw : (b1 && b2) = bw at hok ⊢
                obtain ⟨ok1, ok2, ok3⟩ := hok
                have Ok1 := Lib.hid ok1
                have Ok2 := Lib.hid ok2
                have Ok3 := Lib.hid ok3
                clear ok1 ok2 ok3 hb2 hbw
                go_upto_region 17 with (fail)
                go_cut [112] (fun s wx => s = .bool false ∧ wx = w5.alloc (.cells #[.string x.n, .string x.v, .bool false] 23))
                case first =>
                  by_cases hlt : j < R1
                  · obtain ⟨hw, hn⟩ := Ok1.out hlt
                    have kl : decide (j < R1) = true := decide_eq_true hlt
                    have Hn := Lib.hid hn
                    clear hn
                    subst hw
                    cases R2
                    · have e := Hn.out rfl
                      subst e
                      go_wp2
                      go_meet
                      case rel => exact ⟨rfl, rfl⟩
                    · go_wp2
                      go_meet
                      case rel => exact ⟨rfl, rfl⟩
                  · have kl : decide (j < R1) = false := decide_eq_false hlt
                    go_wp2
                    go_meet
                    case rel => exact ⟨rfl, rfl⟩
                case rest =>
                  obtain ⟨rfl, rfl⟩ := hcut
                  go_upto_region 19 with (fail)
                  go_cut [150] (fun s wx => s = .bool false ∧ wx = w5.alloc (.cells #[.string x.n, .string x.v, .bool false] 23))
                  case first =>
                    rcases Nat.lt_trichotomy j R1 with hlt | hlt | hlt
                    · have e1 : ((j : Int) == (R1 : Int)) = false := by simp; omega
                      have e2 : decide (R1 < j) = false := by rw [decide_eq_false_iff_not]; omega
                      go_wp2
                      go_meet
                      case rel => exact ⟨rfl, rfl⟩
                    · obtain ⟨hw, hn⟩ := Ok2.out hlt
                      subst hw hn
                      have e1 : ((j : Int) == (R1 : Int)) = true := by simp; omega
                      have e2 : decide (R1 < j) = false := by rw [decide_eq_false_iff_not]; omega
                      clear hlt
                      go_wp2
                      go_meet
                      case rel => exact ⟨rfl, rfl⟩
                    · obtain ⟨hw, hn⟩ := Ok3.out hlt
                      have Hw := Lib.hid hw
                      have Hn := Lib.hid hn
                      have e1 : ((j : Int) == (R1 : Int)) = false := by simp; omega
                      have e2 : decide (R1 < j) = true := decide_eq_true hlt
                      have e3 : (R1 : Int) < (j : Int) := by omega
                      clear hw hn
                      by_cases h0 : R1 = 0
                      · have hb := Hn.out h0
                        have hR0 := Hr2.out h0
                        subst hb hR0
                        have hw := Hw.out rfl
                        subst hw
                        subst h0
                        go_wp2
                        go_meet
                        case rel => exact ⟨rfl, rfl⟩
                      · have e4 : ((R1 : Int) == 0) = false := by simp; omega
                        cases R2
                        · have hw := Hw.out rfl
                          subst hw
                          go_wp2
                          go_meet
                          case rel => exact ⟨rfl, rfl⟩
                        · cases bw
                          · go_wp2
                            go_meet
                            case rel => exact ⟨rfl, rfl⟩
                          · go_wp2
                            go_meet
                            case rel => exact ⟨rfl, rfl⟩
                  case rest =>
                    obtain ⟨rfl, rfl⟩ := hcut
                    go_wp2
                    go_roundg g1
                    case measure => omega
                    case rel => exact ⟨j + 1, by omega, by omega, by go_num, T5.out.alloc _⟩
            | zero =>
              have hz : i64 0 := by unfold i64; omega
              have hz2 : i64 (62 + (q : Int)) := by unfold i64; omega
              have ha0 : atL (statL ++ L) 0 = none := by unfold atL; rw [if_pos (by omega)]
              have ha1 : atL (statL ++ L) (62 + (q : Int)) = none := by unfold atL; rw [if_pos (by rw [List.length_append, statL_length, Hq.out]; omega)]
              have Ha0 := Lib.hid ha0
              have Ha1 := Lib.hid ha1
              have hcase : decide ((j : Int) ≤ (61 : Int) + (q : Int)) = false ∨ (decide ((j : Int) ≤ (61 : Int) + (q : Int)) = true ∧ ¬ (j : Int) < 300) := by
                have := HN.out
                by_cases h1 : (j : Int) ≤ (61 : Int) + (q : Int)
                · exact .inr ⟨decide_eq_true h1, by omega⟩
                · exact .inl (decide_eq_false h1)
              clear ha0 ha1
              rcases hcase with h1 | ⟨h1, h2⟩
              all_goals
                go_wp2_with (first
                  | (go_at_call 29; (with_reducible refine (bLen_q HT4.out q Hq.out).mono ?_); rintro e w4 ⟨rfl, rfl⟩)
                  | (go_at_call 22; (with_reducible refine (bAt_no HT4.out 0 hz Ha0.out).mono ?_); rintro e w6 ⟨rfl, t6, b6⟩; have T6 := Lib.hid (t6.alloc (.cells #[.string ⟨#[]⟩, .string ⟨#[]⟩, .bool false] 23)); clear t6 b6)
                  | (go_at_call 29; (with_reducible refine (bLen_q T6.out q Hq.out).mono ?_); rintro e w7 ⟨rfl, rfl⟩)
                  | (go_at_call 22; (with_reducible refine (bAt_no T6.out (62 + (q : Int)) hz2 Ha1.out).mono ?_); rintro e w8 ⟨rfl, t8, b8⟩; have T8 := Lib.hid t8; clear t8 b8))
                go_ret
                have hB8 := B1.out.trans (T8.out.below.mono (Nat.le_of_lt hw1))
                exact ⟨rfl, hB8.alloc hB8.size _⟩
end Go.Proofs.Ytefjjmhbbcganaa
