/- The law SchedIdle: the walk. -/
import Derived.Test.YtbjjphpkpmikjaaKiW
import Derived.Test.YtbjjphpkpmikjaaKiE
import Derived.Test.YtbjjphpkpmikjaaKiY
namespace Go.Sch
theorem Gone.start (l : List Fw) (h : l.length ≤ 30) : Gone (qOf l) l.length (List.replicate 30 false) (l.map Fw.en) := by
  refine ⟨by simpa using h, by simp, fun f hf => ?_, fun k hk _ => ?_, qOf_nodup l⟩
  · obtain ⟨k, h1, h2⟩ := qOf_mem hf
    obtain ⟨h3, _⟩ := List.getElem?_eq_some_iff.1 h2
    exact ⟨k, h3, h1, by rw [List.getElem?_replicate, if_pos (by omega)], by rw [List.getElem?_map, h2]; rfl⟩
  · have := qOf_at l k _ (List.getElem?_eq_getElem hk)
    exact ⟨_, List.mem_of_getElem? this, rfl⟩
theorem atQ_split {id : Nat} {q : List Fl} {f : Fl} (h : atQ id q = some f) : ∃ a b, q = a ++ f :: b ∧ f.id = id ∧ ∀ g ∈ a, g.id ≠ id := by
  obtain ⟨h1, a, b, h2, h3⟩ := List.find?_eq_some_iff_append.1 h
  exact ⟨a, b, h2, by simpa using h1, fun g hg => by simpa using h3 g hg⟩
theorem seen_none {W : Int} {ens : List Bool} {q : List Fl} {k : Nat} (h : atQ (2 * k + 1) q = none) : seen W ens q k = false := by unfold seen; rw [h]
theorem seen_some {W : Int} {ens : List Bool} {q : List Fl} {k : Nat} {f : Fl} {e : Bool} (h : atQ (2 * k + 1) q = some f) (he : ens[k]? = some e) : seen W ens q k = ((decide (0 < f.wait) && decide (0 < f.win) && decide (0 < W)) || (decide (f.wait = 0) && e)) := by unfold seen; rw [h, he]; rfl
end Go.Sch
namespace Go.Proofs.Ytbjjphpkpmikjaa
open Go.RowKit Go.Own Go.Sch
set_option linter.unusedVariables false
set_option linter.unusedSimpArgs false
set_option maxRecDepth 100000
abbrev ff30 : Array Value := #[.bool false, .bool false, .bool false, .bool false, .bool false, .bool false, .bool false, .bool false, .bool false, .bool false, .bool false, .bool false, .bool false, .bool false, .bool false, .bool false, .bool false, .bool false, .bool false, .bool false, .bool false, .bool false, .bool false, .bool false, .bool false, .bool false, .bool false, .bool false, .bool false, .bool false]
def bv (b : Bool) : Value := .bool b
theorem bv_at {l : List Bool} {k : Nat} {x : Bool} (h : l[k]? = some x) : (l.map bv)[k]? = some (.bool x) := by rw [List.getElem?_map, h]; rfl
theorem bv_set (l : List Bool) (k : Nat) (x : Bool) : (l.map bv).set k (.bool x) = (l.set k x).map bv := by rw [List.map_set]; rfl
section
variable {S : Nat → Prop} {w0 w : World} {fl : List Fw} {L : List Ob} {O : Ob} {N d : Nat}
theorem flow_from {A : Option Addr} (s : St S w0 w (O :: QO 32 3 (.slice A N d) N (wcells fl) :: L)) (hN : 0 < N) : ∃ b o, A = some ⟨b, o, none⟩ := by
  obtain ⟨X, h, _⟩ := St.focus1 s
  obtain ⟨n, rfl⟩ : ∃ n, N = n + 1 := ⟨N - 1, by omega⟩
  obtain ⟨b, o, c, he, _⟩ := Qu.nonempty h
  injection he with he1 _ _
  exact ⟨b, o, he1⟩
theorem flow_cell {b o k j : Nat} {x : Fw} {u : Value} (s : St S w0 w (O :: QO 32 3 (.slice (some ⟨b, o, none⟩) N d) N (wcells fl) :: L)) (hx : fl[k]? = some x) (hj : j < 3) (hu : (wcell x)[j]? = some u := by rfl) :
    w.cell? ⟨b, o + (k * 3 + j), none⟩ = some u ∧ b < w.heap.size := by
  obtain ⟨X, h, _⟩ := St.focus1 s
  exact h.at_ (by rw [wcells_at fl k x j hx hj]; exact hu)
end
def a7f (z : Int) : Nat := (bits .and .i64 z 127).toNat
theorem a7f_eq (z : Int) : bits .and .i64 z 127 = (a7f z : Int) ∧ a7f z ≤ 127 := by
  have := and_k z 127 (by decide) 127 rfl
  unfold a7f
  omega
set_option maxHeartbeats 32000000 in
theorem lawIdle {w0 : World} {A : Option Addr} {n c : Nat} {l : List Rw} (most drain : Int) (hr : Rd w0 3 A n (rcells l)) (hn : l.length = n) :
    Calls Try.prog 6 #[.int .i64 most, .slice A n c, .int .i64 drain] w0 fun e w' => e = .returned (.bool true) ∧ Below w0.heap.size w0 w' := by
  obtain ⟨M, hM⟩ : ∃ M, a7f drain = M := ⟨_, rfl⟩
  have m1 := a7f_eq drain
  rw [hM] at m1
  obtain ⟨m1, m2⟩ := m1
  obtain ⟨fl, hfl⟩ : ∃ fl, flowsOf l = fl := ⟨_, rfl⟩
  obtain ⟨N, hN⟩ : ∃ N, fl.length = N := ⟨_, rfl⟩
  obtain ⟨F, hF⟩ : ∃ F, frV most = F := ⟨_, rfl⟩
  have hok := flowsOf_ok l most
  rw [hF, hfl] at hok
  have hN30 : N ≤ 30 := by rw [← hN, ← hfl, flowsOf_length]; omega
  have hg0 := Gone.start fl (by rw [hN]; exact hN30)
  rw [hN] at hg0
  have HF := Lib.hid hF
  have HNl := Lib.hid hN
  have HFl := Lib.hid hfl
  have HR := Lib.hid hr
  have Hn := Lib.hid hn
  have HOk0 : Hid (SdOk (qOf fl) 65535 F ∧ (0 : Int) ≤ 65535 ∧ (qOf fl).length ≤ N) := ⟨hok, by omega, by rw [qOf_length, hN]; exact Nat.le_refl _⟩
  have HG0 : Hid (Gone (qOf fl) N (List.replicate 30 false) (fl.map Fw.en) ∧ (List.replicate 30 false).length = 30) := ⟨hg0, rfl⟩
  have HN30 := Lib.hid hN30
  clear hM hN hr hn hfl hok hg0 hF hN30
  go_enter Try.func6, Try.ntmps6
  go_upto_region 5 with (first
    | (go_at_call 8; (with_reducible refine (shown_c _).mono ?_); rintro e w1 ⟨rfl, hb1⟩
       have HB1 := Lib.hid hb1
       have HR1 := Lib.hid (HR.out.below hb1)
       clear hb1)
    | (go_at_call 9; (with_reducible refine (put_c HR1.out Hn.out most F HF.out).mono ?_); rintro e w2 ⟨p, Af, df, rfl, t2⟩
       rw [HFl.out, HNl.out] at t2 ⊢
       have T2 := Lib.hid t2
       clear t2))
  go_wp2
  obtain ⟨r, hr⟩ : ∃ r, w2.heap.size = r := ⟨_, rfl⟩
  have t4 : St (fun _ => False) w1 (w2.alloc (.cells ff30 50)) [SO p [] (qOf fl) 65535 F, QO 32 3 (.slice Af N df) N (wcells fl), BLo r 50 ((List.replicate 30 false).map bv)] := by
    have h1 := St.block T2.out 50 ((List.replicate 30 false).map bv)
    rw [hr] at h1
    exact h1
  rw [hr]
  obtain ⟨W4, hW4⟩ : ∃ W4, (w2.alloc (.cells ff30 50)) = W4 := ⟨_, rfl⟩
  rw [hW4] at t4 ⊢
  have T4 := Lib.hid t4
  clear t4 hW4 hr T2
  go_loopg [11] M (fun gh i wr => ∃ (k : Nat) (q : List Fl) (W : Int) (gone : List Bool), gh + k = M ∧ i = .int .i64 k ∧ Hid (SdOk q W F ∧ 0 ≤ W ∧ q.length ≤ N) ∧ Hid (Gone q N gone (fl.map Fw.en) ∧ gone.length = 30) ∧
    Hid (St (fun _ => False) w1 wr [SO p [] q W F, QO 32 3 (.slice Af N df) N (wcells fl), BLo r 50 (gone.map bv)]))
  case atStart => exact ⟨0, _, _, _, by omega, rfl, HOk0.out, HG0.out, T4.out⟩
  case round =>
    obtain ⟨k, q, W, gone, hgk, rfl, HOk, HG, HS⟩ := hrel
    clear T4 HOk0 HG0
    cases gk with
    | zero =>
      obtain rfl : k = M := by omega
      clear hgk
      go_wp2
      go_loopg [15, 14] N (fun gh i mv wr => ∃ (y : Nat), gh + y = N ∧ i = .int .i64 y ∧ mv = .bool ((List.range y).any (Sch.seen W (fl.map Fw.en) q)) ∧
        Hid (St (fun _ => False) w1 wr [SO p [] q W F, QO 32 3 (.slice Af N df) N (wcells fl), BLo r 50 (gone.map bv)]))
      case atStart => exact ⟨0, by omega, rfl, rfl, HS.out⟩
      case round =>
        clear HS
        obtain ⟨y, hgy, rfl, rfl, HS⟩ := hrel
        have HN8 : Hid (nextQ W F (8 : Int).toNat q = none) := nextQ_few (by decide)
        have HC8 : Hid ((-9223372036854775808 : Int) ≤ 8 ∧ (8 : Int) ≤ 9223372036854775807) := by unfold Hid; decide
        have HC10 : Hid ((-9223372036854775808 : Int) ≤ 10 ∧ (10 : Int) ≤ 9223372036854775807) := by unfold Hid; decide
        cases gk with
        | zero =>
          obtain rfl : y = N := by omega
          have hmay := HG.out.1.any W
          have hany := nextQ_any (W := W) (F := F) (cap := (10 : Int).toNat) (q := q) (by decide)
          rw [← hany] at hmay
          rw [hmay]
          clear hgy hmay hany
          rcases hnx : nextQ W F (10 : Int).toNat q with _ | ⟨id, nn, z, q'⟩
          · have HNx := Lib.hid hnx
            clear hnx
            go_upto_region 22 with (first
              | (go_at_call 11; (with_reducible refine (next_none HS.out HOk.out.1 8 HC8.out HN8.out).mono ?_); rintro e w6 ⟨rfl, t6⟩
                 have T6 := Lib.hid (t6.alloc (.cells #[.slice none 0 0, .int .i64 0, .int .i64 0, .bool false] 35))
                 clear t6)
              | (go_at_call 11; (with_reducible refine (next_none T6.out HOk.out.1 10 HC10.out HNx.out).mono ?_); rintro e w7 ⟨rfl, t7⟩
                 have T7 := Lib.hid (t7.alloc (.cells #[.slice none 0 0, .int .i64 0, .int .i64 0, .bool false] 35))
                 have b7 := Blk.new w7 35 [.slice none 0 0, .int .i64 0, .int .i64 0, .bool false]
                 clear t7))
            go_wp2
            go_ret
            exact ⟨rfl, HB1.out.trans (T7.out.below.mono HB1.out.size)⟩
          · have HNx := Lib.hid hnx
            obtain ⟨W', hW'⟩ : ∃ W', W - (nn : Int) = W' := ⟨_, rfl⟩
            have HWW := Lib.hid hW'
            clear hnx hW'
            go_upto_region 22 with (first
              | (go_at_call 11; (with_reducible refine (next_none HS.out HOk.out.1 8 HC8.out HN8.out).mono ?_); rintro e w6 ⟨rfl, t6⟩
                 have T6 := Lib.hid (t6.alloc (.cells #[.slice none 0 0, .int .i64 0, .int .i64 0, .bool false] 35))
                 clear t6)
              | (go_at_call 11; (with_reducible refine (next_some T6.out HOk.out.1 10 HC10.out id nn z q' HNx.out W' HWW.out).mono ?_); rintro e w7 ⟨rfl, t7⟩
                 have T7 := Lib.hid (t7.alloc (.cells #[.slice none 0 0, .int .i64 (id : Int), .int .i64 (nn : Int), .bool z] 35))
                 clear t7))
            go_wp2
            go_ret
            exact ⟨rfl, HB1.out.trans (T7.out.below.mono HB1.out.size)⟩
        | succ g2 =>
          have hyN : y < N := by omega
          have hyi : (y : Int) < (N : Int) := by omega
          have hy30 : (y : Int) < 30 := by have := HN30.out; omega
          obtain ⟨x, hx⟩ : ∃ x, fl[y]? = some x := ⟨_, List.getElem?_eq_getElem (by rw [HNl.out]; exact hyN)⟩
          have hen : (fl.map Fw.en)[y]? = some x.en := by rw [List.getElem?_map, hx]; rfl
          obtain ⟨mv, hmv⟩ : ∃ mv, (List.range y).any (Sch.seen W (fl.map Fw.en) q) = mv := ⟨_, rfl⟩
          rw [hmv]
          have hgn := HG.out.1.there hyN
          have i1 : IntKind.i64.wrap (2 * (y : Int)) = 2 * (y : Int) := w64 (by omega) (by omega)
          have i2 : IntKind.i64.wrap (2 * (y : Int) + 1) = 2 * (y : Int) + 1 := w64 (by omega) (by omega)
          have i4 : IntKind.i64.wrap ((y : Int) + 1) = (y : Int) + 1 := w64 (by omega) (by omega)
          have HLq : Hid (q.length ≤ 1000) := HOk.out.1.len
          have HMv := Lib.hid hmv
          clear hmv
          cases ha : atQ (2 * y + 1) q with
          | none =>
            have hsn : Sch.seen W (fl.map Fw.en) q y = false := seen_none ha
            have HSn := Lib.hid hsn
            have HNo : Hid (∀ f ∈ q, (f.id : Int) ≠ 2 * (y : Int) + 1) := fun f hf e => atQ_none ha f hf (by omega)
            rw [ha] at hgn
            simp only [Option.isSome_none, Bool.not_false] at hgn
            have HGn := Lib.hid hgn
            clear hsn ha hgn
            cases mv with
            | false =>
              go_wp2_with (first
                | (go_at_call 18; (with_reducible refine (wait_none HS.out HLq.out _ HNo.out).mono ?_); rintro e w6 ⟨rfl, t6⟩
                   have bt := St.blk2 t6
                   have b0 := bt.cell y
                   rw [bv_at HGn.out] at b0
                   have bl := bt.lt
                   have T6 := Lib.hid t6
                   clear t6 bt))
              go_roundg g2
              case measure => omega
              case rel => exact ⟨y + 1, by omega, by go_num, by rw [any_succ, HMv.out, HSn.out]; rfl, T6.out⟩
            | true =>
              go_wp2_with (first
                | (go_at_call 18; (with_reducible refine (wait_none HS.out HLq.out _ HNo.out).mono ?_); rintro e w6 ⟨rfl, t6⟩
                   have bt := St.blk2 t6
                   have b0 := bt.cell y
                   rw [bv_at HGn.out] at b0
                   have bl := bt.lt
                   have T6 := Lib.hid t6
                   clear t6 bt))
              go_roundg g2
              case measure => omega
              case rel => exact ⟨y + 1, by omega, by go_num, by rw [any_succ, HMv.out]; rfl, T6.out⟩
          | some f =>
            have hsn := seen_some (W := W) ha hen
            obtain ⟨ql, qr, hq, hid, hna⟩ := atQ_split ha
            rw [ha] at hgn
            simp only [Option.isSome_some, Bool.not_true] at hgn
            have HGn := Lib.hid hgn
            have HQ := Lib.hid hq
            have HId : Hid ((f.id : Int) = 2 * (y : Int) + 1) := by unfold Hid; omega
            have HNa : Hid (∀ g ∈ ql, (g.id : Int) ≠ 2 * (y : Int) + 1) := fun g hg e => hna g hg (by omega)
            obtain ⟨fw, hfw⟩ : ∃ fw, f.wait = fw := ⟨_, rfl⟩
            obtain ⟨fv, hfv⟩ : ∃ fv, f.win = fv := ⟨_, rfl⟩
            obtain ⟨en, hen2⟩ : ∃ en, x.en = en := ⟨_, rfl⟩
            rw [hfw, hfv, hen2] at hsn
            have HFw := Lib.hid hfw
            have HFv := Lib.hid hfv
            obtain ⟨b, o, rfl⟩ := flow_from HS.out (by omega)
            have HFc : Hid (∀ w', St (fun _ => False) w1 w' [SO p [] q W F, QO 32 3 (.slice (some ⟨b, o, none⟩) N df) N (wcells fl), BLo r 50 (gone.map bv)] → w'.cell? ⟨b, o + y * 3 + 2, none⟩ = some (.bool en) ∧ b < w'.heap.size) := fun w' s' => by
              rw [Nat.add_assoc]
              obtain ⟨h1, h2⟩ := flow_cell s' (j := 2) hx (by omega)
              rw [← hen2]
              exact ⟨h1, h2⟩
            clear ha hgn hid hna hq hfw hfv hen hx hen2
            have key : mv = true ∨ (mv = false ∧ (fw = 0 ∨ (0 < fw ∧ (fv ≤ 0 ∨ (0 < fv ∧ (W ≤ 0 ∨ 0 < W)))))) := by
              rcases Bool.eq_false_or_eq_true mv with h | h
              · exact .inl h
              · exact .inr ⟨h, by omega⟩
            rcases key with rfl | ⟨rfl, rfl | ⟨k1, k2 | ⟨k2, k3 | k3⟩⟩⟩
            · clear hsn
              go_wp2_with (first
                | (go_at_call 18; (with_reducible refine (wait_some HS.out HLq.out _ HQ.out HId.out HNa.out fw fv HFw.out HFv.out).mono ?_); rintro e w6 ⟨rfl, t6⟩
                   have bt := St.blk2 t6
                   have b0 := bt.cell y
                   rw [bv_at HGn.out] at b0
                   have bl := bt.lt
                   have T6 := Lib.hid t6
                   clear t6 bt))
              go_roundg g2
              case measure => omega
              case rel => exact ⟨y + 1, by omega, by go_num, by rw [any_succ, HMv.out]; rfl, T6.out⟩
            · have hs2 : Sch.seen W (fl.map Fw.en) q y = en := by rw [hsn]; simp
              have HSn := Lib.hid hs2
              clear hsn hs2
              go_wp2_with (first
                | (go_at_call 18; (with_reducible refine (wait_some HS.out HLq.out _ HQ.out HId.out HNa.out 0 fv HFw.out HFv.out).mono ?_); rintro e w6 ⟨rfl, t6⟩
                   have bt := St.blk2 t6
                   have b0 := bt.cell y
                   rw [bv_at HGn.out] at b0
                   have bl := bt.lt
                   obtain ⟨c1, cl⟩ := HFc.out _ t6
                   have T6 := Lib.hid t6
                   clear t6 bt))
              go_roundg g2
              case measure => omega
              case rel => exact ⟨y + 1, by omega, by go_num, by rw [any_succ, HMv.out, HSn.out]; simp, T6.out⟩
            · have hs2 : Sch.seen W (fl.map Fw.en) q y = false := by
                rw [hsn, decide_eq_false (show ¬ 0 < fv by omega), decide_eq_false (show ¬ fw = 0 by omega)]; simp
              have HSn := Lib.hid hs2
              have e1 : (0 : Int) < (fw : Int) := by omega
              have e2 : ¬ (0 : Int) < fv := by omega
              have e3 : ¬ (fw : Int) = 0 := by omega
              clear hsn hs2
              go_wp2_with (first
                | (go_at_call 18; (with_reducible refine (wait_some HS.out HLq.out _ HQ.out HId.out HNa.out fw fv HFw.out HFv.out).mono ?_); rintro e w6 ⟨rfl, t6⟩
                   have bt := St.blk2 t6
                   have b0 := bt.cell y
                   rw [bv_at HGn.out] at b0
                   have bl := bt.lt
                   have T6 := Lib.hid t6
                   clear t6 bt))
              go_roundg g2
              case measure => omega
              case rel => exact ⟨y + 1, by omega, by go_num, by rw [any_succ, HMv.out, HSn.out]; rfl, T6.out⟩
            · have hs2 : Sch.seen W (fl.map Fw.en) q y = false := by
                rw [hsn, decide_eq_false (show ¬ 0 < W by omega), decide_eq_false (show ¬ fw = 0 by omega)]; simp
              have HSn := Lib.hid hs2
              have e1 : (0 : Int) < (fw : Int) := by omega
              have e2 : ¬ (0 : Int) < W := by omega
              have e3 : ¬ (fw : Int) = 0 := by omega
              clear hsn hs2
              go_wp2_with (first
                | (go_at_call 18; (with_reducible refine (wait_some HS.out HLq.out _ HQ.out HId.out HNa.out fw fv HFw.out HFv.out).mono ?_); rintro e w6 ⟨rfl, t6⟩
                   have bt := St.blk2 t6
                   have b0 := bt.cell y
                   rw [bv_at HGn.out] at b0
                   have bl := bt.lt
                   have T6 := Lib.hid t6
                   clear t6 bt)
                | (go_at_call 12; (with_reducible refine (window_c T6.out).mono ?_); rintro e w7 ⟨rfl, hw7⟩; subst hw7))
              go_roundg g2
              case measure => omega
              case rel => exact ⟨y + 1, by omega, by go_num, by rw [any_succ, HMv.out, HSn.out, decide_eq_false (show ¬ 0 < W by omega)]; rfl, T6.out⟩
            · have hs2 : Sch.seen W (fl.map Fw.en) q y = true := by
                rw [hsn, decide_eq_true k1, decide_eq_true k2, decide_eq_true k3]; simp
              have HSn := Lib.hid hs2
              have e1 : (0 : Int) < (fw : Int) := by omega
              have e3 : ¬ (fw : Int) = 0 := by omega
              clear hsn hs2
              go_wp2_with (first
                | (go_at_call 18; (with_reducible refine (wait_some HS.out HLq.out _ HQ.out HId.out HNa.out fw fv HFw.out HFv.out).mono ?_); rintro e w6 ⟨rfl, t6⟩
                   have bt := St.blk2 t6
                   have b0 := bt.cell y
                   rw [bv_at HGn.out] at b0
                   have bl := bt.lt
                   have T6 := Lib.hid t6
                   clear t6 bt)
                | (go_at_call 12; (with_reducible refine (window_c T6.out).mono ?_); rintro e w7 ⟨rfl, hw7⟩; subst hw7))
              go_roundg g2
              case measure => omega
              case rel => exact ⟨y + 1, by omega, by go_num, by rw [any_succ, HMv.out, HSn.out]; rfl, T6.out⟩
    | succ g1 =>
      have hkM : (k : Int) < (M : Int) := by omega
      have i3 : IntKind.i64.wrap ((k : Int) + 1) = (k : Int) + 1 := w64 (by omega) (by omega)
      have HCap : Hid ((-9223372036854775808 : Int) ≤ 5000 ∧ (5000 : Int) ≤ 9223372036854775807) := by unfold Hid; decide
      rcases hnx : nextQ W F (5000 : Int).toNat q with _ | ⟨id, nn, z, q'⟩
      · have HNx := Lib.hid hnx
        clear hnx
        go_upto_region 10 with (first
          | (go_at_call 11; (with_reducible refine (next_none HS.out HOk.out.1 5000 HCap.out HNx.out).mono ?_); rintro e w6 ⟨rfl, t6⟩
             have T6 := Lib.hid (t6.alloc (.cells #[.slice none 0 0, .int .i64 0, .int .i64 0, .bool false] 35))
             clear t6))
        go_wp2
        go_roundg g1
        case measure => omega
        case rel => exact ⟨k + 1, q, W, gone, by omega, by go_num, HOk.out, HG.out, T6.out⟩
      · obtain ⟨s1, s2, s3⟩ := next_small HOk.out.1 HOk.out.2.1 hnx
        obtain ⟨W', hW'⟩ : ∃ W', W - (nn : Int) = W' := ⟨_, rfl⟩
        rw [hW'] at s1 s2
        have HOk2 : Hid (SdOk q' W' F ∧ 0 ≤ W' ∧ q'.length ≤ N) := ⟨s1, s2, Nat.le_trans s3 HOk.out.2.2⟩
        have HNx := Lib.hid hnx
        have HWW := Lib.hid hW'
        clear s1 s2 s3 hW'
        cases z with
        | false =>
          have HG2 : Hid (Gone q' N gone (fl.map Fw.en) ∧ gone.length = 30) := ⟨HG.out.1.keep (by have := HOk.out.1.f1; omega) hnx, HG.out.2⟩
          clear hnx
          go_upto_region 10 with (first
            | (go_at_call 11; (with_reducible refine (next_some HS.out HOk.out.1 5000 HCap.out id nn false q' HNx.out W' HWW.out).mono ?_); rintro e w6 ⟨rfl, t6⟩
               have T6 := Lib.hid (t6.alloc (.cells #[.slice none 0 0, .int .i64 (id : Int), .int .i64 (nn : Int), .bool false] 35))
               clear t6))
          go_wp2
          go_roundg g1
          case measure => omega
          case rel => exact ⟨k + 1, q', W', gone, by omega, by go_num, HOk2.out, HG2.out, T6.out⟩
        | true =>
          obtain ⟨y, hy, hid, hg2⟩ := HG.out.1.out (by have := HOk.out.1.f1; omega) hnx
          have HG2 : Hid (Gone q' N (gone.set y true) (fl.map Fw.en) ∧ (gone.set y true).length = 30) := ⟨hg2, by rw [List.length_set]; exact HG.out.2⟩
          have hy30 : y < 30 := by have := HN30.out; omega
          obtain ⟨idI, hidI⟩ : ∃ idI, ((id : Nat) : Int) = idI := ⟨_, rfl⟩
          have HI1 := Lib.hid hidI
          have q1 : idI.tdiv 2 = (y : Int) := by rw [Int.tdiv_eq_ediv_of_nonneg (by omega)]; omega
          have q2 : idI / 2 = (y : Int) := by omega
          have q3 : (1 : Int) ≤ idI := by omega
          have q4 : idI < 60 := by omega
          have q6 : IntKind.i64.wrap (y : Int) = (y : Int) := w64 (by omega) (by omega)
          have q7 : (y : Int) < 30 := by omega
          have HL30 := Lib.hid HG.out.2
          clear hnx hg2 hid hidI
          go_upto_region 10 with (first
            | (go_at_call 11; (with_reducible refine (nextI HS.out HOk.out.1 5000 HCap.out id nn true q' HNx.out W' HWW.out idI _ HI1.out rfl).mono ?_); rintro e w6 ⟨rfl, t6⟩
               have t6' : St _ _ _ [SO p [] q' W' F, QO 32 3 (.slice Af N df) N (wcells fl), BLo r 50 (gone.map bv), BLo w6.heap.size 35 [.slice none 0 0, .int .i64 idI, .int .i64 (nn : Int), .bool true]] := St.block t6 35 [.slice none 0 0, .int .i64 idI, .int .i64 (nn : Int), .bool true]
               have T6 := Lib.hid t6'
               clear t6 t6'))
          obtain ⟨rp, hrp⟩ : ∃ rp, w6.heap.size = rp := ⟨_, rfl⟩
          rw [hrp] at T6 ⊢
          obtain ⟨W5, hW5⟩ : ∃ W5, w6.alloc (.cells #[.slice none 0 0, .int .i64 idI, .int .i64 (nn : Int), .bool true] 35) = W5 := ⟨_, rfl⟩
          have T5 : Hid (St (fun _ => False) w1 W5 [SO p [] q' W' F, QO 32 3 (.slice Af N df) N (wcells fl), BLo r 50 (gone.map bv), BLo rp 35 [.slice none 0 0, .int .i64 idI, .int .i64 (nn : Int), .bool true]]) := by rw [← hW5]; exact T6.out
          clear T6
          rw [hW5]
          have bp := St.blk3 T5.out
          have p1 := bp.cell 1
          have p3 := bp.cell 3
          have pl := bp.lt
          simp only [List.getElem?_cons_zero, List.getElem?_cons_succ] at p1 p3
          obtain ⟨gb, hgb⟩ : ∃ gb, gone[y]? = some gb := ⟨_, List.getElem?_eq_getElem (by rw [HL30.out]; exact hy30)⟩
          have bt := St.blk2 T5.out
          have b0 := bt.cell y
          rw [bv_at hgb] at b0
          have bl := bt.lt
          have bf := bt.frozen y
          have T7 : Hid (St _ _ _ _) := Lib.hid (St.set2 T5.out y (.bool true))
          rw [bv_set] at T7
          clear bt T5 bp hrp hW5 hgb hy hy30
          go_wp2
          go_roundg g1
          case measure => omega
          case rel => exact ⟨k + 1, q', W', _, by omega, by go_num, HOk2.out, HG2.out, St.drop3 T7.out⟩
theorem lawIdleH {w : World} {A : Option Addr} {n c : Nat} (most : Int) (h : HoldsT Try.prog w 9 22 [.slice A n c]) (drain : Int) :
    Calls Try.prog 6 #[.int .i64 most, .slice A n c, .int .i64 drain] w fun e w' => e = .returned (.bool true) ∧ Below w.heap.size w w' := by
  obtain ⟨l, hr, hn, _⟩ := flows_arg h
  exact lawIdle most drain hr hn
end Go.Proofs.Ytbjjphpkpmikjaa
