/- Several texts in one: Fo2. -/
import Derived.Test.YtokbdkbljgdcpaaDoorY4
import Derived.Test.YtokbdkbljgdcpaaDoorY2
/- A frame's head: check, flagged, unfit, padding. -/
namespace Go.Proofs.YtokbdkbljgdcpaaDoor
open Go.RowKit Go.Own Go.Frm
set_option linter.unusedVariables false
set_option maxRecDepth 100000
theorem bcellD {W w1 : World} (hb : Below W.drew.heap.size W.drew w1) : (∀ b o, b < W.heap.size → w1.cell? ⟨b, o, none⟩ = W.cell? ⟨b, o, none⟩) ∧ (∀ b o, b < W.heap.size → w1.frozen? ⟨b, o, none⟩ = W.frozen? ⟨b, o, none⟩) :=
  ⟨fun b o h => hb.cell (p := ⟨b, o, none⟩) h, fun b o h => hb.frozen (p := ⟨b, o, none⟩) h⟩
theorem below_two {w w1 : World} {a b : Obj} (hb : Below ((w.alloc a).alloc b).drew.heap.size ((w.alloc a).alloc b).drew w1) : Below w.heap.size w w1 :=
  (below_drewN (((Below.refl _ w).alloc (Nat.le_refl _) a).alloc (by simp) b) 1).trans (hb.mono (by show w.heap.size ≤ ((w.alloc a).alloc b).heap.size; simp; omega))
section
variable {w : World}
abbrev ftV (x : Flt) : Value := .agg #[.bool x.is, .int .u32 (x.code : Int), .int .i64 x.stream]
def chkP (n k fl s : Nat) : Flt := bif stray k (s : Int) then conF 1 else bif badSize k fl n then ⟨true, 6, bif k == 2 then (s : Int) else 0⟩ else noF
set_option maxHeartbeats 2000000 in
theorem check_any (n k fl s : Nat) (hG : Gl w) (hn : n < 16777216) (b : Bool) (c : Nat) (z : Int) (hx : chkP n k fl s = ⟨b, c, z⟩) : Calls Tryd.prog 61 #[hdV n k fl s] w fun e w' => e = .returned (.agg #[.bool b, .int .u32 (c : Int), .int .i64 z]) ∧ Below w.heap.size w w' := by
  have HG := Lib.hid hG
  have sf := shf0
  obtain ⟨t, ht⟩ : ∃ t, (!stray k (s : Int)) = t := ⟨_, rfl⟩
  have ht' : stray k (s : Int) = !t := by rw [← ht, Bool.not_not]
  obtain ⟨r, hr⟩ : ∃ r, (!badSize k fl n) = r := ⟨_, rfl⟩
  have hr' : badSize k fl n = !r := by rw [← hr, Bool.not_not]
  unfold chkP at hx
  rw [ht', hr'] at hx
  have Ht := Lib.hid ht'
  have Hr := Lib.hid hr'
  clear hG ht ht' hr hr'
  have key : (t = false ∧ b = true ∧ c = 1 ∧ z = 0) ∨ (t = true ∧ r = true ∧ b = false ∧ c = 0 ∧ z = 0) ∨ (t = true ∧ r = false ∧ k = 2 ∧ b = true ∧ c = 6 ∧ z = (s : Int)) ∨ (t = true ∧ r = false ∧ k ≠ 2 ∧ b = true ∧ c = 6 ∧ z = 0) := by
    cases t
    · left
      have h : conF 1 = ⟨b, c, z⟩ := hx
      cases h
      exact ⟨rfl, rfl, rfl, rfl⟩
    · right
      cases r
      · right
        by_cases h2 : k = 2
        · left
          have h : (⟨true, 6, bif k == 2 then (s : Int) else 0⟩ : Flt) = ⟨b, c, z⟩ := hx
          subst h2
          cases h
          exact ⟨rfl, rfl, rfl, rfl, rfl, rfl⟩
        · right
          have h : (⟨true, 6, bif k == 2 then (s : Int) else 0⟩ : Flt) = ⟨b, c, z⟩ := hx
          rw [show (k == 2) = false by simpa using h2] at h
          cases h
          exact ⟨rfl, rfl, h2, rfl, rfl, rfl⟩
      · left
        have h : noF = ⟨b, c, z⟩ := hx
        cases h
        exact ⟨rfl, rfl, rfl, rfl, rfl⟩
  clear hx
  rcases key with ⟨rfl, rfl, rfl, rfl⟩ | ⟨rfl, rfl, rfl, rfl, rfl⟩ | ⟨rfl, rfl, hk2, rfl, rfl, rfl⟩ | ⟨rfl, rfl, hk2, rfl, rfl, rfl⟩
  · go_enter Tryd.func61, Tryd.ntmps61
    go_wp2
    go_region_with (first
      | (go_at_call 51; (with_reducible refine (shapeOf_any k _ (((HG.out.alloc _).alloc _).drew)).mono ?_); rintro e w3 ⟨rfl, hb⟩
         obtain ⟨hc, hf⟩ := bcellD hb
         have HB := Lib.hid (below_two hb)
         have G3 := Lib.hid ((((HG.out.alloc _).alloc _).drew).below hb)
         have L3 : w.heap.size + 1 < w3.heap.size := Nat.lt_of_lt_of_le (by simp) (show ((w.alloc _).alloc _).heap.size ≤ _ from hb.size)
         have M3 : w.heap.size < w3.heap.size := by omega
         have X3 := Lib.hid (blk_below (blk_drew (blk_new2 w (.cells #[.int .i64 (n : Int), .int .i64 (k : Int), .int .i64 (fl : Int), .int .i64 (s : Int), .int .i64 ((hpN k fl : Nat) : Int)] 85) 46 [.bool false, .int .u32 0, .int .i64 0])) hb)
         clear hb)
      | (go_at_call 52; (with_reducible refine (allows_any k (s : Int) _ false Ht.out).mono ?_); rintro e w4 ⟨rfl, rfl⟩))
    all_goals
      go_wp2_with (first
        | (go_at_call 40; (with_reducible refine (faultOf_any 1 0 _).mono ?_); rintro e w5 ⟨rfl, hb5⟩
           obtain ⟨hc5, hf5⟩ := bcell hb5
           have L5 : w.heap.size + 1 < w5.heap.size := Nat.lt_of_lt_of_le L3 hb5.size
           have M5 : w.heap.size < w5.heap.size := by omega
           have X5 := Lib.hid (blk_below X3.out hb5)
           have HB5 := Lib.hid (HB.out.trans (hb5.mono HB.out.size))
           clear hb5))
      refine bodyPost_ret (v := .agg #[.bool true, .int .u32 1, .int .i64 0]) (res_flt (p := 2) rfl rfl (((X5.out.set_ 0 _).set_ 1 _).set_ 2 _)) rfl ⟨rfl, ?_⟩
      exact ((HB5.out.setCell (by simp) _).setCell (by simp) _).setCell (by simp) _
  · go_enter Tryd.func61, Tryd.ntmps61
    go_wp2
    go_region_with (first
      | (go_at_call 51; (with_reducible refine (shapeOf_any k _ (((HG.out.alloc _).alloc _).drew)).mono ?_); rintro e w3 ⟨rfl, hb⟩
         obtain ⟨hc, hf⟩ := bcellD hb
         have HB := Lib.hid (below_two hb)
         have G3 := Lib.hid ((((HG.out.alloc _).alloc _).drew).below hb)
         have L3 : w.heap.size + 1 < w3.heap.size := Nat.lt_of_lt_of_le (by simp) (show ((w.alloc _).alloc _).heap.size ≤ _ from hb.size)
         have M3 : w.heap.size < w3.heap.size := by omega
         have X3 := Lib.hid (blk_below (blk_drew (blk_new2 w (.cells #[.int .i64 (n : Int), .int .i64 (k : Int), .int .i64 (fl : Int), .int .i64 (s : Int), .int .i64 ((hpN k fl : Nat) : Int)] 85) 46 [.bool false, .int .u32 0, .int .i64 0])) hb)
         clear hb)
      | (go_at_call 52; (with_reducible refine (allows_any k (s : Int) _ true Ht.out).mono ?_); rintro e w4 ⟨rfl, rfl⟩))
    all_goals
      go_wp2_with (first
        | (go_at_call 73; (with_reducible refine (hasLen_any n k fl s G3.out hn true Hr.out).mono ?_); rintro e w6 ⟨rfl, hb6⟩
           obtain ⟨hc6, hf6⟩ := bcell hb6
           have L6 : w.heap.size + 1 < w6.heap.size := Nat.lt_of_lt_of_le L3 hb6.size
           have M6 : w.heap.size < w6.heap.size := by omega
           have HB6 := Lib.hid (HB.out.trans (hb6.mono HB.out.size))
           have X6 := Lib.hid (blk_below X3.out hb6)
           clear hb6))
      refine bodyPost_ret (v := .agg #[.bool false, .int .u32 0, .int .i64 0]) (res_flt (p := 2) rfl rfl (((X6.out.set_ 0 _).set_ 1 _).set_ 2 _)) rfl ⟨rfl, ?_⟩
      exact ((HB6.out.setCell (by simp) _).setCell (by simp) _).setCell (by simp) _
  · have hk3 : ((k : Int) == 2) = true := by simp; omega
    clear hk2
    go_enter Tryd.func61, Tryd.ntmps61
    go_wp2
    go_region_with (first
      | (go_at_call 51; (with_reducible refine (shapeOf_any k _ (((HG.out.alloc _).alloc _).drew)).mono ?_); rintro e w3 ⟨rfl, hb⟩
         obtain ⟨hc, hf⟩ := bcellD hb
         have HB := Lib.hid (below_two hb)
         have G3 := Lib.hid ((((HG.out.alloc _).alloc _).drew).below hb)
         have L3 : w.heap.size + 1 < w3.heap.size := Nat.lt_of_lt_of_le (by simp) (show ((w.alloc _).alloc _).heap.size ≤ _ from hb.size)
         have M3 : w.heap.size < w3.heap.size := by omega
         have X3 := Lib.hid (blk_below (blk_drew (blk_new2 w (.cells #[.int .i64 (n : Int), .int .i64 (k : Int), .int .i64 (fl : Int), .int .i64 (s : Int), .int .i64 ((hpN k fl : Nat) : Int)] 85) 46 [.bool false, .int .u32 0, .int .i64 0])) hb)
         clear hb)
      | (go_at_call 52; (with_reducible refine (allows_any k (s : Int) _ true Ht.out).mono ?_); rintro e w4 ⟨rfl, rfl⟩))
    all_goals
      go_wp2_with (first
        | (go_at_call 73; (with_reducible refine (hasLen_any n k fl s G3.out hn false Hr.out).mono ?_); rintro e w6 ⟨rfl, hb6⟩
           obtain ⟨hc6, hf6⟩ := bcell hb6
           have L6 : w.heap.size + 1 < w6.heap.size := Nat.lt_of_lt_of_le L3 hb6.size
           have M6 : w.heap.size < w6.heap.size := by omega
           have HB6 := Lib.hid (HB.out.trans (hb6.mono HB.out.size))
           have X6 := Lib.hid (blk_below X3.out hb6)
           clear hb6)
        | (go_at_call 40; (with_reducible refine (faultOf_any 6 (s : Int) _).mono ?_); rintro e w5 ⟨rfl, hb5⟩
           obtain ⟨hc5, hf5⟩ := bcell hb5
           have L5 : w.heap.size + 1 < w5.heap.size := Nat.lt_of_lt_of_le L6 hb5.size
           have M5 : w.heap.size < w5.heap.size := by omega
           have X5 := Lib.hid (blk_below X6.out hb5)
           have HB5 := Lib.hid (HB6.out.trans (hb5.mono HB6.out.size))
           clear hb5))
      refine bodyPost_ret (v := .agg #[.bool true, .int .u32 6, .int .i64 (s : Int)]) (res_flt (p := 2) rfl rfl (((X5.out.set_ 0 _).set_ 1 _).set_ 2 _)) rfl ⟨rfl, ?_⟩
      exact ((HB5.out.setCell (by simp) _).setCell (by simp) _).setCell (by simp) _
  · have hk3 : ((k : Int) == 2) = false := by simp; omega
    clear hk2
    go_enter Tryd.func61, Tryd.ntmps61
    go_wp2
    go_region_with (first
      | (go_at_call 51; (with_reducible refine (shapeOf_any k _ (((HG.out.alloc _).alloc _).drew)).mono ?_); rintro e w3 ⟨rfl, hb⟩
         obtain ⟨hc, hf⟩ := bcellD hb
         have HB := Lib.hid (below_two hb)
         have G3 := Lib.hid ((((HG.out.alloc _).alloc _).drew).below hb)
         have L3 : w.heap.size + 1 < w3.heap.size := Nat.lt_of_lt_of_le (by simp) (show ((w.alloc _).alloc _).heap.size ≤ _ from hb.size)
         have M3 : w.heap.size < w3.heap.size := by omega
         have X3 := Lib.hid (blk_below (blk_drew (blk_new2 w (.cells #[.int .i64 (n : Int), .int .i64 (k : Int), .int .i64 (fl : Int), .int .i64 (s : Int), .int .i64 ((hpN k fl : Nat) : Int)] 85) 46 [.bool false, .int .u32 0, .int .i64 0])) hb)
         clear hb)
      | (go_at_call 52; (with_reducible refine (allows_any k (s : Int) _ true Ht.out).mono ?_); rintro e w4 ⟨rfl, rfl⟩))
    all_goals
      go_wp2_with (first
        | (go_at_call 73; (with_reducible refine (hasLen_any n k fl s G3.out hn false Hr.out).mono ?_); rintro e w6 ⟨rfl, hb6⟩
           obtain ⟨hc6, hf6⟩ := bcell hb6
           have L6 : w.heap.size + 1 < w6.heap.size := Nat.lt_of_lt_of_le L3 hb6.size
           have M6 : w.heap.size < w6.heap.size := by omega
           have HB6 := Lib.hid (HB.out.trans (hb6.mono HB.out.size))
           have X6 := Lib.hid (blk_below X3.out hb6)
           clear hb6)
        | (go_at_call 40; (with_reducible refine (faultOf_any 6 0 _).mono ?_); rintro e w5 ⟨rfl, hb5⟩
           obtain ⟨hc5, hf5⟩ := bcell hb5
           have L5 : w.heap.size + 1 < w5.heap.size := Nat.lt_of_lt_of_le L6 hb5.size
           have M5 : w.heap.size < w5.heap.size := by omega
           have X5 := Lib.hid (blk_below X6.out hb5)
           have HB5 := Lib.hid (HB6.out.trans (hb5.mono HB6.out.size))
           clear hb5))
      refine bodyPost_ret (v := .agg #[.bool true, .int .u32 6, .int .i64 0]) (res_flt (p := 2) rfl rfl (((X5.out.set_ 0 _).set_ 1 _).set_ 2 _)) rfl ⟨rfl, ?_⟩
      exact ((HB5.out.setCell (by simp) _).setCell (by simp) _).setCell (by simp) _
end
end Go.Proofs.YtokbdkbljgdcpaaDoor
