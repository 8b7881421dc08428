/- Stage 9: the program's streams of a connection in memory: what is changed of them. -/
import Derived.Test.YtdpheliekdgnhaaNiE
namespace Go.Proofs.Ytdpheliekdgnhaa
open Go.RowKit Go.Own Go.Sm
set_option linter.unusedVariables false
set_option linter.unusedSimpArgs false
set_option maxRecDepth 100000
section
variable {S : Nat → Prop} {w0 w : World} {L : List Ob} {p b1 b2 : Nat} {x : Idv}
def posV (n : Int) : Int := if n < 0 then 0 else n
theorem pos_ways {n z : Int} (h : posV n = z) : (n < 0 ∧ z = 0) ∨ (n = 0 ∧ z = 0) ∨ (0 < n ∧ z = n) := by
  subst h
  unfold posV
  split <;> omega
theorem gset_c (g o : Nat) (u : Value) (hu : w.cell? ⟨g, o + 1, none⟩ = some u) (hf : w.frozen? ⟨g, o + 1, none⟩ = false) (n z : Int) (hz : posV n = z) :
    Calls Try.prog 43 #[.pointer (some ⟨g, o, none⟩), .int .i64 n] w fun e w' => e = .returned (.tuple #[]) ∧ w' = w.setCell ⟨g, o + 1, none⟩ (.int .i64 z) := by
  have hl : g < w.heap.size := World.block_lt_of_cell? _ _ hu
  rcases pos_ways hz with ⟨h1, rfl⟩ | ⟨rfl, rfl⟩ | ⟨h1, rfl⟩
  all_goals
    clear hz
    go_enter Try.func43, Try.ntmps43
    go_wp2
    go_end0
    exact ⟨rfl, rfl⟩
theorem groupT_c (s : St S w0 w (IdL p b1 b2 x L)) (id : Int) (hv : thB x.srv id = true) : Calls Try.prog 41 #[.pointer (some ⟨p, 0, none⟩), .int .i64 id] w fun e w' => e = .returned (.pointer (some ⟨p, 3, none⟩)) ∧ w' = w := by
  obtain ⟨hl, z0, _⟩ := see_i s
  have HS := Lib.hid s
  have HV := Lib.hid hv
  clear s hv
  go_enter Try.func41, Try.ntmps41
  go_wp2_with (first
    | (go_at_call 44; (with_reducible refine (theirs_c HS.out _ _ HV.out).mono ?_); rintro e w1 ⟨rfl, rfl⟩))
  go_ret
  exact ⟨rfl, rfl⟩
theorem groupO_c (s : St S w0 w (IdL p b1 b2 x L)) (id : Int) (hv : thB x.srv id = false) : Calls Try.prog 41 #[.pointer (some ⟨p, 0, none⟩), .int .i64 id] w fun e w' => e = .returned (.pointer (some ⟨p, 5, none⟩)) ∧ w' = w := by
  obtain ⟨hl, z0, _⟩ := see_i s
  have HS := Lib.hid s
  have HV := Lib.hid hv
  clear s hv
  go_enter Try.func41, Try.ntmps41
  go_wp2_with (first
    | (go_at_call 44; (with_reducible refine (theirs_c HS.out _ _ HV.out).mono ?_); rintro e w1 ⟨rfl, rfl⟩))
  go_ret
  exact ⟨rfl, rfl⟩
set_option maxHeartbeats 2000000 in
theorem addT_c (s : St S w0 w (IdL p b1 b2 x L)) (id : Int) (hi : i64i id) (hn : ¬ id ∈ x.th) (hb : x.th.length < 1000000) : Calls Try.prog 40 #[.pointer (some ⟨p, 3, none⟩), .int .i64 id] w fun e w' => e = .returned (.tuple #[]) ∧ St S w0 w' (IdL p b1 b2 { x with th := x.th ++ [id] } L) := by
  obtain ⟨hl, z0, z1, z2, z3, z4, z5, z6, zf⟩ := see_i s
  obtain ⟨hnd, D, ho, h2, h3⟩ := see_t s
  have HS := Lib.hid s
  have HO := Lib.hid ho
  have H2 := Lib.hid h2
  have H3 := Lib.hid h3
  have HN := Lib.hid hnd
  have HB : Hid (x.th.length < maxLen) := by unfold Hid maxLen; omega
  have HK := Lib.hid (key9 hi)
  have HI := Lib.hid hi
  have HM := Lib.hid hn
  clear s ho h2 h3 hnd hb hi hn zf
  go_enter Try.func40, Try.ntmps40
  go_wp2_with (first
    | (at_mapUpdate; refine wpList_mapUpdate_own _ rfl _ _ _ 68 rfl 3 81 law9 Try.underlying68 unitElem b1 _ D rfl HO.out HB.out _ _ (.int .i64 id) rfl rfl HK.out (.agg []) [] unitElem_mk ?_
       intro w1 ho1 hg1
       have T := Lib.hid (St.turned [_] (MSo b2 x.ou :: L) HS.out (MSet.put HN.out H2.out H3.out HI.out HM.out HO.out ho1 (n := 0)) hg1)
       clear ho1 hg1))
  go_end0
  exact ⟨rfl, T.out⟩
set_option maxHeartbeats 2000000 in
theorem addO_c (s : St S w0 w (IdL p b1 b2 x L)) (id : Int) (hi : i64i id) (hn : ¬ id ∈ x.ou) (hb : x.ou.length < 1000000) : Calls Try.prog 40 #[.pointer (some ⟨p, 5, none⟩), .int .i64 id] w fun e w' => e = .returned (.tuple #[]) ∧ St S w0 w' (IdL p b1 b2 { x with ou := x.ou ++ [id] } L) := by
  obtain ⟨hl, z0, z1, z2, z3, z4, z5, z6, zf⟩ := see_i s
  obtain ⟨hnd, D, ho, h2, h3⟩ := see_o s
  have HS := Lib.hid s
  have HO := Lib.hid ho
  have H2 := Lib.hid h2
  have H3 := Lib.hid h3
  have HN := Lib.hid hnd
  have HB : Hid (x.ou.length < maxLen) := by unfold Hid maxLen; omega
  have HK := Lib.hid (key9 hi)
  have HI := Lib.hid hi
  have HM := Lib.hid hn
  clear s ho h2 h3 hnd hb hi hn zf
  go_enter Try.func40, Try.ntmps40
  go_wp2_with (first
    | (at_mapUpdate; refine wpList_mapUpdate_own _ rfl _ _ _ 68 rfl 3 81 law9 Try.underlying68 unitElem b2 _ D rfl HO.out HB.out _ _ (.int .i64 id) rfl rfl HK.out (.agg []) [] unitElem_mk ?_
       intro w1 ho1 hg1
       have T := Lib.hid (St.turned [_, _] L HS.out (MSet.put HN.out H2.out H3.out HI.out HM.out HO.out ho1 (n := 0)) hg1)
       clear ho1 hg1))
  go_end0
  exact ⟨rfl, T.out⟩
set_option maxHeartbeats 2000000 in
theorem removeT_c (s : St S w0 w (IdL p b1 b2 x L)) (id : Int) (hi : i64i id) (v : Bool) (hv : decide (id ∈ x.th) = v) : Calls Try.prog 42 #[.pointer (some ⟨p, 3, none⟩), .int .i64 id] w fun e w' => e = .returned (.bool v) ∧ St S w0 w' (IdL p b1 b2 { x with th := out9 id x.th } L) := by
  obtain ⟨hl, z0, z1, z2, z3, z4, z5, z6, zf⟩ := see_i s
  obtain ⟨hnd, D, ho, h2, h3⟩ := see_t s
  have HH : Maps.has D (.int .i64 id) = v := by rw [h3 id hi, hv]
  have HO := Lib.hid ho
  have H2 := Lib.hid h2
  have H3 := Lib.hid h3
  have HN := Lib.hid hnd
  have HK := Lib.hid (key9 hi)
  have HI := Lib.hid hi
  have HS := Lib.hid s
  clear s ho h2 h3 hnd hi zf hv
  go_enter Try.func42, Try.ntmps42
  go_wp2_with (first
    | (at_lookup; refine wpList_lookup_own_unit _ rfl _ _ 68 rfl 3 81 law9 Try.underlying68 (zeroE9 _) b1 _ D rfl HO.out _ _ rfl HK.out ?_
       rw [HH])
    | (at_delete; refine wpList_delete_own _ rfl _ _ 68 3 rfl 81 law9 Try.underlying68 unitElem b1 _ D rfl (HO.out.alloc _) _ _ rfl HK.out ?_
       intro w1 ho1 ht1
       have T := Lib.hid (St.turned [_] (MSo b2 x.ou :: L) (HS.out.alloc _) (MSet.del HN.out H2.out H3.out HI.out HO.out ho1) ht1.grown)
       clear ho1 ht1))
  go_ret
  exact ⟨rfl, T.out⟩
set_option maxHeartbeats 2000000 in
theorem removeO_c (s : St S w0 w (IdL p b1 b2 x L)) (id : Int) (hi : i64i id) (v : Bool) (hv : decide (id ∈ x.ou) = v) : Calls Try.prog 42 #[.pointer (some ⟨p, 5, none⟩), .int .i64 id] w fun e w' => e = .returned (.bool v) ∧ St S w0 w' (IdL p b1 b2 { x with ou := out9 id x.ou } L) := by
  obtain ⟨hl, z0, z1, z2, z3, z4, z5, z6, zf⟩ := see_i s
  obtain ⟨hnd, D, ho, h2, h3⟩ := see_o s
  have HH : Maps.has D (.int .i64 id) = v := by rw [h3 id hi, hv]
  have HO := Lib.hid ho
  have H2 := Lib.hid h2
  have H3 := Lib.hid h3
  have HN := Lib.hid hnd
  have HK := Lib.hid (key9 hi)
  have HI := Lib.hid hi
  have HS := Lib.hid s
  clear s ho h2 h3 hnd hi zf hv
  go_enter Try.func42, Try.ntmps42
  go_wp2_with (first
    | (at_lookup; refine wpList_lookup_own_unit _ rfl _ _ 68 rfl 3 81 law9 Try.underlying68 (zeroE9 _) b2 _ D rfl HO.out _ _ rfl HK.out ?_
       rw [HH])
    | (at_delete; refine wpList_delete_own _ rfl _ _ 68 3 rfl 81 law9 Try.underlying68 unitElem b2 _ D rfl (HO.out.alloc _) _ _ rfl HK.out ?_
       intro w1 ho1 ht1
       have T := Lib.hid (St.turned [_, _] L (HS.out.alloc _) (MSet.del HN.out H2.out H3.out HI.out HO.out ho1) ht1.grown)
       clear ho1 ht1))
  go_ret
  exact ⟨rfl, T.out⟩
end
end Go.Proofs.Ytdpheliekdgnhaa
