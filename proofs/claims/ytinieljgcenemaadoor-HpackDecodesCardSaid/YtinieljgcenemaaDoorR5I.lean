/- The document's decoder as a thing: New, SetMax, Size, Max, Decode. -/
import Derived.Test.YtinieljgcenemaaDoorR5H
import Derived.Test.YtinieljgcenemaaDoorR5F
namespace Go.Proofs.YtinieljgcenemaaDoor
open Go.RowKit Go.Own Go.Tbl Go.Huf Go.Hin
set_option linter.unusedVariables false
set_option maxRecDepth 100000
attribute [local go_sem ↓] Go.wp_at_zero Go.wp_at_succ

/-- the document's decoder: its table, or nothing behind a block that was none -/
def RDo (p lim : Nat) (list : Int) : Option (Nat × List Fld) → Ob
  | some (h, l) => fun w F => (lim ≤ 65536 ∧ Ok statL h l) ∧ ∃ q, star (BLo p 56 (decCells q (lim : Int) list false)) (RXo q h l) w F
  | none => fun w F => lim ≤ 65536 ∧ ∃ q, BLo p 56 (decCells q (lim : Int) list true) w F
theorem framed_RDo (p lim : Nat) (list : Int) (st : Option (Nat × List Fld)) : Framed (RDo p lim list st) := by
  cases st with
  | none =>
    refine ⟨fun w F t i hi => ?_, fun w w' F S t hf hn => ?_⟩
    · obtain ⟨_, q, t⟩ := t
      exact (framed_BLo ..).lt _ _ t i hi
    · obtain ⟨hk, q, t⟩ := t
      exact ⟨hk, q, (framed_BLo ..).fr _ _ _ _ t hf hn⟩
  | some z =>
    obtain ⟨h, l⟩ := z
    refine ⟨fun w F t i hi => ?_, fun w w' F S t hf hn => ?_⟩
    · obtain ⟨_, q, t⟩ := t
      exact (framed_star (framed_BLo ..) (framed_RXo ..)).lt _ _ t i hi
    · obtain ⟨hk, q, t⟩ := t
      exact ⟨hk, q, (framed_star (framed_BLo ..) (framed_RXo ..)).fr _ _ _ _ t hf hn⟩
section
variable {S : Nat → Prop} {w0 w w' : World} {L : List Ob} {p lim h : Nat} {list : Int} {l : List Fld} {F : Nat → Prop}
theorem rd_close {q : Nat} (s : St S w0 w (BLo p 56 (decCells q (lim : Int) list false) :: RXo q h l :: L)) (hk : lim ≤ 65536) (ho : Ok statL h l) : St S w0 w (RDo p lim list (some (h, l)) :: L) := by
  obtain ⟨⟨T, hT, hTS⟩, hf⟩ := s
  obtain ⟨F, G, hO, t, hG, hd, rfl⟩ := (sep_star (framed_BLo ..) (framed_RXo ..)).2 hT
  exact ⟨⟨_, ⟨F, G, framed_RDo .., ⟨⟨hk, ho⟩, q, t⟩, hG, hd, rfl⟩, hTS⟩, hf⟩
theorem rd_close0 {q : Nat} (s : St S w0 w (BLo p 56 (decCells q (lim : Int) list true) :: L)) (hk : lim ≤ 65536) : St S w0 w (RDo p lim list none :: L) :=
  s.as0 (framed_RDo ..) fun F t => ⟨hk, q, t⟩
theorem rd_open (t : RDo p lim list (some (h, l)) w F) : lim ≤ 65536 ∧ Ok statL h l ∧ ∃ q, St F w w [BLo p 56 (decCells q (lim : Int) list false), RXo q h l] := by
  obtain ⟨⟨h1, h2⟩, q, t⟩ := t
  refine ⟨h1, h2, q, ?_⟩
  obtain ⟨⟨T, hT, hTS⟩, hf⟩ := St.start (framed_star (framed_BLo ..) (framed_RXo ..)) t
  exact ⟨⟨T, (sep_star (framed_BLo ..) (framed_RXo ..)).1 hT, hTS⟩, hf⟩
theorem rd_open0 (t : RDo p lim list none w F) : lim ≤ 65536 ∧ ∃ q, St F w w [BLo p 56 (decCells q (lim : Int) list true)] := by
  obtain ⟨h1, q, t⟩ := t
  exact ⟨h1, q, St.start (framed_BLo ..) t⟩
end
theorem st_nilF {S : Nat → Prop} {w0 w : World} {L : List Ob} (s : St S w0 w L) (b : Nat) : St S w0 w (L ++ [FSo b none 0 0 []]) :=
  s.add (St.made (w := w) (framed_SLo ..) ⟨World.ownsRow_nil _ _ _ _, rfl⟩ (fun i hi => by simp [Value.ownBlock] at hi) (Below.refl _ _))
/-- what a call leaves that decodes -/
def DecRP (w : World) (F : Nat → Prop) (p lim : Nat) (list : Int) (R : List Fld × Int × Option (Nat × List Fld)) (e : Ending) (w' : World) : Prop :=
  ∃ A n c, e = .returned (.tuple #[.slice A n c, .int .i64 R.2.1]) ∧ R.1.length = n ∧ St F w w' [RDo p lim list R.2.2, FSo w.heap.size A c n R.1]
section
variable {w : World} {F : Nat → Prop} {p lim h : Nat} {list : Int} {l : List Fld} {xs : List UInt8} {S : ByteArray}
set_option maxHeartbeats 4000000 in
theorem r5Dec_no (t : RDo p lim list none w F) : Calls Tryd.prog 30 #[.pointer (some ⟨p, 0, none⟩), .string S] w (DecRP w F p lim list ([], 7, none)) := by
  obtain ⟨hlim, q, s0⟩ := rd_open0 t
  have z3 := s0.blk0.cell 3
  simp only [List.getElem?_cons_zero, List.getElem?_cons_succ] at z3
  have S0 := Lib.hid s0
  clear t s0
  go_enter Tryd.func30, Tryd.ntmps30
  go_wp2
  go_ret2
  exact ⟨none, 0, 0, rfl, rfl, rd_close0 (st_nilF S0.out _) hlim⟩
set_option maxHeartbeats 4000000 in
theorem r5Dec_form (t : RDo p lim list (some (h, l)) w F) (hS : ofB xs = S) (hn : xs.length ≤ 300) (hR : blockD statL lim h l xs = none) :
    Calls Tryd.prog 30 #[.pointer (some ⟨p, 0, none⟩), .string S] w (DecRP w F p lim list ([], 3, none)) := by
  obtain ⟨hlim, hOk, q, s0⟩ := rd_open t
  have z3 := s0.blk0.cell 3
  simp only [List.getElem?_cons_zero, List.getElem?_cons_succ] at z3
  have S0 := Lib.hid s0
  have HS := Lib.hid hS
  have HR := Lib.hid hR
  have HO := Lib.hid hOk
  clear t s0 hS hR hOk
  go_enter Tryd.func30, Tryd.ntmps30
  go_wp2_with (first
    | (go_at_call 48; (with_reducible refine (r5all_c S0.out HO.out hlim xs S HS.out hn none HR.out).mono ?_); rintro e w2 ⟨rfl, s2⟩
       have X2 := s2.blk0
       have u3 := X2.cell 3
       have uf := X2.frozen
       simp only [List.getElem?_cons_zero, List.getElem?_cons_succ] at u3
       have S2 := Lib.hid s2
       clear s2 X2))
  go_ret2
  exact ⟨none, 0, 0, rfl, rfl, rd_close0 (q := q) (st_nilF (S2.out.set0 3 (.bool true)) _) hlim⟩
set_option maxHeartbeats 4000000 in
theorem r5Dec_ok (t : RDo p lim list (some (h, l)) w F) (hS : ofB xs = S) (hn : xs.length ≤ 300) (fs : List Fld) (h' : Nat) (l' : List Fld) (hR : blockD statL lim h l xs = some (fs, h', l')) (s : Nat) (hs : szs fs = s) (hsz : s ≤ 140737488355328) (lb : Bool) (hlb : decide (list < (s : Int)) = lb) (RR : List Fld × Int × Option (Nat × List Fld)) (hRR : (bif lb then ([], 4, some (h', l')) else (fs, 0, some (h', l'))) = RR) :
    Calls Tryd.prog 30 #[.pointer (some ⟨p, 0, none⟩), .string S] w (DecRP w F p lim list RR) := by
  obtain ⟨hlim, hOk, q, s0⟩ := rd_open t
  have z3 := s0.blk0.cell 3
  simp only [List.getElem?_cons_zero, List.getElem?_cons_succ] at z3
  have S0 := Lib.hid s0
  have HS := Lib.hid hS
  have HR := Lib.hid hR
  have HO := Lib.hid hOk
  have Hs := Lib.hid hs
  have hsz2 : szs fs ≤ 140737488355328 := hs ▸ hsz
  have Hlb := Lib.hid hlb
  have HRR := Lib.hid hRR
  clear t s0 hS hR hOk hs hlb hRR
  go_enter Tryd.func30, Tryd.ntmps30
  go_wp2_with (first
    | (go_at_call 48; (with_reducible refine (r5all_c S0.out HO.out hlim xs S HS.out hn _ HR.out).mono ?_); rintro e w2 ⟨A, n, c, rfl, hfn, hok2, s2⟩
       have Hok2 := Lib.hid hok2
       have Hl := Lib.hid hfn
       have S2 := Lib.hid s2
       clear s2 hok2 hfn))
  have hls := szs_len fs
  have hlf := Hl.out
  have hn' : n ≤ 140737488355328 := by omega
  have Hsz2 := Lib.hid hsz2
  clear hls hlf hsz2
  go_loopg [9, 8] n (fun gh i u w' => ∃ k : Nat, gh + k = n ∧ i = .int .i64 (k : Int) ∧ u = .int .i64 ((szs (fs.take k) : Nat) : Int) ∧ St F w w' [BLo p 56 (decCells q (lim : Int) list false), RXo q h' l', FSo w.heap.size A c n fs])
  case atStart => exact ⟨0, by omega, rfl, by simp [szs], S2.out⟩
  case round =>
    obtain ⟨k, hk, rfl, rfl, s3⟩ := hrel
    cases gk with
    | succ g1 =>
      have hkn : k < n := by omega
      obtain ⟨f, hf⟩ : ∃ f, fs[k]? = some f := ⟨_, List.getElem?_eq_getElem (by rw [Hl.out]; exact hkn)⟩
      have hst := szs_take_succ fs k f hf
      have hle := szs_take_le fs (k + 1)
      have hszf := Hsz2.out
      have hf1 : f.n.size ≤ 140737488355328 := by have h1 := sz_le_szs (List.mem_of_getElem? hf); unfold sz at h1; omega
      have hf2 : f.v.size ≤ 140737488355328 := by have h1 := sz_le_szs (List.mem_of_getElem? hf); unfold sz at h1; omega
      have hfo : fok f := ⟨hf1, hf2⟩
      obtain ⟨bb, oo, hA, d0, d1, d2⟩ := rd_fld (Rd.of_own s3.own2) hf
      have hbl := World.block_lt_of_cell? _ _ d0
      obtain ⟨M, hM⟩ : ∃ M, sz f = M := ⟨_, rfl⟩
      rw [hM] at hst
      have HM := Lib.hid hM
      obtain ⟨S1, hS1⟩ : ∃ S1, szs (fs.take k) = S1 := ⟨_, rfl⟩
      rw [hS1] at hst
      rw [hS1]
      rw [hst] at hle
      have hle3 : S1 + M ≤ 140737488355328 := by omega
      have Hst := Lib.hid hst
      have k1 : (k : Int) < (n : Int) := by omega
      have hw : IntKind.i64.wrap ((S1 : Int) + (M : Int)) = ((S1 + M : Nat) : Int) := by rw [IntKind.wrap_i64]; omega
      have S3 := Lib.hid s3
      cases hA
      clear s3 hf hst hM hS1 hle hszf S2
      go_wp2_with (first
        | (go_at_call 33; (with_reducible refine (rFSize_n f hfo M HM.out _).mono ?_); rintro e w5 ⟨rfl, hb5⟩
           have S5 := Lib.hid (S3.out.next hb5)
           clear hb5))
      go_roundg g1
      case measure => omega
      case rel => exact ⟨k + 1, by omega, by go_num, by rw [Hst.out]; first | rfl | go_num, S5.out⟩
    | zero =>
      obtain rfl : k = n := by omega
      have e : Hid (szs (fs.take k) = s) := by rw [← Hs.out, List.take_of_length_le (by rw [Hl.out]; exact Nat.le_refl _)]; exact rfl
      rw [e.out]
      have u2 := s3.blk0.cell 2
      simp only [List.getElem?_cons_zero, List.getElem?_cons_succ] at u2
      have S3 := Lib.hid s3
      clear s3 S2
      cases lb with
      | true =>
        have kl : list < (s : Int) := of_decide_eq_true Hlb.out
        go_wp2
        go_ret2
        rw [← HRR.out]
        exact ⟨none, 0, 0, rfl, rfl, rd_close (st_nilF S3.out.drop2 _) hlim Hok2.out⟩
      | false =>
        have kl : ¬ list < (s : Int) := of_decide_eq_false Hlb.out
        go_wp2
        go_ret2
        rw [← HRR.out]
        exact ⟨A, k, c, rfl, Hl.out, rd_close S3.out hlim Hok2.out⟩
theorem r5Dec_c {st : Option (Nat × List Fld)} (t : RDo p lim list st w F) (hS : ofB xs = S) (hn : xs.length ≤ 300) (R : List Fld × Int × Option (Nat × List Fld)) (hR : decR lim list st xs = R) :
    Calls Tryd.prog 30 #[.pointer (some ⟨p, 0, none⟩), .string S] w (DecRP w F p lim list R) := by
  subst hR
  cases st with
  | none => exact r5Dec_no t
  | some z =>
    obtain ⟨h, l⟩ := z
    cases hB : blockD statL lim h l xs with
    | none =>
      simp only [decR, hB]
      exact r5Dec_form t hS hn hB
    | some y =>
      obtain ⟨fs, h', l'⟩ := y
      obtain ⟨hlim, hOk, _⟩ := rd_open t
      obtain ⟨_, _, _, hz⟩ := blockD_ok (N := 1048576) statL_sz hOk hlim (by omega) hB
      have hz2 : szs fs ≤ 140737488355328 := by omega
      by_cases hc : list < (szs fs : Int)
      · simp only [decR, hB, if_pos hc]
        exact r5Dec_ok t hS hn fs h' l' hB _ rfl hz2 true (decide_eq_true hc) _ rfl
      · simp only [decR, hB, if_neg hc]
        exact r5Dec_ok t hS hn fs h' l' hB _ rfl hz2 false (decide_eq_false hc) _ rfl
set_option maxHeartbeats 1000000 in
theorem r5DSizeT {q : Nat} {t0 : TypeId} {vs : List Value} {G : Nat → Prop} (b : Blk w p t0 (.pointer (some ⟨q, 0, none⟩) :: vs)) (t : RX w q G h l) (s : Nat) (hs : szs l = s) : Calls Tryd.prog 31 #[.pointer (some ⟨p, 0, none⟩)] w fun e w' => e = .returned (.int .i64 (s : Int)) ∧ Below w.heap.size w w' := by
  have y0 : w.cell? ⟨p, 0, none⟩ = some (.pointer (some ⟨q, 0, none⟩)) := b.cell 0
  have T := Lib.hid t
  have HS := Lib.hid hs
  clear b t hs
  go_enter Tryd.func31, Tryd.ntmps31
  go_wp2_with (first
    | (go_at_call 44; (with_reducible refine (xrTSize T.out s HS.out).mono ?_); rintro e w3 ⟨rfl, hb⟩
       have B3 := Lib.hid hb
       clear hb))
  go_ret
  exact ⟨rfl, B3.out⟩
theorem r5DSize_c (t : RDo p lim list (some (h, l)) w F) (s : Nat) (hs : szs l = s) : Calls Tryd.prog 31 #[.pointer (some ⟨p, 0, none⟩)] w fun e w' => e = .returned (.int .i64 (s : Int)) ∧ Below w.heap.size w w' := by
  obtain ⟨_, _, q, s0⟩ := rd_open t
  obtain ⟨G, t2, _⟩ := s0.focus1
  exact r5DSizeT s0.blk0 t2 s hs
set_option maxHeartbeats 1000000 in
theorem r5DMax_c (t : RDo p lim list (some (h, l)) w F) : Calls Tryd.prog 32 #[.pointer (some ⟨p, 0, none⟩)] w fun e w' => e = .returned (.int .i64 (h : Int)) ∧ Below w.heap.size w w' := by
  obtain ⟨_, _, q, s0⟩ := rd_open t
  have y0 := s0.blk0.cell 0
  have y1 := st_hcell1 s0
  simp only [List.getElem?_cons_zero, List.getElem?_cons_succ] at y0
  clear t s0
  go_enter Tryd.func32, Tryd.ntmps32
  go_wp2
  go_ret
  exact ⟨rfl, Below.refl _ _⟩
set_option maxHeartbeats 1000000 in
theorem r5NewD_c (x : Int) (list : Int) (h : Nat) (hh : clampI x = h) (w : World) : Calls Tryd.prog 26 #[.int .i64 x, .int .i64 list] w fun e w' => ∃ p, e = .returned (.pointer (some ⟨p, 0, none⟩)) ∧ St NoS w w' [RDo p h list (some (h, []))] := by
  have hh2 : h ≤ 65536 := hh ▸ clampI_le x
  subst hh
  go_enter Tryd.func26, Tryd.ntmps26
  go_wp2_with (first
    | (go_at_call 36; (with_reducible refine (xrNew x _).mono ?_); rintro e w2 ⟨q, F, rfl, t, hF, hb⟩
       have S2 := Lib.hid (St.made (framed_RXo ..) t hF hb)
       clear t hF hb)
    | (go_at_call 38; (with_reducible refine (r5fit_any x _ rfl _).mono ?_); rintro e w3 ⟨rfl, hb⟩
       have S3 := Lib.hid (S2.out.next hb)
       clear hb))
  go_ret
  refine ⟨_, rfl, ?_⟩
  have s := (S3.out.block 56 (decCells q ((clampI x : Nat) : Int) list false)).perm2
  exact rd_close s hh2 (ok_new _ hh2)
set_option maxHeartbeats 1000000 in
theorem r5SetMaxD_b {q : Nat} {bk : Bool} {L : List Ob} {w0 : World} {S : Nat → Prop} (s : St S w0 w (BLo p 56 (decCells q (lim : Int) list bk) :: L)) (x : Int) (n : Nat) (hn : clampI x = n) : Calls Tryd.prog 28 #[.pointer (some ⟨p, 0, none⟩), .int .i64 x] w fun e w' => e = .returned (.tuple #[]) ∧ St S w0 w' (BLo p 56 (decCells q (n : Int) list bk) :: L) := by
  have S0 := Lib.hid s
  have Hn := Lib.hid hn
  clear s hn
  go_enter Tryd.func28, Tryd.ntmps28
  go_wp2_with (first
    | (go_at_call 38; (with_reducible refine (r5fit_any x n Hn.out _).mono ?_); rintro e w2 ⟨rfl, hb⟩
       have s2 := S0.out.next hb
       have X2 := s2.blk0
       have u1 := X2.cell 1
       have uf := X2.frozen
       simp only [List.getElem?_cons_zero, List.getElem?_cons_succ] at u1
       have S2 := Lib.hid s2
       clear hb s2 X2))
  go_end0
  exact ⟨rfl, S2.out.set0 1 (.int .i64 (n : Int))⟩
theorem r5SetMaxD_c {st : Option (Nat × List Fld)} (t : RDo p lim list st w F) (x : Int) (n : Nat) (hn : clampI x = n) : Calls Tryd.prog 28 #[.pointer (some ⟨p, 0, none⟩), .int .i64 x] w fun e w' => e = .returned (.tuple #[]) ∧ St F w w' [RDo p n list st] := by
  have hn2 : n ≤ 65536 := hn ▸ clampI_le x
  cases st with
  | none =>
    obtain ⟨_, q, s0⟩ := rd_open0 t
    refine (r5SetMaxD_b s0 x n hn).mono ?_
    rintro e w' ⟨rfl, s1⟩
    exact ⟨rfl, rd_close0 s1 hn2⟩
  | some z =>
    obtain ⟨h, l⟩ := z
    obtain ⟨_, hOk, q, s0⟩ := rd_open t
    refine (r5SetMaxD_b s0 x n hn).mono ?_
    rintro e w' ⟨rfl, s1⟩
    exact ⟨rfl, rd_close s1 hn2 hOk⟩
end
end Go.Proofs.YtinieljgcenemaaDoor
