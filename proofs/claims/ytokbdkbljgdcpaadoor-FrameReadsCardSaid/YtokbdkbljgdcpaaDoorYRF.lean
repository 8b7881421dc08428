/- Rows.FrameReadsCardSaid: for every input the law FrameReads answers true, and each argument reads behind the call as it did before; the variable counts starts as the text of the program lays it (the card ties it). No condition beside the row's own. -/
import Derived.Test.YtokbdkbljgdcpaaDoorYRB
import Derived.Test.YtokbdkbljgdcpaaDoorYRD
import Derived.Test.YtokbdkbljgdcpaaDoorYRE
import Derived.Test.YtokbdkbljgdcpaaDoorYRC
import Derived.Test.YtokbdkbljgdcpaaDoorYRA
import Derived.Test.YtokbdkbljgdcpaaDoorY47
import Derived.Deep.Cut
import Derived.Deep.DeepCutAuto
import Derived.Deep.LoopGhost
import Derived.Deep.QuietTactic
import Derived.Deep.RegionHeld
import Derived.Test.YtokbdkbljgdcpaaDoorY2
import Derived.Test.YtokbdkbljgdcpaaDoorCards
import Derived.Test.YtokbdkbljgdcpaaDoorTie
import Derived.ProofKit
import Derived.OpenShut
import Derived.ShutString
import Derived.ChangeOld
import Derived.Below
import Derived.SizedLaws
import Derived.Deep.DeepHandedRow
/- The document's Next: THE contract, all ways. Read's contract is a hypothesis here. -/
namespace Go.Proofs.YtokbdkbljgdcpaaDoor
open Go.RowKit Go.Own Go.Frm
set_option linter.unusedVariables false
set_option linter.unusedSimpArgs false
set_option maxRecDepth 100000
/-- read's contract, for all that Next may hand it -/
def ReadAll : Prop := ∀ (k fl : Nat), k < 256 → fl < 256 → ∀ ss : List UInt8, ss.length ≤ 16777215 → badSize k fl ss.length = false → PadOk k fl ss →
  ∀ w, Calls Tryd.prog 49 #[.int .i64 (k : Int), .int .i64 (fl : Int), .string ⟨ss.toArray⟩] w (ReadQ (readP k fl 0 ss) w)
theorem readP_stream (k fl s : Nat) (ss : List UInt8) : readP k fl s ss = { readP k fl 0 ss with stream := (s : Int) } := rfl
theorem nx_lt (xs : List UInt8) (j : Nat) : num ((xs.drop j).take 1) < 256 := by
  have := num_take_lt (xs.drop j) 1
  simpa using this
theorem rnextV (HR : ReadAll) {w : World} {p m : Nat} {xs : List UInt8} {dn : Bool} (hb : Blk w p 55 [.string ⟨xs.toArray⟩, .int .i64 (m : Int), .bool dn]) (hx : xs.length ≤ 16777224) (hm : m ≤ 16777215) :
    Calls Tryd.prog 22 #[.pointer (some ⟨p, 0, none⟩)] w (RNx p m (nextP m ⟨xs, dn⟩).1.f (nextP m ⟨xs, dn⟩).1.x (nextP m ⟨xs, dn⟩).1.ok (nextP m ⟨xs, dn⟩).2.held (nextP m ⟨xs, dn⟩).2.done w) := by
  cases dn with
  | true => exact rnx_short hb hx (.inl rfl)
  | false =>
    by_cases h9 : xs.length < 9
    · have e : nextP m ⟨xs, false⟩ = (none_, ⟨xs, false⟩) := by simp [nextP, h9]
      rw [e]
      exact rnx_short hb hx (.inr ⟨rfl, h9⟩)
    · have hin : NxIn w p m xs (hdN xs) (hdK xs) (hdF xs) (hdS xs) := ⟨hb, hx, hm, by omega, rfl, rfl, rfl, rfl⟩
      have k8 : hdK xs < 256 := nx_lt xs 3
      have f8 : hdF xs < 256 := nx_lt xs 4
      have n24 : hdN xs < 16777216 := num_take_lt xs 3
      obtain ⟨n, hn⟩ : ∃ q, hdN xs = q := ⟨_, rfl⟩
      obtain ⟨k, hk⟩ : ∃ q, hdK xs = q := ⟨_, rfl⟩
      obtain ⟨fl, hf⟩ : ∃ q, hdF xs = q := ⟨_, rfl⟩
      obtain ⟨s, hs⟩ : ∃ q, hdS xs = q := ⟨_, rfl⟩
      rw [hn, hk, hf, hs] at hin
      rw [hk] at k8
      rw [hf] at f8
      rw [hn] at n24
      by_cases h1 : m < n
      · have e : nextP m ⟨xs, false⟩ = (⟨zeroF, conF 6, true⟩, ⟨[], true⟩) := by simp [nextP, h9, hn, h1, Frm.settle, conF]
        rw [e]
        exact rnx_long hin h1
      · by_cases h2 : xs.length < 9 + n
        · have e : nextP m ⟨xs, false⟩ = (none_, ⟨xs, false⟩) := by simp [nextP, h9, hn, h1, h2]
          rw [e]
          exact rnx_part hin h1 h2
        · obtain ⟨ss, hss⟩ : ∃ l, (xs.drop 9).take n = l := ⟨_, rfl⟩
          have hsl : ss.length = n := by rw [← hss]; simp; omega
          have e : nextP m ⟨xs, false⟩ = Frm.settle (parseP k fl s ss) (xs.drop (9 + n)) := by simp [nextP, h9, hn, hk, hf, hs, h1, h2, hss]
          rw [e]
          clear e
          cases h3 : stray k (s : Int) with
          | true =>
            have e : Frm.settle (parseP k fl s ss) (xs.drop (9 + n)) = (⟨zeroF, conF 1, true⟩, ⟨[], true⟩) := by simp [parseP, h3, Frm.settle, conF]
            rw [e]
            exact rnx_stray hin h1 h2 h3
          | false =>
            cases h4 : badSize k fl n with
            | true =>
              have e0 : parseP k fl s ss = (zeroF, ⟨true, 6, bif k == 2 then (s : Int) else 0⟩) := by simp [parseP, h3, hsl, h4]
              by_cases h5 : k = 2
              · have hs0 : ((s : Int) == 0) = false := by
                  cases h : ((s : Int) == 0) with
                  | false => rfl
                  | true =>
                    subst h5
                    unfold stray at h3
                    rw [h] at h3
                    have h22 : onS 2 = true := rfl
                    rw [h22] at h3
                    simp at h3
                have e : Frm.settle (parseP k fl s ss) (xs.drop (9 + n)) = (⟨zeroF, ⟨true, 6, (s : Int)⟩, true⟩, ⟨xs.drop (9 + n), false⟩) := by
                  rw [e0]
                  have : (k == 2) = true := by simp [h5]
                  simp only [this, cond_true, Frm.settle, hs0, Bool.and_false, cond_false]
                rw [e]
                exact rnx_bad2 hin h1 h2 h3 h4 (by simp [h5])
              · have e : Frm.settle (parseP k fl s ss) (xs.drop (9 + n)) = (⟨zeroF, conF 6, true⟩, ⟨[], true⟩) := by
                  rw [e0]
                  have : (k == 2) = false := by simp [h5]
                  simp [this, Frm.settle, conF]
                rw [e]
                exact rnx_bad hin h1 h2 h3 h4 (by simp; omega)
            | false =>
              have hpd : PadOk k fl ss ∨ padded k fl = true ∧ n - must k fl < (ss.headD 0).toNat := by
                unfold PadOk
                rw [hsl]
                cases padded k fl with
                | false => left; intro h; cases h
                | true =>
                  by_cases h : n - must k fl < (ss.headD 0).toNat
                  · exact .inr ⟨rfl, h⟩
                  · left; intro _; omega
              rcases hpd with h6 | ⟨h5, h6⟩
              · have e0 : parseP k fl s ss = bif (unfitP (readP k fl s ss)).is then (zeroF, unfitP (readP k fl s ss)) else (readP k fl s ss, noF) := by
                  have : (padded k fl && decide (ss.length - must k fl < (ss.headD 0).toNat)) = false := by
                    cases h : padded k fl with
                    | false => rfl
                    | true =>
                      have := h6 h
                      simp only [Bool.true_and, decide_eq_false_iff_not]
                      omega
                  have h4' : badSize k fl ss.length = false := by rw [hsl]; exact h4
                  simp only [parseP, h3, h4', this, cond_false]
                have HRD := HR k fl k8 f8 ss (by omega) (by rw [hsl]; exact h4) h6
                obtain ⟨F, hF⟩ : ∃ F, readP k fl 0 ss = F := ⟨_, rfl⟩
                have hFk : F.kind = (k : Int) := by rw [← hF]; rfl
                rw [readP_stream, hF] at e0
                rw [hF] at HRD
                subst hss
                have HRD := Lib.hid HRD
                cases q5 : ((k : Int) == 5) with
                | true =>
                  have q8 : ((k : Int) == 8) = false := by simp at q5 ⊢; omega
                  cases ql : (F.last == 0) with
                  | true =>
                    have e : Frm.settle (parseP k fl s ((xs.drop 9).take n)) (xs.drop (9 + n)) = (⟨zeroF, conF 1, true⟩, ⟨[], true⟩) := by rw [e0]; simp only [unfitP, hFk, q5, ql, Bool.and_true, cond_true, conF, Frm.settle]; rfl
                    rw [e]
                    exact rnx_last hin h1 h2 h3 h4 h6 F HRD (.inl ⟨q5, ql⟩)
                  | false =>
                    have e : Frm.settle (parseP k fl s ((xs.drop 9).take n)) (xs.drop (9 + n)) = (⟨{ F with stream := (s : Int) }, noF, true⟩, ⟨xs.drop (9 + n), false⟩) := by rw [e0]; simp only [unfitP, hFk, q5, q8, ql, Bool.and_false, Bool.false_and, cond_false, noF, Frm.settle]
                    rw [e]
                    exact rnx_told hin h1 h2 h3 h4 h6 F HRD (.inr (.inl ⟨q5, q8, ql⟩))
                | false =>
                  cases q8 : ((k : Int) == 8) with
                  | false =>
                    have e : Frm.settle (parseP k fl s ((xs.drop 9).take n)) (xs.drop (9 + n)) = (⟨{ F with stream := (s : Int) }, noF, true⟩, ⟨xs.drop (9 + n), false⟩) := by rw [e0]; simp only [unfitP, hFk, q5, q8, Bool.and_false, Bool.false_and, cond_false, noF, Frm.settle]
                    rw [e]
                    exact rnx_told hin h1 h2 h3 h4 h6 F HRD (.inl ⟨q5, q8⟩)
                  | true =>
                    cases qi : (F.inc == 0) with
                    | false =>
                      have e : Frm.settle (parseP k fl s ((xs.drop 9).take n)) (xs.drop (9 + n)) = (⟨{ F with stream := (s : Int) }, noF, true⟩, ⟨xs.drop (9 + n), false⟩) := by rw [e0]; simp only [unfitP, hFk, q5, q8, qi, Bool.and_false, Bool.false_and, cond_false, noF, Frm.settle]
                      rw [e]
                      exact rnx_told hin h1 h2 h3 h4 h6 F HRD (.inr (.inr ⟨q5, q8, qi⟩))
                    | true =>
                      cases qs : ((s : Int) == 0) with
                      | true =>
                        have e : Frm.settle (parseP k fl s ((xs.drop 9).take n)) (xs.drop (9 + n)) = (⟨zeroF, conF 1, true⟩, ⟨[], true⟩) := by
                          have s0 : (s : Int) = 0 := by simpa using qs
                          rw [e0]; simp only [unfitP, hFk, q5, q8, qi, Bool.and_true, Bool.false_and, cond_false, cond_true, conF, Frm.settle, s0]; rfl
                        rw [e]
                        exact rnx_last hin h1 h2 h3 h4 h6 F HRD (.inr ⟨q5, q8, qi, qs⟩)
                      | false =>
                        have e : Frm.settle (parseP k fl s ((xs.drop 9).take n)) (xs.drop (9 + n)) = (⟨zeroF, ⟨true, 1, (s : Int)⟩, true⟩, ⟨xs.drop (9 + n), false⟩) := by
                          rw [e0]; simp only [unfitP, hFk, q5, q8, qi, qs, Bool.and_true, Bool.and_false, Bool.false_and, cond_false, cond_true, conF, Frm.settle]
                        rw [e]
                        exact rnx_inc hin h1 h2 h3 h4 h6 F HRD ⟨q5, q8, qi, qs⟩
              · have e : Frm.settle (parseP k fl s ss) (xs.drop (9 + n)) = (⟨zeroF, conF 1, true⟩, ⟨[], true⟩) := by
                  rw [← hsl] at h6
                  have : (padded k fl && decide (ss.length - must k fl < (ss.headD 0).toNat)) = true := by simp only [h5, Bool.true_and, decide_eq_true_eq]; exact h6
                  have h4' : badSize k fl ss.length = false := by rw [hsl]; exact h4
                  simp only [parseP, h3, h4', this, cond_false, cond_true, Frm.settle, conF]
                  rfl
                rw [e]
                subst hss
                exact rnx_pad hin h1 h2 h3 h4 h5 h6
end Go.Proofs.YtokbdkbljgdcpaaDoor

/- The document's read: THE contract; Next. -/
namespace Go.Proofs.YtokbdkbljgdcpaaDoor
open Go.RowKit Go.Own Go.Frm
set_option linter.unusedVariables false
set_option linter.unusedSimpArgs false
set_option maxRecDepth 100000
theorem settsN_len4 : ∀ (m : Nat) (xs : List UInt8), (settsN m xs).length = m
  | 0, _ => rfl
  | m + 1, xs => by simp [settsN, settsN_len4 m]
theorem readP4 (fl : Nat) (ss : List UInt8) : readP 4 fl 0 ss = ⟨((4 : Nat) : Int), ((0 : Nat) : Int), false, false, fl.testBit 0, false, [], 0, ((0 : Nat) : Int), 0, false, 0, 0, settsN (ss.length / 6) ss, 0, 0⟩ := rfl
theorem readAll : ReadAll := by
  intro k fl hk hfl ss hs hsz hpad w
  cases h4 : hL k with
  | false => exact read_n k fl hk h4 hfl ss hs hsz hpad
  | true =>
    obtain rfl : k = 4 := by simpa [hL] using h4
    obtain ⟨m, hm⟩ : ∃ m, ss.length = 6 * m := by
      have h6 : ss.length % 6 = 0 := by
        unfold badSize at hsz
        simp only [Bool.or_eq_false_iff, Bool.and_eq_false_iff, beq_self_eq_true, bne_eq_false_iff_eq] at hsz
        have := hsz.2
        simp at this
        exact this.1
      exact ⟨ss.length / 6, by omega⟩
    have hd : ss.length / 6 = m := by omega
    refine (read_4 4 fl rfl hfl ss hs m hm _ (and_pow fl 0 (by omega) (by omega))).mono ?_
    rintro e w' ⟨B, d, rfl, hr, hb, ha⟩
    rw [readP4, hd]
    exact ⟨none, 0, B, d, by simp only [settsN_len4]; rfl, Rd.nil _ _ _, by simp only [settsN_len4]; exact hr, hb, fun a h => (by cases h), ha⟩
end Go.Proofs.YtokbdkbljgdcpaaDoor

/- The law FrameReads: what comes in, both parsers among other things, what was told as two rows of the call's own. -/
namespace Go.Proofs.YtokbdkbljgdcpaaDoor
open Go.RowKit Go.Own Go.Frm
set_option linter.unusedVariables false
set_option linter.unusedSimpArgs false
set_option maxRecDepth 100000
theorem HoldsT.struct6 {P : Program} {W : World} {d : Nat} {t : TypeId} {cs : List Value} {fs : Array Field} (ht : P.underlying t = some (.struct fs)) (h : HoldsT P W (d + 1) t cs) :
    cs.length = P.cellsOf t ∧ ∀ (i : Nat) (f : Field), fs[i]? = some f → HoldsT P W d f.type ((cs.drop f.offset).take (P.cellsOf f.type)) := by
  unfold HoldsT at h
  rw [ht] at h
  exact h
theorem get_of6 {vs cs : List Value} {i n j : Nat} (hcs : (vs.drop (i * n)).take n = cs) (hj : j < n) : vs[i * n + j]? = cs[j]? := by
  rw [← hcs]
  simp [List.getElem?_take, List.getElem?_drop, hj]
theorem i64_6 {n : Int} (h : (Lit.int .i64 n).wf = true) : -9223372036854775808 ≤ n ∧ n ≤ 9223372036854775807 := by
  simpa [Lit.wf, IntKind.min, IntKind.max, IntKind.signed, IntKind.bits] using h
/-- step i of a slice of steps -/
theorem op6_at {W : World} {A : Option Addr} {n c i : Nat} (h : HoldsT Tryd.prog W 6 37 [.slice A n c]) (hi : i < n) :
    ∃ (b o : Nat) (k x : Int) (B : Option Addr) (nb cb : Nat) (ys : List UInt8), A = some ⟨b, o, none⟩ ∧ W.cell? ⟨b, o + i * 3, none⟩ = some (.int .i64 k) ∧ W.cell? ⟨b, o + i * 3 + 1, none⟩ = some (.int .i64 x) ∧ W.cell? ⟨b, o + i * 3 + 2, none⟩ = some (.slice B nb cb) ∧
      (-9223372036854775808 ≤ x ∧ x ≤ 9223372036854775807) ∧ Rd W 1 B nb (ys.map BV) ∧ nb ≤ cb ∧ cb ≤ 140737488351232 := by
  obtain ⟨h1, h2, h3, vs, hr, hv⟩ := HoldsT.slice (d := 5) Tryd.underlying37 h
  have hc : Tryd.prog.cellsOf 43 = 3 := by kernel_rfl
  have hci : Tryd.prog.cellsOf 3 = 1 := by kernel_rfl
  have hcb : Tryd.prog.cellsOf 22 = 1 := by kernel_rfl
  rw [hc] at hr hv
  have hrd := hr (by omega)
  have hp := hv i hi
  obtain ⟨hl, hf⟩ := HoldsT.struct6 (d := 4) Tryd.underlying43 hp
  rw [hc] at hl
  obtain ⟨b, o, hA, hcell⟩ := hrd.2 (by omega)
  obtain ⟨cs, hcs⟩ : ∃ cs, (vs.drop (i * 3)).take 3 = cs := ⟨_, rfl⟩
  rw [hcs] at hl hf
  match cs, hl with
  | [u, v, s], _ =>
    have f0 := hf 0 _ rfl
    have f1 := hf 1 _ rfl
    have f2 := hf 2 _ rfl
    simp only [List.getElem_toArray, List.getElem_cons_zero, List.getElem_cons_succ, hci, hcb, List.drop_zero, List.drop_succ_cons, List.take_succ_cons, List.take_zero] at f0 f1 f2
    obtain ⟨k, rfl, hk⟩ := HoldsT.int Tryd.underlying3 f0
    obtain ⟨x, rfl, hx⟩ := HoldsT.int Tryd.underlying3 f1
    obtain ⟨B, nb, cb, rfl⟩ := HoldsT.isSlice (d := 3) Tryd.underlying22 f2
    obtain ⟨ys, hys⟩ := HoldsT.bytes (d := 2) Tryd.underlying22 Tryd.underlying5 (by kernel_rfl) f2
    obtain ⟨g1, g2, g3, _⟩ := HoldsT.slice (d := 3) Tryd.underlying22 f2
    have hb : Tryd.prog.bytesOf 5 = 1 := by kernel_rfl
    rw [hb] at g3
    exact ⟨b, o, k, x, B, nb, cb, ys, hA, hcell (i * 3) _ (get_of6 (j := 0) hcs (by omega)), by rw [Nat.add_assoc]; exact hcell _ _ (get_of6 (j := 1) hcs (by omega)), by rw [Nat.add_assoc]; exact hcell _ _ (get_of6 (j := 2) hcs (by omega)), i64_6 hx, hys, g1, by omega⟩
theorem cell_to6 {w w' : World} (hb : Below w.heap.size w w') {p : Addr} {v : Value} (h : w.cell? p = some v) : w'.cell? p = some v := by
  rw [hb.cell (World.block_lt_of_cell? _ _ h)]
  exact h
section
variable {w w0 : World} {L : List Ob} {p q m : Nat} {S : Nat → Prop} {A0 : Ob} {st : Pst}
theorem setMax_S (s : St S w0 w (PFo p m st :: L)) (z : Int) (hz : -9223372036854775808 ≤ z ∧ z ≤ 9223372036854775807) (m' : Nat) (hm : clampM z = m') :
    Calls Tryd.prog 19 #[.pointer (some ⟨p, 0, none⟩), .int .i64 z] w fun e w' => e = .returned (.tuple #[]) ∧ St S w0 w' (PFo p m' st :: L) := by
  subst hm
  obtain ⟨F, hF, _, hlo, hback⟩ := s.focus0
  refine (setMax_c hF z hz).mono ?_
  rintro e w' ⟨rfl, s'⟩
  exact ⟨rfl, by have := hback w' _ [] s'; simpa only [List.append_nil] using this⟩
theorem rsetMax_S (s : St S w0 w (A0 :: RPo q m st :: L)) (z : Int) (hz : -9223372036854775808 ≤ z ∧ z ≤ 9223372036854775807) (m' : Nat) (hm : clampM z = m') :
    Calls Tryd.prog 20 #[.pointer (some ⟨q, 0, none⟩), .int .i64 z] w fun e w' => e = .returned (.tuple #[]) ∧ St S w0 w' (A0 :: RPo q m' st :: L) := by
  obtain ⟨F, hF, _, hlo, hback⟩ := s.focus1
  obtain ⟨h1, h2, h3, h4, rfl⟩ := hF
  refine (rSetMaxV h1 z hz m' hm).mono ?_
  rintro e w' ⟨rfl, hb, hf⟩
  have hbd := clampM_bd z
  rw [hm] at hbd
  exact ⟨rfl, by have := hback w' _ [] (St.changed (framed_RPo q m' st) ⟨hb, h2, hbd.1, hbd.2, rfl⟩ (fun i hi => .inl hi) hf); simpa only [List.append_nil] using this⟩
theorem rfeed_S (s : St S w0 w (A0 :: RPo q m st :: L)) (ys : List UInt8) (hy : ys.length ≤ 140737488355328) (n : Nat) (hn : feedN m st ys.length = n) (st' : Pst) (hst : feedP m st ys = st') :
    Calls Tryd.prog 24 #[.pointer (some ⟨q, 0, none⟩), .string ⟨ys.toArray⟩] w fun e w' => e = .returned (.int .i64 (n : Int)) ∧ St S w0 w' (A0 :: RPo q m st' :: L) := by
  obtain ⟨F, hF, _, hlo, hback⟩ := s.focus1
  refine (rFeed_c hF ys hy n hn st' hst).mono ?_
  rintro e w' ⟨rfl, s'⟩
  exact ⟨rfl, by have := hback w' _ [] s'; simpa only [List.append_nil] using this⟩
theorem nextP_le (m : Nat) (st : Pst) : (nextP m st).2.held.length ≤ st.held.length := by
  unfold nextP
  cases (st.done || decide (st.held.length < 9)) with
  | true => exact Nat.le_refl _
  | false =>
    cases decide (m < hdN st.held) with
    | true => simp [Frm.settle, conF]
    | false =>
      cases decide (st.held.length < 9 + hdN st.held) with
      | true => exact Nat.le_refl _
      | false =>
        simp only [cond_false, Frm.settle]
        cases ((parseP (hdK st.held) (hdF st.held) (hdS st.held) ((st.held.drop 9).take (hdN st.held))).2.is && (parseP (hdK st.held) (hdF st.held) (hdS st.held) ((st.held.drop 9).take (hdN st.held))).2.stream == 0) with
        | true => simp
        | false => simp
/-- the document's Next, among other things -/
theorem rnext_S (HR : ReadAll) {f : Fm} {b : Bool} {c : Nat} {z : Int} {ok : Bool} {st' : Pst} (s : St S w0 w (A0 :: RPo q m st :: L)) (h : nextP m st = (⟨f, ⟨b, c, z⟩, ok⟩, st')) :
    Calls Tryd.prog 22 #[.pointer (some ⟨q, 0, none⟩)] w fun e w' => ∃ A ca B cb, e = .returned (.tuple #[.agg #[.int .i64 f.kind, .int .i64 f.stream, .bool f.fin, .bool f.eh, .bool f.ack, .bool f.prio, .slice A f.pay.length ca, .int .i64 f.flags, .int .i64 f.pad, .int .i64 f.depend, .bool f.excl, .int .i64 f.weight, .int .u32 (f.code : Int), .slice B f.list.length cb, .int .i64 f.last, .int .i64 f.inc], .agg #[.bool b, .int .u32 (c : Int), .int .i64 z], .bool ok]) ∧
      Rd w' 1 A f.pay.length (f.pay.map BV) ∧ Rd w' 2 B f.list.length (scells f.list) ∧ St S w0 w' (A0 :: RPo q m st' :: L) := by
  obtain ⟨F, hF, _, hlo, hback⟩ := s.focus1
  obtain ⟨h1, h2, h3, h4, rfl⟩ := hF
  have hle := nextP_le m st
  refine (rnextV HR (p := q) (m := m) (xs := st.held) (dn := st.done) h1 h2 h4).mono ?_
  rintro e w' ⟨A, ca, B, cb, rfl, r1, r2, hb, hf⟩
  rw [show (⟨st.held, st.done⟩ : Pst) = st from rfl, h] at r1 r2 hb ⊢
  rw [h] at hle
  exact ⟨A, ca, B, cb, rfl, r1, r2, by have := hback w' _ [] (St.changed (framed_RPo q m st') ⟨hb, Nat.le_trans hle h2, h3, h4, rfl⟩ (fun i hi => .inl hi) hf); simpa only [List.append_nil] using this⟩
theorem rpar_S (s : St S w0 w (A0 :: RPo q m st :: L)) : Blk w q 55 [.string ⟨st.held.toArray⟩, .int .i64 (m : Int), .bool st.done] := by
  obtain ⟨F, hF, _⟩ := s.focus1
  exact hF.1
theorem own_lit6 (w : World) (e : TypeId) (size : Nat) : (w.alloc (.cells #[] e)).ownsRow w.heap.size e size (.slice (some ⟨w.heap.size, 0, none⟩) 0 0) 0 [] := by
  have h := own_of_blk (n := 0) (size := size) (cap := 0) (Blk.new w e []) (by simp) (Nat.le_refl _) (by unfold maxLen; omega)
  rw [List.take_nil] at h
  refine ⟨h.1, ?_⟩
  rcases h.2 with hn | ⟨g, cap, cur, hv, hb, rest⟩
  · exact .inl hn
  · refine .inr ⟨g, cap, cur, hv, ?_, rest⟩
    cases hv
    exact Nat.le_refl _
theorem st_none6 (s : St S w0 w L) : St S w0 (w.alloc (.cells #[] 5)) (L ++ [SLo 0 5 1 (.slice (some ⟨w.heap.size, 0, none⟩) 0 0) 0 []]) :=
  s.add (St.floor [] [] (St.made_own (own_lit6 w 5 1) ((Below.refl _ _).alloc (Nat.le_refl _) _)) (Nat.zero_le _))
/-- what was told: two rows -/
theorem St.rows {f : Fm} {x : Flt} {A B : Option Addr} {n ca k cb : Nat} (L1 : List Ob) (s : St S w0 w (L1 ++ [FrsO [⟨f, .slice A n ca, .slice B k cb, x⟩]])) (hn : f.pay.length = n) (hk : f.list.length = k) :
    St S w0 w (L1 ++ [SLo 0 5 1 (.slice A n ca) n (f.pay.map BV), SLo 0 50 2 (.slice B k cb) k (scells f.list)]) := by
  subst hn hk
  obtain ⟨⟨T, hT, hTS⟩, hf⟩ := s
  obtain ⟨G, H, hG, hH, hGH, rfl⟩ := hT.app
  obtain ⟨F, G1, hO, hF, hG1, hd, rfl⟩ := hH
  rw [Own.Sep] at hG1
  subst hG1
  obtain ⟨hown, rfl⟩ := hF
  obtain ⟨A', ca', B', cb', e1, e2, h3, h4⟩ := hown _ (List.mem_singleton.2 rfl)
  cases e1
  cases e2
  have h3 : w.ownsRow 0 5 1 (.slice A f.pay.length ca) f.pay.length (f.pay.map BV) := h3
  have h4 : w.ownsRow 0 50 2 (.slice B f.list.length cb) f.list.length (scells f.list) := h4
  refine ⟨⟨_, Sep.mk_app hG ⟨fun i => (Value.slice A f.pay.length ca).ownBlock = some i, _, framed_SLo .., ⟨h3, rfl⟩, ⟨fun i => (Value.slice B f.list.length cb).ownBlock = some i, fun _ => False, framed_SLo .., ⟨h4, rfl⟩, rfl, fun _ _ h => h, rfl⟩, fun i hi hn => ?_, rfl⟩ (fun i hi hn => ?_), fun i hi => ?_⟩, hf⟩
  · rcases hn with hn | hn
    · have hn : (Value.slice B f.list.length cb).ownBlock = some i := hn
      rcases h4.2 with ⟨h', _⟩ | ⟨g, cap, cur, h', _, hg, _⟩
      · rw [h'] at hn
        simp [Value.ownBlock] at hn
      · rw [h'] at hn
        have : g = i := by simpa [Value.ownBlock] using hn
        subst this
        exact own_ne_blk (t := 50) (cs := cur.toList) h3 (by simpa [Blk] using hg) (by decide) hi
    · exact hn
  · refine hGH i hi ?_
    rcases hn with hn | hn | hn
    · exact .inl ⟨_, List.mem_singleton.2 rfl, .inl hn⟩
    · exact .inl ⟨_, List.mem_singleton.2 rfl, .inr hn⟩
    · exact hn.elim
  · refine hTS i ?_
    rcases hi with hi | hi | hi | hi
    · exact .inl hi
    · exact .inr (.inl ⟨_, List.mem_singleton.2 rfl, .inl hi⟩)
    · exact .inr (.inl ⟨_, List.mem_singleton.2 rfl, .inr hi⟩)
    · exact hi.elim
end
theorem own_put6 {w : World} {e : TypeId} {size n g c k : Nat} {xs : List Value} (h : w.ownsRow 0 e size (.slice (some ⟨g, 0, none⟩) n c) n xs) (u : Value) : (w.setCell ⟨g, k, none⟩ u).ownsRow 0 e size (.slice (some ⟨g, 0, none⟩) n c) n (xs.set k u) := by
  obtain ⟨cur, hb, h1, h2, h3, rfl⟩ := own_blk h
  have := own_of_blk (n := n) (hb.set_ k u) (by rw [List.length_set]; exact h3) h1 h2
  rwa [List.take_set] at this
theorem own_some6 {w : World} {base : Nat} {e : TypeId} {size n c : Nat} {A : Option Addr} {xs : List Value} (h : w.ownsRow base e size (.slice A n c) n xs) (hn : 0 < n) : ∃ b, A = some ⟨b, 0, none⟩ := by
  rcases h.2 with ⟨h', h2⟩ | ⟨g, cap, cur, h', _⟩
  · simp only [Value.slice.injEq] at h'
    omega
  · simp only [Value.slice.injEq] at h'
    exact ⟨g, h'.1⟩
theorem st_put {S : Nat → Prop} {w0 w : World} (L1 : List Ob) {L2 : List Ob} {e : TypeId} {size n g c : Nat} {xs : List Value} (s : St S w0 w (L1 ++ SLo 0 e size (.slice (some ⟨g, 0, none⟩) n c) n xs :: L2)) (k : Nat) (u : Value) : St S w0 (w.setCell ⟨g, k, none⟩ u) (L1 ++ SLo 0 e size (.slice (some ⟨g, 0, none⟩) n c) n (xs.set k u) :: L2) :=
  St.appended L1 L2 s (own_put6 (St.own L1 L2 s) u) (Fr.setCell (S := fun i => some i = (Value.slice (some ⟨g, 0, none⟩) n c).ownBlock) (Fr.refl _ _) (p := ⟨g, k, none⟩) (.inl rfl) u) (.inl rfl)
/-- a frame and a fault that are made -/
theorem two_new (w : World) (cs ds : List Value) (W : World) (hW : (w.alloc (.cells cs.toArray 27)).alloc (.cells ds.toArray 46) = W) :
    St (fun _ => False) w W [BLo w.heap.size 27 cs, BLo (w.heap.size + 1) 46 ds] := by
  subst hW
  have s0 := ((St.nil (fun _ => False) w).block 27 cs).block 46 ds
  have e : ∀ o, (w.alloc o).heap.size = w.heap.size + 1 := fun o => by simp
  rw [e] at s0
  exact s0
theorem cells16v {w : World} {g : Nat} {v0 v1 v2 v3 v4 v5 v6 v7 v8 v9 v10 v11 v12 v13 v14 v15 : Value} (h : Blk w g 27 [v0, v1, v2, v3, v4, v5, v6, v7, v8, v9, v10, v11, v12, v13, v14, v15]) : w.cell? ⟨g, 0, none⟩ = some v0 ∧ w.cell? ⟨g, 1, none⟩ = some v1 ∧ w.cell? ⟨g, 2, none⟩ = some v2 ∧ w.cell? ⟨g, 3, none⟩ = some v3 ∧ w.cell? ⟨g, 4, none⟩ = some v4 ∧ w.cell? ⟨g, 5, none⟩ = some v5 ∧ w.cell? ⟨g, 6, none⟩ = some v6 ∧ w.cell? ⟨g, 7, none⟩ = some v7 ∧ w.cell? ⟨g, 8, none⟩ = some v8 ∧ w.cell? ⟨g, 9, none⟩ = some v9 ∧ w.cell? ⟨g, 10, none⟩ = some v10 ∧ w.cell? ⟨g, 11, none⟩ = some v11 ∧ w.cell? ⟨g, 12, none⟩ = some v12 ∧ w.cell? ⟨g, 13, none⟩ = some v13 ∧ w.cell? ⟨g, 14, none⟩ = some v14 ∧ w.cell? ⟨g, 15, none⟩ = some v15 := by
  have c : ∀ (i : Nat) (v : Value), [v0, v1, v2, v3, v4, v5, v6, v7, v8, v9, v10, v11, v12, v13, v14, v15][i]? = some v → w.cell? ⟨g, i, none⟩ = some v := fun i v hv => (h.cell i).trans hv
  exact ⟨c 0 _ rfl, c 1 _ rfl, c 2 _ rfl, c 3 _ rfl, c 4 _ rfl, c 5 _ rfl, c 6 _ rfl, c 7 _ rfl, c 8 _ rfl, c 9 _ rfl, c 10 _ rfl, c 11 _ rfl, c 12 _ rfl, c 13 _ rfl, c 14 _ rfl, c 15 _ rfl⟩
theorem cells3v {w : World} {g : Nat} {v0 v1 v2 : Value} (h : Blk w g 46 [v0, v1, v2]) : w.cell? ⟨g, 0, none⟩ = some v0 ∧ w.cell? ⟨g, 1, none⟩ = some v1 ∧ w.cell? ⟨g, 2, none⟩ = some v2 := by
  have c : ∀ (i : Nat) (v : Value), [v0, v1, v2][i]? = some v → w.cell? ⟨g, i, none⟩ = some v := fun i v hv => (h.cell i).trans hv
  exact ⟨c 0 _ rfl, c 1 _ rfl, c 2 _ rfl⟩
theorem ft_neq6 (b : Bool) (c : Nat) (z : Int) (W : World) : (binOp .neq 46 (.agg #[.bool b, .int .u32 (c : Int), .int .i64 z]) (.agg #[.bool b, .int .u32 (c : Int), .int .i64 z])).run Tryd.prog W = .ok (.bool false) W := by
  rw [run_neq_struct, run_equalIn_agg _ _ _ _ _ (by kernel_rfl) (by kernel_rfl)]
  simp [Program.fieldsOf, Tryd.underlying46, Op.eqFields, go_sem]
end Go.Proofs.YtokbdkbljgdcpaaDoor

/- The law FrameReads: the walk. -/
namespace Go.Proofs.YtokbdkbljgdcpaaDoor
open Go.RowKit Go.Own Go.Frm
set_option linter.unusedVariables false
set_option linter.unusedSimpArgs false
set_option maxRecDepth 100000
set_option maxHeartbeats 16000000 in
theorem lawReads {w0 : World} (N : Int) (hN : -9223372036854775808 ≤ N ∧ N ≤ 9223372036854775807) {A : Option Addr} {n c : Nat} (hl : HoldsT Tryd.prog w0 6 37 [.slice A n c]) (hG : Gl w0) :
    Calls Tryd.prog 4 #[.int .i64 N, .slice A n c] w0 fun e w' => e = .returned (.bool true) ∧ Below w0.heap.size w0 w' := by
  have HN := Lib.hid hN
  have HG := Lib.hid hG
  have HL := Lib.hid hl
  obtain ⟨hnc, hcm, _⟩ := HoldsT.slice (d := 5) Tryd.underlying37 hl
  clear hl hN hG
  go_enter Tryd.func4, Tryd.ntmps4
  go_wp2_with (first
    | (go_at_call 12; (with_reducible refine (shown_c HG.out).mono ?_); rintro e w1 ⟨rfl, b1⟩; have B1 := Lib.hid b1; clear b1)
    | (go_at_call 17; (with_reducible refine (new_c N HN.out).mono ?_); rintro e w2 ⟨p, rfl, t1⟩
       have T1 := Lib.hid t1
       clear t1)
    | (go_at_call 18; (with_reducible refine (rNew_c N HN.out).mono ?_); rintro e w3 ⟨q, rfl, t2⟩
       have t3 : St (fun _ => False) w1 w3 [PFo p (clampM N) ⟨[], false⟩, RPo q (clampM N) ⟨[], false⟩] := St.add T1.out t2
       have T3 := Lib.hid (St.before t3 (Fr.of_below B1.out (fun i h1 h2 => absurd h2 (by omega))))
       clear t2 t3))
  go_loopg [8] (min n 60) (fun gh i w' => ∃ (k m : Nat) (st : Pst), gh + k = min n 60 ∧ i = .int .i64 (k : Int) ∧ St (fun _ => False) w0 w' [PFo p m st, RPo q m st])
  case atStart => exact ⟨0, clampM N, ⟨[], false⟩, by omega, rfl, T3.out⟩
  case round =>
    obtain ⟨k, m, st, hk, rfl, hs⟩ := hrel
    have HS := Lib.hid hs
    have b2 := hs.below
    have B2 := Lib.hid b2
    clear hs T1 T3 B1
    cases gk with
    | zero =>
      have hk2 : (k = n ∧ ¬ k < n) ∨ (k < n ∧ k = 60) := by omega
      clear hk b2
      rcases hk2 with ⟨rfl, h1⟩ | ⟨h1, rfl⟩
      all_goals
        go_wp2
        go_ret
        exact ⟨rfl, B2.out⟩
    | succ g1 =>
      have k1 : (k : Int) < (n : Int) := by omega
      have k2 : (k : Int) < 60 := by omega
      obtain ⟨bl, o, kd, z, B, nb, cb, ys, rfl, d0, d1, d2, hz, hr, hnb, hcb⟩ := op6_at HL.out (i := k) (by omega)
      have e0 := cell_to6 b2 d0
      have e1 := cell_to6 b2 d1
      have e2 := cell_to6 b2 d2
      have HZ := Lib.hid hz
      have HR := Lib.hid hr
      have HK := Lib.hid hk
      have D1 := Lib.hid d1
      have D2 := Lib.hid d2
      clear hz d0 d1 d2 hr hk b2
      have hkd : kd = 1 ∨ (¬ kd = 1 ∧ kd = 2) ∨ (¬ kd = 1 ∧ ¬ kd = 2) := by omega
      rcases hkd with rfl | ⟨h1, rfl⟩ | ⟨h1, h2⟩
      · as_aux_lemma =>
          obtain ⟨m', hm'⟩ : ∃ m', clampM z = m' := ⟨_, rfl⟩
          have HM := Lib.hid hm'
          clear hm'
          go_wp2_with (first
            | (go_at_call 19; (with_reducible refine (setMax_S HS.out z HZ.out m' HM.out).mono ?_); rintro e w4 ⟨rfl, s4⟩
               have S4 := Lib.hid s4
               clear e1
               have e1 := cell_to6 s4.below D1.out
               clear s4)
            | (go_at_call 20; (with_reducible refine (rsetMax_S S4.out z HZ.out m' HM.out).mono ?_); rintro e w5 ⟨rfl, s5⟩
               have S5 := Lib.hid s5
               clear s5))
          have hq := rpar_S S5.out
          have q0 := hq.cell 0
          have hql := hq.lt
          simp only [List.getElem?_cons_zero] at q0
          go_quiet (first | (go_at_call 25; exact Calls.quiet_of_same (size_s (St.drewN S5.out _))))
          go_wp2
          go_roundg g1
          case measure => omega
          case rel => exact ⟨k + 1, m', st, by have := HK.out; omega, by go_num, St.drewN S5.out _⟩
      · as_aux_lemma =>
          obtain ⟨⟨⟨f, ⟨xb, xc, xz⟩, ok⟩, st'⟩, hnx⟩ : ∃ r, nextP m st = r := ⟨_, rfl⟩
          have HNX := Lib.hid hnx
          have eqf := fun W => ft_neq6 xb xc xz W
          clear e1 e2 hnx HR HZ D1 D2 hnb hcb
          go_upto_region 25 with (first
            | (go_at_call 21; (with_reducible refine (next_T HS.out HG.out (fun h => h) (fun h => h) HNX.out).mono ?_); rintro e w4 ⟨A1, c1, B1, d1, rfl, s4⟩
               have S4 := Lib.hid (St.rows [PFo p m st', RPo q m st] s4 rfl rfl)
               clear s4))
          obtain ⟨w5, hw5⟩ : ∃ w5, (w4.alloc (.cells #[.int .i64 f.kind, .int .i64 f.stream, .bool f.fin, .bool f.eh, .bool f.ack, .bool f.prio, .slice A1 f.pay.length c1, .int .i64 f.flags, .int .i64 f.pad, .int .i64 f.depend, .bool f.excl, .int .i64 f.weight, .int .u32 (f.code : Int), .slice B1 f.list.length d1, .int .i64 f.last, .int .i64 f.inc] 27)).alloc (.cells #[.bool xb, .int .u32 (xc : Int), .int .i64 xz] 46) = w5 := ⟨_, rfl⟩
          have s5 := St.add S4.out (two_new w4 [.int .i64 f.kind, .int .i64 f.stream, .bool f.fin, .bool f.eh, .bool f.ack, .bool f.prio, .slice A1 f.pay.length c1, .int .i64 f.flags, .int .i64 f.pad, .int .i64 f.depend, .bool f.excl, .int .i64 f.weight, .int .u32 (f.code : Int), .slice B1 f.list.length d1, .int .i64 f.last, .int .i64 f.inc] [.bool xb, .int .u32 (xc : Int), .int .i64 xz] w5 hw5)
          rw [hw5]
          clear hw5
          obtain ⟨g, hg⟩ : ∃ g, w4.heap.size = g := ⟨_, rfl⟩
          rw [hg] at s5 ⊢
          have S5 : Hid (St (fun _ => False) w0 w5 [PFo p m st', RPo q m st, SLo 0 5 1 (.slice A1 f.pay.length c1) f.pay.length (f.pay.map BV), SLo 0 50 2 (.slice B1 f.list.length d1) f.list.length (scells f.list), BLo g 27 [.int .i64 f.kind, .int .i64 f.stream, .bool f.fin, .bool f.eh, .bool f.ack, .bool f.prio, .slice A1 f.pay.length c1, .int .i64 f.flags, .int .i64 f.pad, .int .i64 f.depend, .bool f.excl, .int .i64 f.weight, .int .u32 (f.code : Int), .slice B1 f.list.length d1, .int .i64 f.last, .int .i64 f.inc], BLo (g + 1) 46 [.bool xb, .int .u32 (xc : Int), .int .i64 xz]]) := s5
          clear s5 S4 hg HS e0
          go_upto_region 26 with (first
            | (go_at_call 22; (with_reducible refine (rnext_S readAll S5.out HNX.out).mono ?_); rintro e w6 ⟨A2, c2, B2, d2, rfl, r1, r2, s6⟩
               have S6 := Lib.hid s6
               have R1 := Lib.hid r1
               have R2 := Lib.hid r2
               clear s6 r1 r2))
          obtain ⟨w7, hw7⟩ : ∃ w7, (w6.alloc (.cells #[.int .i64 f.kind, .int .i64 f.stream, .bool f.fin, .bool f.eh, .bool f.ack, .bool f.prio, .slice A2 f.pay.length c2, .int .i64 f.flags, .int .i64 f.pad, .int .i64 f.depend, .bool f.excl, .int .i64 f.weight, .int .u32 (f.code : Int), .slice B2 f.list.length d2, .int .i64 f.last, .int .i64 f.inc] 27)).alloc (.cells #[.bool xb, .int .u32 (xc : Int), .int .i64 xz] 46) = w7 := ⟨_, rfl⟩
          have t7 := two_new w6 [.int .i64 f.kind, .int .i64 f.stream, .bool f.fin, .bool f.eh, .bool f.ack, .bool f.prio, .slice A2 f.pay.length c2, .int .i64 f.flags, .int .i64 f.pad, .int .i64 f.depend, .bool f.excl, .int .i64 f.weight, .int .u32 (f.code : Int), .slice B2 f.list.length d2, .int .i64 f.last, .int .i64 f.inc] [.bool xb, .int .u32 (xc : Int), .int .i64 xz] w7 hw7
          rw [hw7]
          clear hw7
          have Q1 := Lib.hid (R1.out.below t7.below)
          have Q2 := Lib.hid (R2.out.below t7.below)
          have s7 := St.add S6.out t7
          obtain ⟨g2, hg2⟩ : ∃ g2, w6.heap.size = g2 := ⟨_, rfl⟩
          rw [hg2] at s7 ⊢
          have S7 : Hid (St (fun _ => False) w0 w7 [PFo p m st', RPo q m st', SLo 0 5 1 (.slice A1 f.pay.length c1) f.pay.length (f.pay.map BV), SLo 0 50 2 (.slice B1 f.list.length d1) f.list.length (scells f.list), BLo g 27 [.int .i64 f.kind, .int .i64 f.stream, .bool f.fin, .bool f.eh, .bool f.ack, .bool f.prio, .slice A1 f.pay.length c1, .int .i64 f.flags, .int .i64 f.pad, .int .i64 f.depend, .bool f.excl, .int .i64 f.weight, .int .u32 (f.code : Int), .slice B1 f.list.length d1, .int .i64 f.last, .int .i64 f.inc], BLo (g + 1) 46 [.bool xb, .int .u32 (xc : Int), .int .i64 xz], BLo g2 27 [.int .i64 f.kind, .int .i64 f.stream, .bool f.fin, .bool f.eh, .bool f.ack, .bool f.prio, .slice A2 f.pay.length c2, .int .i64 f.flags, .int .i64 f.pad, .int .i64 f.depend, .bool f.excl, .int .i64 f.weight, .int .u32 (f.code : Int), .slice B2 f.list.length d2, .int .i64 f.last, .int .i64 f.inc], BLo (g2 + 1) 46 [.bool xb, .int .u32 (xc : Int), .int .i64 xz]]) := s7
          clear s7 t7 S6 S5 R1 R2 hg2 HNX
          obtain ⟨_, _, e3, _, hp9', _⟩ := own_shape (St.own2 S7.out)
          obtain ⟨_, _, e4, _, hl9', _⟩ := own_shape (St.own3 S7.out)
          cases e3
          cases e4
          have hp9 : f.pay.length ≤ 9223372036854775807 := by unfold maxLen at hp9'; omega
          have hl9 : f.list.length ≤ 9223372036854775807 := by unfold maxLen at hl9'; omega
          clear hp9' hl9'
          obtain ⟨k00, k01, k02, k03, k04, k05, k06, k07, k08, k09, k010, k011, k012, k013, k014, k015⟩ := cells16v (St.blk4 S7.out)
          obtain ⟨k10, k11, k12, k13, k14, k15, k16, k17, k18, k19, k110, k111, k112, k113, k114, k115⟩ := cells16v (St.blk6 S7.out)
          go_upto_region 27 with (first
            | (go_at_call 16; (with_reducible refine (same_c f (Rd.of_own (St.own2 S7.out)) (Rd.of_own (St.own3 S7.out)) Q1.out Q2.out hl9).mono ?_); rintro e w8 ⟨rfl, hb8⟩
               have S8 := Lib.hid (St.next S7.out hb8)
               clear hb8))
          clear k00 k01 k02 k03 k04 k05 k06 k07 k08 k09 k010 k011 k012 k013 k014 k015
          clear k10 k11 k12 k13 k14 k15 k16 k17 k18 k19 k110 k111 k112 k113 k114 k115
          obtain ⟨u00, u01, u02⟩ := cells3v (St.blk5 S8.out)
          obtain ⟨u10, u11, u12⟩ := cells3v (St.blk7 S8.out)
          go_wp2
          have S9 : Hid (St (fun _ => False) w0 w8 [PFo p m st', RPo q m st', SLo 0 5 1 (.slice A1 f.pay.length c1) f.pay.length (f.pay.map BV), SLo 0 50 2 (.slice B1 f.list.length d1) f.list.length (scells f.list), BLo g 27 [.int .i64 f.kind, .int .i64 f.stream, .bool f.fin, .bool f.eh, .bool f.ack, .bool f.prio, .slice A1 f.pay.length c1, .int .i64 f.flags, .int .i64 f.pad, .int .i64 f.depend, .bool f.excl, .int .i64 f.weight, .int .u32 (f.code : Int), .slice B1 f.list.length d1, .int .i64 f.last, .int .i64 f.inc]]) := St.drop5 (St.drop5 (St.drop5 S8.out))
          clear u00 u01 u02 u10 u11 u12 S7 S8 Q1 Q2 eqf
          go_loopg [16] f.pay.length (fun gh i w' => ∃ (j : Nat) (xs : List Value), gh + j = f.pay.length ∧ i = .int .i64 (j : Int) ∧ St (fun _ => False) w0 w' [PFo p m st', RPo q m st', SLo 0 5 1 (.slice A1 f.pay.length c1) f.pay.length xs, SLo 0 50 2 (.slice B1 f.list.length d1) f.list.length (scells f.list), BLo g 27 [.int .i64 f.kind, .int .i64 f.stream, .bool f.fin, .bool f.eh, .bool f.ack, .bool f.prio, .slice A1 f.pay.length c1, .int .i64 f.flags, .int .i64 f.pad, .int .i64 f.depend, .bool f.excl, .int .i64 f.weight, .int .u32 (f.code : Int), .slice B1 f.list.length d1, .int .i64 f.last, .int .i64 f.inc]])
          case atStart => exact ⟨0, _, by omega, rfl, S9.out⟩
          case round =>
            obtain ⟨j, xs, hj, rfl, hs⟩ := hrel
            have z6 := (St.blk4 hs).cell 6
            simp only [List.getElem?_cons_zero, List.getElem?_cons_succ] at z6
            cases gk with
            | succ g3 =>
              have j1 : (j : Int) < (f.pay.length : Int) := by omega
              have j2 : j < f.pay.length := by omega
              obtain ⟨ga, rfl⟩ := own_some6 (St.own2 hs) (by omega)
              obtain ⟨cur, hb, y1, y2, y3, _⟩ := own_blk (St.own2 hs)
              obtain ⟨u0, hc⟩ : ∃ u0, wr.cell? ⟨ga, j, none⟩ = some u0 := ⟨cur[j]'(by omega), by rw [hb.cell, List.getElem?_eq_getElem (by omega)]⟩
              have hf := hb.frozen j
              have S10 := Lib.hid (st_put [PFo p m st', RPo q m st'] hs j (.int .u8 77))
              have HJ := Lib.hid hj
              clear hs hb y1 y2 y3 hj S9
              go_wp2
              go_roundg g3
              case measure => omega
              case rel => exact ⟨j + 1, _, by have := HJ.out; omega, by go_num, S10.out⟩
            | zero =>
              obtain rfl : j = f.pay.length := by omega
              have S10 := Lib.hid hs
              clear hs S9
              go_wp2
              clear z6
              go_loopg [17] f.list.length (fun gh i w' => ∃ (j : Nat) (ys : List Value), gh + j = f.list.length ∧ i = .int .i64 (j : Int) ∧ St (fun _ => False) w0 w' [PFo p m st', RPo q m st', SLo 0 5 1 (.slice A1 f.pay.length c1) f.pay.length xs, SLo 0 50 2 (.slice B1 f.list.length d1) f.list.length ys, BLo g 27 [.int .i64 f.kind, .int .i64 f.stream, .bool f.fin, .bool f.eh, .bool f.ack, .bool f.prio, .slice A1 f.pay.length c1, .int .i64 f.flags, .int .i64 f.pad, .int .i64 f.depend, .bool f.excl, .int .i64 f.weight, .int .u32 (f.code : Int), .slice B1 f.list.length d1, .int .i64 f.last, .int .i64 f.inc]])
              case atStart => exact ⟨0, _, by omega, rfl, S10.out⟩
              case round =>
                clear S10
                obtain ⟨j, zs, hj2, rfl, hs⟩ := hrel
                have z13 := (St.blk4 hs).cell 13
                simp only [List.getElem?_cons_zero, List.getElem?_cons_succ] at z13
                cases gk with
                | succ g4 =>
                  have j1 : (j : Int) < (f.list.length : Int) := by omega
                  have j2 : j < f.list.length := by omega
                  obtain ⟨gb, rfl⟩ := own_some6 (St.own3 hs) (by omega)
                  obtain ⟨cur, hb, y1, y2, y3, _⟩ := own_blk (St.own3 hs)
                  obtain ⟨u0, hc⟩ : ∃ u0, wr.cell? ⟨gb, j * 2, none⟩ = some u0 := ⟨cur[j * 2]'(by omega), by rw [hb.cell, List.getElem?_eq_getElem (by omega)]⟩
                  obtain ⟨u1, hc1⟩ : ∃ u1, wr.cell? ⟨gb, j * 2 + 1, none⟩ = some u1 := ⟨cur[j * 2 + 1]'(by omega), by rw [hb.cell, List.getElem?_eq_getElem (by omega)]⟩
                  have hf := hb.frozen (j * 2)
                  have hf1 := hb.frozen (j * 2 + 1)
                  have S11 := Lib.hid (st_put [PFo p m st', RPo q m st', SLo 0 5 1 (.slice A1 f.pay.length c1) f.pay.length xs] (st_put [PFo p m st', RPo q m st', SLo 0 5 1 (.slice A1 f.pay.length c1) f.pay.length xs] hs (j * 2) (.int .i64 77)) (j * 2 + 1) (.int .u32 0))
                  have HJ := Lib.hid hj2
                  clear hs hb y1 y2 y3 hj2
                  go_wp2
                  go_roundg g4
                  case measure => omega
                  case rel => exact ⟨j + 1, _, by have := HJ.out; omega, by go_num, S11.out⟩
                | zero =>
                  obtain rfl : j = f.list.length := by omega
                  have S11 : Hid (St (fun _ => False) w0 wr [PFo p m st', RPo q m st']) := St.drop2 (St.drop2 (St.drop2 hs))
                  have hq := rpar_S S11.out
                  have q0 := hq.cell 0
                  have hql := hq.lt
                  simp only [List.getElem?_cons_zero] at q0
                  clear hs hq
                  go_wp2
                  go_quiet (first | (go_at_call 25; exact Calls.quiet_of_same (size_s (St.drewN S11.out _))))
                  go_wp2
                  go_roundg g1
                  case measure => omega
                  case rel => exact ⟨k + 1, m, st', by have := HK.out; omega, by go_num, St.drewN S11.out _⟩
      · as_aux_lemma =>
          clear e1
          obtain ⟨n1, hn1⟩ : ∃ n1, min nb 20000 = n1 := ⟨_, rfl⟩
          have i1 : (if (nb : Int) < 20000 then (nb : Int) else 20000) = (n1 : Int) := by split <;> omega
          have i2 : (if (20000 : Int) < (nb : Int) then (20000 : Int) else (nb : Int)) = (n1 : Int) := by split <;> omega
          have i3 : (if nb < 20000 then (nb : Int) else 20000) = (n1 : Int) := by split <;> omega
          have i4 : (if 20000 < nb then (20000 : Int) else (nb : Int)) = (n1 : Int) := by split <;> omega
          have i5 : (if (nb : Int) ≤ 20000 then (nb : Int) else 20000) = (n1 : Int) := by split <;> omega
          have i6 : (if nb ≤ 20000 then (nb : Int) else 20000) = (n1 : Int) := by split <;> omega
          have n2 : n1 ≤ nb := by omega
          have n3 : n1 ≤ cb := by omega
          have n4 : n1 ≤ 20000 := by omega
          obtain ⟨zs, hzs⟩ : ∃ zs, ys.take n1 = zs := ⟨_, rfl⟩
          have hyl : ys.length = nb := by simpa using HR.out.1
          have hzl : zs.length = n1 := by rw [← hzs, List.length_take]; omega
          have hr2 := HR.out.take (k := n1) n2
          rw [Nat.mul_one, ← List.map_take, hzs] at hr2
          have HRZ := Lib.hid hr2
          have HZL := Lib.hid hzl
          obtain ⟨fq, hfq⟩ : ∃ fq, feedN m st n1 = fq := ⟨_, rfl⟩
          obtain ⟨st', hst'⟩ : ∃ st', feedP m st zs = st' := ⟨_, rfl⟩
          have HFQ := Lib.hid hfq
          have HST := Lib.hid hst'
          have HFQ2 : Hid (feedN m st zs.length = fq) := by unfold Hid; rw [hzl]; exact hfq
          clear hn1 hzs hyl hzl hr2 hfq hst'
          go_upto_region 10 with (fail)
          clear e0
          go_cut [18] (fun s wx => s = .slice B n1 cb ∧ ∃ kk, wx = wr.drewN kk)
          case first =>
            go_quiet (fail)
            go_wp2
            go_meet
            case rel => exact ⟨rfl, _, rfl⟩
          case rest =>
            obtain ⟨rfl, kk, hw⟩ := hcut
            have hs3 := St.drewN HS.out kk
            rw [← hw] at hs3
            have hs4 := st_none6 hs3
            have HS4 := Lib.hid hs4
            have HR4 := Lib.hid (St.rd hs4 HRZ.out (fun _ _ h => h))
            clear hs3 hs4 hw HS
            go_wp2_with (first
              | (at_builtin
                 refine wpList_append_rd rfl (.tmp 58) (.tmp 59) 22 rfl EB (.slice (some ⟨wc.heap.size, 0, none⟩) 0 0) 0 [] rfl (St.own2 HS4.out) B n1 cb (zs.map BV) rfl HR4.out (BV_one _) (by omega) (by unfold maxLen; omega) (Nat.zero_le _) ?_
                 intro A3 c3 w4 ho4 hf4 h24
                 have s4 := St.appended2 HS4.out ho4 hf4 h24
                 rw [Nat.zero_add, List.nil_append] at s4
                 rw [Nat.zero_add] at ho4 ⊢
                 have S5 : Hid (St (fun _ => False) w0 w4 [PFo p m st, RPo q m st, SLo 0 5 1 (.slice A3 n1 c3) n1 (zs.map BV)]) := s4
                 obtain ⟨_, _, e3, q1, q2', _⟩ := own_shape (St.own2 S5.out)
                 cases e3
                 have q2 : c3 ≤ 9223372036854775807 := q2'
                 clear q2'
                 clear ho4 hf4 h24 s4)
              | (go_at_call 23; (with_reducible refine (feed_S S5.out (Rd.of_own (St.own2 S5.out)) q1 q2 fq HFQ.out st' HST.out).mono ?_); rintro e w5 ⟨rfl, s6⟩
                 have S6 := Lib.hid s6
                 have cv1 := run_conv_bytes (c := cb) (src := 22) (dst := 9) Tryd.underlying22 Tryd.underlying5 Tryd.underlying9 (St.rd s6 HRZ.out (fun _ _ h => h))
                 clear s6)
              | (go_at_call 24; (with_reducible refine (rfeed_S S6.out zs (by have := HZL.out; omega) fq HFQ2.out st' HST.out).mono ?_); rintro e w6 ⟨rfl, s7⟩
                 have S7 := Lib.hid s7
                 have cv2 := run_conv_bytes (c := cb) (src := 22) (dst := 9) Tryd.underlying22 Tryd.underlying5 Tryd.underlying9 (St.rd s7 HRZ.out (fun _ _ h => h))
                 have cv3 := run_conv_bytes (c := c3) (src := 22) (dst := 9) Tryd.underlying22 Tryd.underlying5 Tryd.underlying9 (Rd.of_own (St.own2 s7))
                 clear s7))
            clear cv1 cv2 cv3 q1 q2
            go_loopg [22] n1 (fun gh i w' => ∃ (j : Nat) (xs : List Value), gh + j = n1 ∧ i = .int .i64 (j : Int) ∧ St (fun _ => False) w0 w' [PFo p m st', RPo q m st', SLo 0 5 1 (.slice A3 n1 c3) n1 xs])
            case atStart => exact ⟨0, _, by omega, rfl, S7.out⟩
            case round =>
              obtain ⟨j, xs, hj, rfl, hs⟩ := hrel
              cases gk with
              | succ g2 =>
                have j1 : (j : Int) < (n1 : Int) := by omega
                obtain ⟨g, rfl⟩ := own_some6 (St.own2 hs) (by omega)
                obtain ⟨cur, hb, y1, y2, y3, _⟩ := own_blk (St.own2 hs)
                obtain ⟨u0, hc⟩ : ∃ u0, wr.cell? ⟨g, j, none⟩ = some u0 := ⟨cur[j]'(by omega), by rw [hb.cell, List.getElem?_eq_getElem (by omega)]⟩
                have hf := hb.frozen j
                have S8 := Lib.hid (st_put [PFo p m st', RPo q m st'] hs j (.int .u8 77))
                have HJ := Lib.hid hj
                clear hs hb y1 y2 y3 hj
                go_wp2
                go_roundg g2
                case measure => omega
                case rel => exact ⟨j + 1, _, by have := HJ.out; omega, by go_num, S8.out⟩
              | zero =>
                have j1 : ¬ (j : Int) < (n1 : Int) := by omega
                have S8 := Lib.hid (St.drop2 hs)
                have hq := rpar_S S8.out
                have q0 := hq.cell 0
                have hql := hq.lt
                simp only [List.getElem?_cons_zero] at q0
                clear hs hq S7 S6 S5 HS4 HR4
                go_wp2
                go_quiet (first | (go_at_call 25; exact Calls.quiet_of_same (size_s (St.drewN S8.out _))))
                go_wp2
                go_roundg g1
                case measure => omega
                case rel => exact ⟨k + 1, m, st', by have := HK.out; omega, by go_num, St.drewN S8.out _⟩
end Go.Proofs.YtokbdkbljgdcpaaDoor

/- Rows.FrameReadsCardSaid: for every input the law FrameReads answers true, and each argument reads behind the call as it did before; the variable counts starts as the text of the program lays it (the card ties it). No condition beside the row's own. -/
namespace Go.Proofs.YtokbdkbljgdcpaaDoor.frameReadsFrame
open Go.ChangeShapes Go.WideShapes Go.ChangeAt Go.RowKit Go.Own
open Go.ChangeMaps (open_string shut_string)
set_option linter.unusedVariables false

theorem own : ownKnob Tryd.prog.godebug = none := by kernel_rfl
theorem laidOut : laidOutB Tryd.prog = true := by kernel_rfl

theorem laid_met (os : Os) : laidMet Tryd.prog Rows.frameReadsRow.laid ((laidWorld os).forCall (fun _ _ => 0) ⟨#[], #[.int .i64 0, .slice none 0 0], []⟩).memory :=
  laidMet_of_run' 8 (by kernel_rfl) (by kernel_rfl)
theorem reads (os : Os) {H : Type} (enc : TypeId × Value → H) : ∃ places, DataW.whole enc Tryd.prog ((laidWorld os).forCall (fun _ _ => 0) ⟨#[], #[.int .i64 0, .slice none 0 0], []⟩).memory Tryd.f4.params.toList Rows.frameReadsSpec.vars false (#[.int .i64 0, .slice none 0 0] : Array Value).toList 8 = some ([.lit (.int .i64 0), .nil], [], places) :=
  ⟨[], by kernel_rfl⟩

set_option maxRecDepth 100000 in
theorem lifted (os : Os) (started : os.Started) (H : Type) (enc : TypeId × Value → H) (F : Stop.Interp) :
    ReturnsInHanded {} Tryd.checked os 4 .any ((OpenSpec.ofChange Rows.frameReadsSpec).preRow enc Tryd.prog Tryd.f4 Rows.frameReadsRow.domain false Rows.frameReadsRow.laid) (((OpenSpec.ofChange Rows.frameReadsSpec).at F).post enc Tryd.prog Tryd.f4 false true false false) := by
  obtain ⟨places, hx⟩ := reads os enc
  refine returnsInHanded_of_row (C := Tryd.checked) (s := (OpenSpec.ofChange Rows.frameReadsSpec)) own started (by kernel_rfl) Tryd.func4
    (witness_row_at (enc := enc) (C := Tryd.checked) false (laidWorld os) #[.int .i64 0, .slice none 0 0] rfl (by kernel_rfl) (by kernel_rfl) (by kernel_rfl)
      (OpenSpec.preRow_of_cond 8 hx (by kernel_rfl) (fun k hk => by cases hk) (by kernel_rfl) (laid_met os))) ?_
  intro W base args ds gs before hval0 hW _ hcond hsz0 hL _ _
  have hval : ∀ (j : Nat) t v, Tryd.f4.params[j]? = some t → args[j]? = some v → Value.okWide Tryd.prog W .any base t v := hval0
  have hsz : (DataW.weightsEach Tryd.prog (Tryd.f4.params.toList ++ Rows.frameReadsSpec.plain.varTypes Tryd.prog) (ds ++ gs)).all (· ≤ reachBytes) = true := hsz0
  have hC := cnt_of_laid hL
  have hW' := hW
  obtain ⟨p, q, hA0, hV, rfl, hfz, hnd⟩ := hW
  have hA : DataW.TrodAll enc Tryd.prog W 0 (fun _ => true) true Tryd.f4.params.toList args.toList ds p := hA0
  rw [Tryd.params4] at hA hval hsz
  obtain ⟨v0, vs0, d0, ds0, p0, q0, hargs, rfl, rfl, h0, r0⟩ := trodAll_cons hA
  obtain ⟨v1, vs1, d1, ds1, p1, q1, rfl, rfl, rfl, h1, r1⟩ := trodAll_cons r0
  obtain ⟨rfl, rfl, rfl⟩ := trodAll_nil r1
  obtain rfl : args = #[v0, v1] := by cases args; simp_all
  obtain ⟨rfl, rfl⟩ := trodVars_none hV
  have k0 := h0
  have lt0 : ∀ x ∈ p0, x.block < W.heap.size := by obtain ⟨m, hm⟩ := k0; exact DataW.trod_lt m _ _ _ hm
  have k1 := h1
  have lt1 : ∀ x ∈ p1, x.block < W.heap.size := by obtain ⟨m, hm⟩ := k1; exact DataW.trod_lt m _ _ _ hm
  obtain ⟨a0, rfl, rfl, rfl, w0⟩ := open_int Tryd.underlying3 (hval 0 3 v0 rfl rfl) h0
  obtain ⟨a1, len1, cap1, rfl, s1⟩ := opened_slice 6 Tryd.underlying37 (hval 1 37 v1 rfl rfl) h1 (weights_of hsz (j := 1) rfl rfl)
  clear hA0 hval0
  refine (lawReads a0 (i64_of w0) s1 hC).mono fun e W' ⟨he, bel⟩ => ?_
  subst he
  exact ⟨_, rfl, _, _, _, [], _, [], hW', trodAll_mk1 (shut_bool Tryd.underlying4 _), (trodAll_cons_mk (Below.trod laidOut (by kernel_rfl) (of_decide_eq_true (by kernel_rfl)) k0 bel lt0) (trodAll_cons_mk (Below.trod laidOut (by kernel_rfl) (of_decide_eq_true (by kernel_rfl)) k1 bel lt1) trodAll_mk0)), rfl, bel.frame _, fun h => by cases h⟩

theorem said : Rows.FrameReadsSaid :=
  OpenClaim.holds_of_cond 4 Tryd.f4 rfl rfl rfl rfl rfl rfl rfl ⟨rfl, rfl, rfl, rfl, rfl⟩ rfl rfl rfl rfl rfl (by kernel_rfl) Tryd.func4 (by kernel_rfl)
    (of_decide_eq_true (by kernel_rfl)) (by unfold Func.isWrapper; first | (rw [if_pos (by decide +kernel)]; kernel_rfl) | (rw [if_neg (by decide +kernel)]; exact ⟨rfl, rfl⟩))
    (fun os started H enc _ F => by rw [OpenClaim.pre_eq_preRow]; exact lifted os started H enc F)

theorem plain (f : FuncId) (fn : Func) (hf : Tryd.pinned.checked.prog.funcNamed "flume/flumelaw06.FrameReads" = some f) (hfn : Tryd.pinned.checked.prog.funcs[f]? = some fn) :
    false = Tryd.pinned.checked.prog.looks [] ∧ ∀ (j : Nat) t, fn.params[j]? = some t → Tryd.pinned.checked.prog.wantsStandIn t = false := by
  obtain rfl : f = 4 := Option.some.inj ((show Tryd.prog.funcNamed "flume/flumelaw06.FrameReads" = some 4 by kernel_rfl).symm.trans hf) |>.symm
  obtain rfl : fn = Tryd.f4 := (Option.some.inj (Tryd.func4.symm.trans hfn)).symm
  refine ⟨by kernel_rfl, fun j t ht => ?_⟩
  rw [Tryd.params4] at ht
  have hm : t ∈ [3, 37] := by simpa using Array.mem_of_getElem? ht
  have hall : ([3, 37].all fun u => !Tryd.prog.wantsStandIn u) = true := by kernel_rfl
  exact (show Tryd.prog.wantsStandIn t = false by simpa using List.all_eq_true.1 hall t hm)

theorem proved : Rows.FrameReadsCardSaid :=
  Claim7.holds_tied_plain_at .later [] _ _ _ _ said (fun _ h => by cases h) (by kernel_rfl) (fun _ h => by cases h) frameReads_row_tie rfl ⟨rfl, rfl⟩ (by kernel_rfl) rfl plain (by kernel_rfl)
end Go.Proofs.YtokbdkbljgdcpaaDoor.frameReadsFrame
