/- The document's encoder: Encode. -/
import Derived.Test.YtinieljgcenemaaDoorR5F
import Derived.Deep.LoopGhost
import Derived.Deep.QuietTactic
namespace Go.Proofs.YtinieljgcenemaaDoor
open Go.RowKit Go.Own Go.Tbl Go.Huf Go.Hin
set_option linter.unusedVariables false
set_option maxRecDepth 100000
attribute [local go_sem ↓] Go.wp_at_zero Go.wp_at_succ

/-- what a call leaves that writes a block -/
def EncR (w : World) (F : Nat → Prop) (p h' : Nat) (l' : List Fld) (T : ByteArray) (e : Ending) (w' : World) : Prop := e = .returned (.string T) ∧ St F w w' [REo p h' l' []]
theorem r5upd_c {w : World} {p r h : Nat} {G : Nat → Prop} {l : List Fld} {v : Value} (t : RX w r G h l) (b : Blk w p 72 [.pointer (some ⟨r, 0, none⟩), v]) (n : Nat) (hn : n ≤ 65536) (z : Int) (hz : z = (n : Int)) (S : ByteArray) (hS : ofB (updB n) = S) :
    Calls Tryd.prog 41 #[.pointer (some ⟨p, 0, none⟩), .int .i64 z] w fun e w' => ∃ G', e = .returned (.string S) ∧ RX w' r G' n (pre n l) ∧ (∀ i, G' i → G i ∨ w.heap.size ≤ i) ∧ Fr G w w' := by
  subst hz
  exact r5upd cInt t b n hn S hS
/-- the cell of the k-th that was told -/
theorem rd_iv {w : World} {A : Option Addr} {n k x : Nat} {cs : List Nat} (h : Rd w 1 A n (cs.map IV)) (hk : cs[k]? = some x) (hn : cs.length = n) : ∃ b o, A = some ⟨b, o, none⟩ ∧ w.cell? ⟨b, o + k, none⟩ = some (.int .i64 (x : Int)) := by
  have hlt : k < cs.length := (List.getElem?_eq_some_iff.1 hk).1
  obtain ⟨b, o, rfl, hc⟩ := h.2 (by omega)
  exact ⟨b, o, rfl, hc k _ (by rw [List.getElem?_map, hk]; rfl)⟩
section
variable {w : World} {p h : Nat} {l : List Fld} {cs : List Nat} {F : Nat → Prop}
set_option maxHeartbeats 8000000 in
theorem r5Encode_nil (t : REo p h l [] w F) {A0 : Option Addr} {n0 c0 : Nat} {fs : List Fld} (hr : Rd w 3 A0 n0 (fcellsL fs)) (hlen : fs.length = n0) (hn0 : n0 ≤ 20) (hA : ∀ a, A0 = some a → ¬ F a.block) (hfs : ∀ f ∈ fs, f.n.size ≤ 400 ∧ f.v.size ≤ 400) (hk : Ok statL h l)
    (L : List UInt8) (h1 : Nat) (l' : List Fld) (L1 : List UInt8) (l1 : List Fld) (hU : L1 = [] ∧ h1 = h ∧ l1 = l) (hOk1 : Ok statL h1 l1) (e1 : L1 ++ (manyE statL h1 l1 fs).1 = L) (e3 : (manyE statL h1 l1 fs).2 = l') (T : ByteArray) (hT : ofB L = T) (hN2 : L.length ≤ 1048576) :
    Calls Tryd.prog 20 #[.pointer (some ⟨p, 0, none⟩), .slice A0 n0 c0] w (EncR w F p h1 l' T) := by
  have Hr := Lib.hid hr
  have Hlen := Lib.hid hlen
  have HA := Lib.hid hA
  have Hfs := Lib.hid hfs
  have HOk1 := Lib.hid hOk1
  have E1 : Hid (L1 ++ (manyE statL h1 l1 (fs.drop 0)).1 = L) := e1
  have E3 : Hid ((manyE statL h1 l1 (fs.drop 0)).2 = l') := e3
  have HT := Lib.hid hT
  have hl1 : L1.length ≤ 1048576 := by
    have h1 := hN2
    rw [← e1] at h1
    simp only [List.length_append] at h1
    omega
  clear hr hlen hA hfs hOk1 e1 e3 hT
  obtain ⟨_, _, r, A, c, k, hk0, s0⟩ := re_open (re_start t)
  obtain rfl : 0 = k := hk0
  obtain ⟨rfl, rfl, rfl⟩ := hU
  have y1 := s0.blk0.cell 1
  simp only [List.getElem?_cons_zero, List.getElem?_cons_succ] at y1
  have SE := Lib.hid s0
  obtain ⟨T1, hT1⟩ : ∃ T1 : ByteArray, (⟨#[]⟩ : ByteArray) = T1 := ⟨_, rfl⟩
  have HT1 : Hid (ofB [] = T1) := hT1
  clear s0 t hk
  go_enter Tryd.func20, Tryd.ntmps20
  go_wp2
  rw [hT1]
  go_loopg [9, 5] n0 (fun gh i b w' => ∃ (k : Nat) (Lk : List UInt8) (lk : List Fld) (Tk : ByteArray), gh + k = n0 ∧ i = .int .i64 (k : Int) ∧ b = .string Tk ∧ ofB Lk = Tk ∧ Lk ++ (manyE statL h1 lk (fs.drop k)).1 = L ∧ (manyE statL h1 lk (fs.drop k)).2 = l' ∧ Ok statL h1 lk ∧ St F w w' [BLo p 72 (rencCells r A 0 c), RXo r h1 lk, ISo A c 0 []])
  case atStart => exact ⟨0, _, _, T1, by omega, rfl, rfl, HT1.out, E1.out, E3.out, HOk1.out, SE.out⟩
  case round =>
    obtain ⟨k, Lk, lk, Tk, hk, rfl, rfl, hTk, e1, e3, hok, s3⟩ := hrel
    cases gk with
    | succ g1 =>
      have hkn : k < n0 := by omega
      obtain ⟨f, hf⟩ : ∃ f, fs[k]? = some f := ⟨_, List.getElem?_eq_getElem (by rw [Hlen.out]; exact hkn)⟩
      have hdr : fs.drop k = f :: fs.drop (k + 1) := by
        obtain ⟨hlt, he⟩ := List.getElem?_eq_some_iff.1 hf
        rw [List.drop_eq_getElem_cons hlt, he]
      rw [hdr, manyE_cons] at e1 e3
      obtain ⟨⟨Lf, lf⟩, ho⟩ : ∃ z, oneE statL h1 lk f = z := ⟨_, rfl⟩
      rw [ho] at e1 e3
      simp only at e1 e3
      obtain ⟨Tf, hTf⟩ : ∃ Tf, ofB Lf = Tf := ⟨_, rfl⟩
      obtain ⟨T2, hT2⟩ : ∃ T2, Tk ++ Tf = T2 := ⟨_, rfl⟩
      have hTS : ofB (Lk ++ Lf) = T2 := by rw [← hT2, ← hTk, ← hTf, ofB_append]
      have hsum : Lk.length + Lf.length ≤ 1048576 := by
        have h1 := hN2
        rw [← e1] at h1
        simp only [List.length_append] at h1
        omega
      have sTk : Tk.size ≤ 1048576 := by rw [← hTk, ofB_size]; omega
      have sTf : Tf.size ≤ 1048576 := by rw [← hTf, ofB_size]; omega
      have hokf : Ok statL h1 lf := by have := hok.one f; rw [ho] at this; exact this
      obtain ⟨hf1, hf2⟩ := Hfs.out f (List.mem_of_getElem? hf)
      have hf1 : f.n.size ≤ 1048576 := by omega
      have hf2 : f.v.size ≤ 1048576 := by omega
      obtain ⟨bb, oo, hA0, d0, d1, d2⟩ := rd_fld (s3.rd Hr.out HA.out) hf
      have S3 := Lib.hid s3
      have Ho := Lib.hid ho
      have HTf := Lib.hid hTf
      have HTS := Lib.hid hTS
      have Hok := Lib.hid hok
      have Hokf := Lib.hid hokf
      have G1 : Hid ((Lk ++ Lf) ++ (manyE statL h1 lf (fs.drop (k + 1))).1 = L) := by rw [List.append_assoc]; exact e1
      have G3 := Lib.hid e3
      have k1 : (k : Int) < (n0 : Int) := by omega
      cases hA0
      clear s3 ho hTf hTS hok hokf e1 e3 hf hdr SE hTk
      obtain ⟨n, v, nv⟩ := f
      go_wp2_with (first
        | (go_at_call 42; (obtain ⟨F4, t4, _, _, go⟩ := S3.out.focus1); (with_reducible refine (r5oneE_c t4 S3.out.blk0 n v nv hf1 hf2 Hok.out Lf lf Ho.out Tf HTf.out).mono ?_); rintro e w5 ⟨rfl, s5⟩
           have S5 := Lib.hid (go _ _ [] s5)
           clear s5 t4 go))
      go_roundg g1
      case measure => omega
      case rel => exact ⟨k + 1, Lk ++ Lf, lf, T2, by omega, by go_num, rfl, HTS.out, G1.out, G3.out, Hokf.out, S5.out⟩
    | zero =>
      obtain rfl : k = n0 := by omega
      rw [List.drop_eq_nil_of_le (by rw [Hlen.out]; exact Nat.le_refl _)] at e1 e3
      simp only [manyE, List.append_nil] at e1 e3
      subst e1
      subst e3
      have S3 := Lib.hid s3
      have Hok := Lib.hid hok
      have H3 := Lib.hid (hTk.symm.trans HT.out)
      clear s3 hok hTk
      go_wp2
      go_ret
      exact ⟨by rw [H3.out]; rfl, re_close (cs := []) S3.out Hok.out (fun n hn => by cases hn) rfl⟩
set_option maxHeartbeats 8000000 in
theorem r5Encode_one (t : REo p h l cs w F) {A0 : Option Addr} {n0 c0 : Nat} {fs : List Fld} (hr : Rd w 3 A0 n0 (fcellsL fs)) (hlen : fs.length = n0) (hn0 : n0 ≤ 20) (hA : ∀ a, A0 = some a → ¬ F a.block) (hfs : ∀ f ∈ fs, f.n.size ≤ 400 ∧ f.v.size ≤ 400) (hk : Ok statL h l) (hcs : cs ≠ []) (hcl : cs.length ≤ 1000) (least last : Nat) (hla : cs.getLast hcs = last) (hle : leastOf last cs = least) (hlt : ¬ least < last)
    (L : List UInt8) (h1 : Nat) (l' : List Fld) (L1 : List UInt8) (l1 : List Fld) (hU : L1 = updB last ∧ h1 = last ∧ l1 = pre last l) (hOk1 : Ok statL h1 l1) (e1 : L1 ++ (manyE statL h1 l1 fs).1 = L) (e3 : (manyE statL h1 l1 fs).2 = l') (T : ByteArray) (hT : ofB L = T) (hN2 : L.length ≤ 1048576) :
    Calls Tryd.prog 20 #[.pointer (some ⟨p, 0, none⟩), .slice A0 n0 c0] w (EncR w F p h1 l' T) := by
  have Hr := Lib.hid hr
  have Hlen := Lib.hid hlen
  have HA := Lib.hid hA
  have Hfs := Lib.hid hfs
  have HOk1 := Lib.hid hOk1
  have E1 : Hid (L1 ++ (manyE statL h1 l1 (fs.drop 0)).1 = L) := e1
  have E3 : Hid ((manyE statL h1 l1 (fs.drop 0)).2 = l') := e3
  have HT := Lib.hid hT
  have hl1 : L1.length ≤ 1048576 := by
    have h1 := hN2
    rw [← e1] at h1
    simp only [List.length_append] at h1
    omega
  clear hr hlen hA hfs hOk1 e1 e3 hT
  obtain ⟨_, hl6, r, A, c, k, hk0, s0⟩ := re_open (re_start t)
  obtain ⟨rfl, rfl, rfl⟩ := hU
  have hkp : 0 < k := by rw [← hk0]; exact List.length_pos_iff.2 hcs
  obtain ⟨j, rfl⟩ : ∃ j, k = j + 1 := ⟨k - 1, by omega⟩
  have hlast : cs[j]? = some h1 := by
    rw [← hla, List.getLast_eq_getElem hcs, List.getElem?_eq_getElem (by omega)]
    congr 2
    omega
  have hh1 : h1 ≤ 65536 := hl6 h1 (List.mem_of_getElem? hlast)
  have hle2 : least ≤ h1 := hle ▸ leastOf_le cs h1
  obtain ⟨bb, oo, hAa, d0⟩ := rd_iv (Rd.of_own s0.own2) hlast hk0
  have y1 := s0.blk0.cell 1
  simp only [List.getElem?_cons_zero, List.getElem?_cons_succ] at y1
  have S0 := Lib.hid s0
  have Hk0 := Lib.hid hk0
  have Hle := Lib.hid hle
  have Hl6 := Lib.hid hl6
  obtain ⟨U2, hU2⟩ : ∃ U, ofB (updB h1) = U := ⟨_, rfl⟩
  have sU2 : U2.size ≤ 6 := by rw [← hU2, ofB_size]; exact putB_le _ _ _ (by omega)
  obtain ⟨T1, hT1⟩ : ∃ T1 : ByteArray, (⟨#[]⟩ : ByteArray) ++ U2 = T1 := ⟨_, rfl⟩
  have HT1 : Hid (ofB (updB h1) = T1) := by rw [← hT1, ← hU2]; exact (by show _ = ofB [] ++ _; rw [ofB_append]; rfl)
  have klt : ¬ (least : Int) < (h1 : Int) := by omega
  have HU2 := Lib.hid hU2
  have hj : j ≤ 1000 := by omega
  have jw : IntKind.i64.wrap (j : Int) = (j : Int) := by rw [IntKind.wrap_i64]; omega
  have j2 : (0 : Int) < ((j + 1 : Nat) : Int) := by omega
  have j3 : (j : Int) < ((j + 1 : Nat) : Int) := by omega
  cases hAa
  clear s0 t hk hk0 hle hl6 hU2 hla hlast
  go_enter Tryd.func20, Tryd.ntmps20
  go_wp2
  go_quiet (fail)
  have SQ := Lib.hid (S0.out.drewN nq)
  clear S0
  go_wp2
  go_loopg [8, 7] (j + 1) (fun gh i m w' => ∃ (k x : Nat), gh + k = j + 1 ∧ i = .int .i64 (k : Int) ∧ m = .int .i64 (x : Int) ∧ leastOf x (cs.drop k) = least ∧ x ≤ 65536 ∧ w' = w.drewN nq)
  case atStart => exact ⟨0, h1, by omega, rfl, rfl, Hle.out, hh1, rfl⟩
  case round =>
    obtain ⟨k, x, hgk, rfl, rfl, hx, hx6, rfl⟩ := hrel
    have Hx := Lib.hid hx
    clear hx
    cases gk with
    | succ g1 =>
      have hkn : k < j + 1 := by omega
      obtain ⟨m, hm⟩ : ∃ m, cs[k]? = some m := ⟨_, List.getElem?_eq_getElem (by rw [Hk0.out]; exact hkn)⟩
      have hdr : cs.drop k = m :: cs.drop (k + 1) := by
        obtain ⟨hlt, he⟩ := List.getElem?_eq_some_iff.1 hm
        rw [List.drop_eq_getElem_cons hlt, he]
      have hx2 := Hx.out
      rw [hdr, leastOf] at hx2
      have hm6 := Hl6.out m (List.mem_of_getElem? hm)
      obtain ⟨b2, o2, hA2, m0⟩ := rd_iv (Rd.of_own SQ.out.own2) hm Hk0.out
      cases hA2
      have k1 : (k : Int) < ((j + 1 : Nat) : Int) := by omega
      clear hm hdr
      by_cases hmx : m < x
      · rw [if_pos hmx] at hx2
        have HX2 := Lib.hid hx2
        have kx : (m : Int) < (x : Int) := by omega
        clear hx2 hmx
        go_wp2
        go_roundg g1
        case measure => omega
        case rel => exact ⟨k + 1, m, by omega, by go_num, rfl, HX2.out, hm6, rfl⟩
      · rw [if_neg hmx] at hx2
        have HX2 := Lib.hid hx2
        have kx : ¬ (m : Int) < (x : Int) := by omega
        clear hx2 hmx
        go_wp2
        go_roundg g1
        case measure => omega
        case rel => exact ⟨k + 1, x, by omega, by go_num, rfl, HX2.out, hx6, rfl⟩
    | zero =>
      obtain rfl : k = j + 1 := by omega
      have hx3 := Hx.out
      rw [List.drop_eq_nil_of_le (by rw [Hk0.out]; exact Nat.le_refl _), leastOf] at hx3
      subst hx3
      clear Hx
      go_wp2_with (first
        | (go_at_call 41; (obtain ⟨F4, t4, _, _, go⟩ := SQ.out.focus1); (with_reducible refine (r5upd_c t4 SQ.out.blk0 h1 hh1 _ rfl U2 HU2.out).mono ?_); rintro e w7 ⟨G7, rfl, t7, hG7, f7⟩
           have S7 := Lib.hid (go _ _ [] (RX.st t7 hG7 f7))
           have X7 := S7.out.blk0
           have v1 := X7.cell 1
           have vf := X7.frozen
           simp only [List.getElem?_cons_zero, List.getElem?_cons_succ] at v1
           clear t4 go t7 hG7 f7 X7))
      have SE := Lib.hid (st_nilS (S7.out.set0 1 (.slice none 0 0)).drop2 3 1)
      clear S7 v1 vf SQ
      go_loopg [9, 5] n0 (fun gh i b w' => ∃ (k : Nat) (Lk : List UInt8) (lk : List Fld) (Tk : ByteArray), gh + k = n0 ∧ i = .int .i64 (k : Int) ∧ b = .string Tk ∧ ofB Lk = Tk ∧ Lk ++ (manyE statL h1 lk (fs.drop k)).1 = L ∧ (manyE statL h1 lk (fs.drop k)).2 = l' ∧ Ok statL h1 lk ∧ St F w w' [BLo p 72 (rencCells r none 0 0), RXo r h1 lk, ISo none 0 0 []])
      case atStart => exact ⟨0, _, _, T1, by omega, rfl, rfl, HT1.out, E1.out, E3.out, HOk1.out, SE.out⟩
      case round =>
        obtain ⟨k, Lk, lk, Tk, hk, rfl, rfl, hTk, e1, e3, hok, s3⟩ := hrel
        cases gk with
        | succ g1 =>
          have hkn : k < n0 := by omega
          obtain ⟨f, hf⟩ : ∃ f, fs[k]? = some f := ⟨_, List.getElem?_eq_getElem (by rw [Hlen.out]; exact hkn)⟩
          have hdr : fs.drop k = f :: fs.drop (k + 1) := by
            obtain ⟨hlt, he⟩ := List.getElem?_eq_some_iff.1 hf
            rw [List.drop_eq_getElem_cons hlt, he]
          rw [hdr, manyE_cons] at e1 e3
          obtain ⟨⟨Lf, lf⟩, ho⟩ : ∃ z, oneE statL h1 lk f = z := ⟨_, rfl⟩
          rw [ho] at e1 e3
          simp only at e1 e3
          obtain ⟨Tf, hTf⟩ : ∃ Tf, ofB Lf = Tf := ⟨_, rfl⟩
          obtain ⟨T2, hT2⟩ : ∃ T2, Tk ++ Tf = T2 := ⟨_, rfl⟩
          have hTS : ofB (Lk ++ Lf) = T2 := by rw [← hT2, ← hTk, ← hTf, ofB_append]
          have hsum : Lk.length + Lf.length ≤ 1048576 := by
            have h1 := hN2
            rw [← e1] at h1
            simp only [List.length_append] at h1
            omega
          have sTk : Tk.size ≤ 1048576 := by rw [← hTk, ofB_size]; omega
          have sTf : Tf.size ≤ 1048576 := by rw [← hTf, ofB_size]; omega
          have hokf : Ok statL h1 lf := by have := hok.one f; rw [ho] at this; exact this
          obtain ⟨hf1, hf2⟩ := Hfs.out f (List.mem_of_getElem? hf)
          have hf1 : f.n.size ≤ 1048576 := by omega
          have hf2 : f.v.size ≤ 1048576 := by omega
          obtain ⟨bb, oo, hA0, d0, d1, d2⟩ := rd_fld (s3.rd Hr.out HA.out) hf
          have S3 := Lib.hid s3
          have Ho := Lib.hid ho
          have HTf := Lib.hid hTf
          have HTS := Lib.hid hTS
          have Hok := Lib.hid hok
          have Hokf := Lib.hid hokf
          have G1 : Hid ((Lk ++ Lf) ++ (manyE statL h1 lf (fs.drop (k + 1))).1 = L) := by rw [List.append_assoc]; exact e1
          have G3 := Lib.hid e3
          have k1 : (k : Int) < (n0 : Int) := by omega
          cases hA0
          clear s3 ho hTf hTS hok hokf e1 e3 hf hdr SE hTk
          obtain ⟨n, v, nv⟩ := f
          go_wp2_with (first
            | (go_at_call 42; (obtain ⟨F4, t4, _, _, go⟩ := S3.out.focus1); (with_reducible refine (r5oneE_c t4 S3.out.blk0 n v nv hf1 hf2 Hok.out Lf lf Ho.out Tf HTf.out).mono ?_); rintro e w5 ⟨rfl, s5⟩
               have S5 := Lib.hid (go _ _ [] s5)
               clear s5 t4 go))
          go_roundg g1
          case measure => omega
          case rel => exact ⟨k + 1, Lk ++ Lf, lf, T2, by omega, by go_num, rfl, HTS.out, G1.out, G3.out, Hokf.out, S5.out⟩
        | zero =>
          obtain rfl : k = n0 := by omega
          rw [List.drop_eq_nil_of_le (by rw [Hlen.out]; exact Nat.le_refl _)] at e1 e3
          simp only [manyE, List.append_nil] at e1 e3
          subst e1
          subst e3
          have S3 := Lib.hid s3
          have Hok := Lib.hid hok
          have H3 := Lib.hid (hTk.symm.trans HT.out)
          clear s3 hok hTk
          go_wp2
          go_ret
          exact ⟨by rw [H3.out]; rfl, re_close (cs := []) S3.out Hok.out (fun n hn => by cases hn) rfl⟩
set_option maxHeartbeats 8000000 in
theorem r5Encode_two (t : REo p h l cs w F) {A0 : Option Addr} {n0 c0 : Nat} {fs : List Fld} (hr : Rd w 3 A0 n0 (fcellsL fs)) (hlen : fs.length = n0) (hn0 : n0 ≤ 20) (hA : ∀ a, A0 = some a → ¬ F a.block) (hfs : ∀ f ∈ fs, f.n.size ≤ 400 ∧ f.v.size ≤ 400) (hk : Ok statL h l) (hcs : cs ≠ []) (hcl : cs.length ≤ 1000) (least last : Nat) (hla : cs.getLast hcs = last) (hle : leastOf last cs = least) (hlt : least < last)
    (L : List UInt8) (h1 : Nat) (l' : List Fld) (L1 : List UInt8) (l1 : List Fld) (hU : L1 = updB least ++ updB last ∧ h1 = last ∧ l1 = pre last (pre least l)) (hOk1 : Ok statL h1 l1) (e1 : L1 ++ (manyE statL h1 l1 fs).1 = L) (e3 : (manyE statL h1 l1 fs).2 = l') (T : ByteArray) (hT : ofB L = T) (hN2 : L.length ≤ 1048576) :
    Calls Tryd.prog 20 #[.pointer (some ⟨p, 0, none⟩), .slice A0 n0 c0] w (EncR w F p h1 l' T) := by
  have Hr := Lib.hid hr
  have Hlen := Lib.hid hlen
  have HA := Lib.hid hA
  have Hfs := Lib.hid hfs
  have HOk1 := Lib.hid hOk1
  have E1 : Hid (L1 ++ (manyE statL h1 l1 (fs.drop 0)).1 = L) := e1
  have E3 : Hid ((manyE statL h1 l1 (fs.drop 0)).2 = l') := e3
  have HT := Lib.hid hT
  have hl1 : L1.length ≤ 1048576 := by
    have h1 := hN2
    rw [← e1] at h1
    simp only [List.length_append] at h1
    omega
  clear hr hlen hA hfs hOk1 e1 e3 hT
  obtain ⟨_, hl6, r, A, c, k, hk0, s0⟩ := re_open (re_start t)
  obtain ⟨rfl, rfl, rfl⟩ := hU
  have hkp : 0 < k := by rw [← hk0]; exact List.length_pos_iff.2 hcs
  obtain ⟨j, rfl⟩ : ∃ j, k = j + 1 := ⟨k - 1, by omega⟩
  have hlast : cs[j]? = some h1 := by
    rw [← hla, List.getLast_eq_getElem hcs, List.getElem?_eq_getElem (by omega)]
    congr 2
    omega
  have hh1 : h1 ≤ 65536 := hl6 h1 (List.mem_of_getElem? hlast)
  have hle2 : least ≤ h1 := hle ▸ leastOf_le cs h1
  obtain ⟨bb, oo, hAa, d0⟩ := rd_iv (Rd.of_own s0.own2) hlast hk0
  have y1 := s0.blk0.cell 1
  simp only [List.getElem?_cons_zero, List.getElem?_cons_succ] at y1
  have S0 := Lib.hid s0
  have Hk0 := Lib.hid hk0
  have Hle := Lib.hid hle
  have Hl6 := Lib.hid hl6
  obtain ⟨U2, hU2⟩ : ∃ U, ofB (updB h1) = U := ⟨_, rfl⟩
  have sU2 : U2.size ≤ 6 := by rw [← hU2, ofB_size]; exact putB_le _ _ _ (by omega)
  obtain ⟨U1, hU1⟩ : ∃ U, ofB (updB least) = U := ⟨_, rfl⟩
  have sU1 : U1.size ≤ 6 := by rw [← hU1, ofB_size]; exact putB_le _ _ _ (by omega)
  have HU1 := Lib.hid hU1
  obtain ⟨T1, hT1⟩ : ∃ T1 : ByteArray, U1 ++ U2 = T1 := ⟨_, rfl⟩
  have HT1 : Hid (ofB (updB least ++ updB h1) = T1) := by rw [← hT1, ← hU1, ← hU2, ofB_append]; exact rfl
  have klt : (least : Int) < (h1 : Int) := by omega
  clear hU1
  have HU2 := Lib.hid hU2
  have hj : j ≤ 1000 := by omega
  have jw : IntKind.i64.wrap (j : Int) = (j : Int) := by rw [IntKind.wrap_i64]; omega
  have j2 : (0 : Int) < ((j + 1 : Nat) : Int) := by omega
  have j3 : (j : Int) < ((j + 1 : Nat) : Int) := by omega
  cases hAa
  clear s0 t hk hk0 hle hl6 hU2 hla hlast
  go_enter Tryd.func20, Tryd.ntmps20
  go_wp2
  go_quiet (fail)
  have SQ := Lib.hid (S0.out.drewN nq)
  clear S0
  go_wp2
  go_loopg [8, 7] (j + 1) (fun gh i m w' => ∃ (k x : Nat), gh + k = j + 1 ∧ i = .int .i64 (k : Int) ∧ m = .int .i64 (x : Int) ∧ leastOf x (cs.drop k) = least ∧ x ≤ 65536 ∧ w' = w.drewN nq)
  case atStart => exact ⟨0, h1, by omega, rfl, rfl, Hle.out, hh1, rfl⟩
  case round =>
    obtain ⟨k, x, hgk, rfl, rfl, hx, hx6, rfl⟩ := hrel
    have Hx := Lib.hid hx
    clear hx
    cases gk with
    | succ g1 =>
      have hkn : k < j + 1 := by omega
      obtain ⟨m, hm⟩ : ∃ m, cs[k]? = some m := ⟨_, List.getElem?_eq_getElem (by rw [Hk0.out]; exact hkn)⟩
      have hdr : cs.drop k = m :: cs.drop (k + 1) := by
        obtain ⟨hlt, he⟩ := List.getElem?_eq_some_iff.1 hm
        rw [List.drop_eq_getElem_cons hlt, he]
      have hx2 := Hx.out
      rw [hdr, leastOf] at hx2
      have hm6 := Hl6.out m (List.mem_of_getElem? hm)
      obtain ⟨b2, o2, hA2, m0⟩ := rd_iv (Rd.of_own SQ.out.own2) hm Hk0.out
      cases hA2
      have k1 : (k : Int) < ((j + 1 : Nat) : Int) := by omega
      clear hm hdr
      by_cases hmx : m < x
      · rw [if_pos hmx] at hx2
        have HX2 := Lib.hid hx2
        have kx : (m : Int) < (x : Int) := by omega
        clear hx2 hmx
        go_wp2
        go_roundg g1
        case measure => omega
        case rel => exact ⟨k + 1, m, by omega, by go_num, rfl, HX2.out, hm6, rfl⟩
      · rw [if_neg hmx] at hx2
        have HX2 := Lib.hid hx2
        have kx : ¬ (m : Int) < (x : Int) := by omega
        clear hx2 hmx
        go_wp2
        go_roundg g1
        case measure => omega
        case rel => exact ⟨k + 1, x, by omega, by go_num, rfl, HX2.out, hx6, rfl⟩
    | zero =>
      obtain rfl : k = j + 1 := by omega
      have hx3 := Hx.out
      rw [List.drop_eq_nil_of_le (by rw [Hk0.out]; exact Nat.le_refl _), leastOf] at hx3
      subst hx3
      clear Hx
      go_wp2_with (first
        | (go_at_call 41; (obtain ⟨F4, t4, _, _, go⟩ := S6.out.focus1); (with_reducible refine (r5upd_c t4 S6.out.blk0 h1 hh1 _ rfl U2 HU2.out).mono ?_); rintro e w7 ⟨G7, rfl, t7, hG7, f7⟩
           have S7 := Lib.hid (go _ _ [] (RX.st t7 hG7 f7))
           have X7 := S7.out.blk0
           have v1 := X7.cell 1
           have vf := X7.frozen
           simp only [List.getElem?_cons_zero, List.getElem?_cons_succ] at v1
           clear t4 go t7 hG7 f7 X7)
        | (go_at_call 41; (obtain ⟨F4, t4, _, _, go⟩ := SQ.out.focus1); (with_reducible refine (r5upd_c t4 SQ.out.blk0 x hx6 _ rfl U1 HU1.out).mono ?_); rintro e w6 ⟨G6, rfl, t6, hG6, f6⟩
           have S6 := Lib.hid (go _ _ [] (RX.st t6 hG6 f6))
           clear t4 go t6 hG6 f6))
      have SE := Lib.hid (st_nilS (S7.out.set0 1 (.slice none 0 0)).drop2 3 1)
      clear S7 v1 vf SQ
      go_loopg [9, 5] n0 (fun gh i b w' => ∃ (k : Nat) (Lk : List UInt8) (lk : List Fld) (Tk : ByteArray), gh + k = n0 ∧ i = .int .i64 (k : Int) ∧ b = .string Tk ∧ ofB Lk = Tk ∧ Lk ++ (manyE statL h1 lk (fs.drop k)).1 = L ∧ (manyE statL h1 lk (fs.drop k)).2 = l' ∧ Ok statL h1 lk ∧ St F w w' [BLo p 72 (rencCells r none 0 0), RXo r h1 lk, ISo none 0 0 []])
      case atStart => exact ⟨0, _, _, T1, by omega, rfl, rfl, HT1.out, E1.out, E3.out, HOk1.out, SE.out⟩
      case round =>
        obtain ⟨k, Lk, lk, Tk, hk, rfl, rfl, hTk, e1, e3, hok, s3⟩ := hrel
        cases gk with
        | succ g1 =>
          have hkn : k < n0 := by omega
          obtain ⟨f, hf⟩ : ∃ f, fs[k]? = some f := ⟨_, List.getElem?_eq_getElem (by rw [Hlen.out]; exact hkn)⟩
          have hdr : fs.drop k = f :: fs.drop (k + 1) := by
            obtain ⟨hlt, he⟩ := List.getElem?_eq_some_iff.1 hf
            rw [List.drop_eq_getElem_cons hlt, he]
          rw [hdr, manyE_cons] at e1 e3
          obtain ⟨⟨Lf, lf⟩, ho⟩ : ∃ z, oneE statL h1 lk f = z := ⟨_, rfl⟩
          rw [ho] at e1 e3
          simp only at e1 e3
          obtain ⟨Tf, hTf⟩ : ∃ Tf, ofB Lf = Tf := ⟨_, rfl⟩
          obtain ⟨T2, hT2⟩ : ∃ T2, Tk ++ Tf = T2 := ⟨_, rfl⟩
          have hTS : ofB (Lk ++ Lf) = T2 := by rw [← hT2, ← hTk, ← hTf, ofB_append]
          have hsum : Lk.length + Lf.length ≤ 1048576 := by
            have h1 := hN2
            rw [← e1] at h1
            simp only [List.length_append] at h1
            omega
          have sTk : Tk.size ≤ 1048576 := by rw [← hTk, ofB_size]; omega
          have sTf : Tf.size ≤ 1048576 := by rw [← hTf, ofB_size]; omega
          have hokf : Ok statL h1 lf := by have := hok.one f; rw [ho] at this; exact this
          obtain ⟨hf1, hf2⟩ := Hfs.out f (List.mem_of_getElem? hf)
          have hf1 : f.n.size ≤ 1048576 := by omega
          have hf2 : f.v.size ≤ 1048576 := by omega
          obtain ⟨bb, oo, hA0, d0, d1, d2⟩ := rd_fld (s3.rd Hr.out HA.out) hf
          have S3 := Lib.hid s3
          have Ho := Lib.hid ho
          have HTf := Lib.hid hTf
          have HTS := Lib.hid hTS
          have Hok := Lib.hid hok
          have Hokf := Lib.hid hokf
          have G1 : Hid ((Lk ++ Lf) ++ (manyE statL h1 lf (fs.drop (k + 1))).1 = L) := by rw [List.append_assoc]; exact e1
          have G3 := Lib.hid e3
          have k1 : (k : Int) < (n0 : Int) := by omega
          cases hA0
          clear s3 ho hTf hTS hok hokf e1 e3 hf hdr SE hTk
          obtain ⟨n, v, nv⟩ := f
          go_wp2_with (first
            | (go_at_call 42; (obtain ⟨F4, t4, _, _, go⟩ := S3.out.focus1); (with_reducible refine (r5oneE_c t4 S3.out.blk0 n v nv hf1 hf2 Hok.out Lf lf Ho.out Tf HTf.out).mono ?_); rintro e w5 ⟨rfl, s5⟩
               have S5 := Lib.hid (go _ _ [] s5)
               clear s5 t4 go))
          go_roundg g1
          case measure => omega
          case rel => exact ⟨k + 1, Lk ++ Lf, lf, T2, by omega, by go_num, rfl, HTS.out, G1.out, G3.out, Hokf.out, S5.out⟩
        | zero =>
          obtain rfl : k = n0 := by omega
          rw [List.drop_eq_nil_of_le (by rw [Hlen.out]; exact Nat.le_refl _)] at e1 e3
          simp only [manyE, List.append_nil] at e1 e3
          subst e1
          subst e3
          have S3 := Lib.hid s3
          have Hok := Lib.hid hok
          have H3 := Lib.hid (hTk.symm.trans HT.out)
          clear s3 hok hTk
          go_wp2
          go_ret
          exact ⟨by rw [H3.out]; rfl, re_close (cs := []) S3.out Hok.out (fun n hn => by cases hn) rfl⟩
theorem r5Encode_c (t : REo p h l cs w F) {A0 : Option Addr} {n0 c0 : Nat} {fs : List Fld} (hr : Rd w 3 A0 n0 (fcellsL fs)) (hlen : fs.length = n0) (hn0 : n0 ≤ 20) (hA : ∀ a, A0 = some a → ¬ F a.block) (hfs : ∀ f ∈ fs, f.n.size ≤ 400 ∧ f.v.size ≤ 400) (hcl : cs.length ≤ 1000)
    (L : List UInt8) (h' : Nat) (l' : List Fld) (hE : blockE statL h l (pend cs) fs = (L, h', l')) (T : ByteArray) (hT : ofB L = T) (hN2 : L.length ≤ 1048576) :
    Calls Tryd.prog 20 #[.pointer (some ⟨p, 0, none⟩), .slice A0 n0 c0] w (EncR w F p h' l' T) := by
  obtain ⟨hk, hl6, _⟩ := re_open (re_start t)
  obtain ⟨⟨L1, h1, l1⟩, hU⟩ : ∃ z, updsE h l (pend cs) = z := ⟨_, rfl⟩
  rw [blockE, hU] at hE
  injection hE with e1 e2
  injection e2 with e2 e3
  simp only at e1 e2 e3
  subst e2
  by_cases hc : cs = []
  · subst hc
    have e : (([] : List UInt8), h, l) = (L1, h1, l1) := hU
    injection e with e4 e5
    injection e5 with e5 e6
    exact r5Encode_nil t hr hlen hn0 hA hfs hk L h1 l' L1 l1 ⟨e4.symm, e5.symm, e6.symm⟩ (e5 ▸ e6 ▸ hk) e1 e3 T hT hN2
  · rw [pend_eq hc, updsE] at hU
    have h6 : cs.getLast hc ≤ 65536 := hl6 _ (List.getLast_mem hc)
    have h5 : leastOf (cs.getLast hc) cs ≤ 65536 := Nat.le_trans (leastOf_le _ _) h6
    by_cases hlt : leastOf (cs.getLast hc) cs < cs.getLast hc
    · rw [if_pos hlt] at hU
      injection hU with e4 e5
      injection e5 with e5 e6
      have ok2 : Ok statL h1 l1 := by rw [← e5, ← e6]; exact (hk.set_ _ h5).set_ _ h6
      exact r5Encode_two t hr hlen hn0 hA hfs hk hc hcl _ _ rfl rfl hlt L h1 l' L1 l1 ⟨e4.symm, e5.symm, e6.symm⟩ ok2 e1 e3 T hT hN2
    · rw [if_neg hlt] at hU
      injection hU with e4 e5
      injection e5 with e5 e6
      have ok2 : Ok statL h1 l1 := by rw [← e5, ← e6]; exact hk.set_ _ h6
      exact r5Encode_one t hr hlen hn0 hA hfs hk hc hcl _ _ rfl rfl hlt L h1 l' L1 l1 ⟨e4.symm, e5.symm, e6.symm⟩ ok2 e1 e3 T hT hN2
end
end Go.Proofs.YtinieljgcenemaaDoor
