/- told: all that a parser tells of octets that come in pieces. -/
import Derived.Test.YtokbdkbljgdcpaaDoorYBA
import Derived.Deep.DeepCutAuto
import Derived.Deep.LoopGhost
namespace Go.Proofs.YtokbdkbljgdcpaaDoor
open Go.RowKit Go.Own Go.Frm
set_option linter.unusedVariables false
set_option maxRecDepth 100000
/-- slices of octets, one behind the other, apart from F -/
def Pcs (w : World) (F : Nat → Prop) (A : Option Addr) (n : Nat) (bs : List (List UInt8)) : Prop :=
  bs.length = n ∧ ∀ (i : Nat) (ys : List UInt8), bs[i]? = some ys → ∃ (b o : Nat) (B : Option Addr) (nb cb : Nat), A = some ⟨b, o, none⟩ ∧ ¬ F b ∧ w.cell? ⟨b, o + i, none⟩ = some (.slice B nb cb) ∧ (0 < nb → ∀ a : Addr, B = some a → ¬ F a.block) ∧ Rd w 1 B nb (ys.map BV) ∧ nb ≤ cb ∧ cb ≤ 9223372036854775807
def ToldQ (w : World) (F : Nat → Prop) (p m : Nat) (Z : List (Fm × Flt)) (st : Pst) (e : Ending) (w' : World) : Prop :=
  ∃ A1 c1 A2 c2 q l, e = .returned (.tuple #[.slice A1 q c1, .slice A2 q c2, .bool true]) ∧ l.length = q ∧ q ≤ 300000 ∧ tls l = Z ∧ St F w w' [PFo p m st, SLo w.heap.size 27 16 (.slice A1 q c1) q (fcells l), SLo w.heap.size 46 3 (.slice A2 q c2) q (xcells l), FrsO l]
theorem flat_len (b : List UInt8) (l : List (List UInt8)) : (b :: l).flatten.length = b.length + l.flatten.length := by simp
theorem feed_cut (m : Nat) (st : Pst) (ys : List UInt8) (nb : Nat) (h : ys.length = nb) : (feedP m st ys).held.length = st.held.length + feedN m st nb ∧ feedN m st nb ≤ nb := by
  subst h
  have : feedN m st ys.length ≤ ys.length := by
    unfold feedN
    cases st.done
    · exact Nat.min_le_left _ _
    · exact Nat.zero_le _
  refine ⟨?_, this⟩
  unfold feedP
  simp only [List.length_append, List.length_take]
  omega
theorem rd_fr0 {w w' : World} {size n : Nat} {A : Option Addr} {vs : List Value} {S : Nat → Prop} (h : Rd w size A n vs) (hf : Fr S w w') (hs : 0 < n → ∀ a : Addr, A = some a → ¬ S a.block) : Rd w' size A n vs := by
  cases n with
  | zero =>
    have h0 : vs = [] := List.eq_nil_of_length_eq_zero (by have := h.1; omega)
    subst h0
    exact Rd.nil _ _ _
  | succ n => exact h.fr hf (hs (by omega))
theorem b3_size (w : World) (o1 o2 : Obj) : ((w.alloc o1).alloc o2).heap.size = w.heap.size + 1 + 1 := by simp
theorem b3_cell (w : World) (o1 o3 : Obj) (cs : List Value) (t : TypeId) (i : Nat) : (((w.alloc o1).alloc (.cells cs.toArray t)).alloc o3).cell? ⟨w.heap.size + 1, i, none⟩ = cs[i]? := by
  have h : Blk ((w.alloc o1).alloc (.cells cs.toArray t)) (w.alloc o1).heap.size t cs := Blk.new _ _ _
  have e : (w.alloc o1).heap.size = w.heap.size + 1 := by simp
  rw [e] at h
  exact (h.alloc o3).cell i
theorem b3_rd (w : World) (o1 o2 : Obj) (cs : List Value) (t : TypeId) (k : Nat) (hk : cs.length = k) : Rd (((w.alloc o1).alloc o2).alloc (.cells cs.toArray t)) k (some ⟨w.heap.size + 1 + 1, 0, none⟩) 1 cs := by
  have h := Rd.of_blk (n := 1) (size := k) (Blk.new ((w.alloc o1).alloc o2) t cs) (by omega)
  rw [b3_size, List.take_of_length_le (by omega)] at h
  exact h
section
variable {w : World} {F : Nat → Prop} {p m : Nat}
set_option maxHeartbeats 8000000 in
theorem told_c {st : Pst} (hF : PFo p m st w F) (hG : Gl w) (g1 : ¬ F 1) (g2 : ¬ F 0) (D : Dry m st) {A : Option Addr} {n c : Nat} {bs : List (List UInt8)} (hbs : Pcs w F A n bs) (hnc : n ≤ c) (hn : n ≤ 1000000) (hT : st.held.length + bs.flatten.length ≤ 300000) :
    Calls Tryd.prog 26 #[.pointer (some ⟨p, 0, none⟩), .slice A n c] w fun e w' => ToldQ w F p m (toldP m st bs).1 (toldP m st bs).2 e w' := by
  have hm := hF.ok.2.2.1
  obtain ⟨Z, hZ⟩ : ∃ Z, (toldP m st bs).1 = Z := ⟨_, rfl⟩
  obtain ⟨sz, hsz⟩ : ∃ s, (toldP m st bs).2 = s := ⟨_, rfl⟩
  rw [hZ, hsz]
  have S0 : Hid (St F w w [PFo p m st, SLo w.heap.size 27 16 (.slice none 0 0) 0 (fcells []), SLo w.heap.size 46 3 (.slice none 0 0) 0 (xcells []), FrsO []]) := by
    have s1 := St.start (framed_PFo p m st) hF
    have s2 := s1.add (St.made (w := w) (framed_SLo w.heap.size 27 16 (.slice none 0 0) 0 (fcells [])) (F := fun i => (Value.slice none 0 0).ownBlock = some i) ⟨own_none _ _ _ _, rfl⟩ (fun i hi => by cases hi) (Below.refl _ _))
    have s3 := s2.add (St.made (w := w) (framed_SLo w.heap.size 46 3 (.slice none 0 0) 0 (xcells [])) (F := fun i => (Value.slice none 0 0).ownBlock = some i) ⟨own_none _ _ _ _, rfl⟩ (fun i hi => by cases hi) (Below.refl _ _))
    exact s3.add (St.made (w := w) (framed_FrsO []) (frs_nil w) (fun i hi => hi.elim) (Below.refl _ _))
  have HZ := Lib.hid hZ
  have HSZ := Lib.hid hsz
  have HG := Lib.hid hG
  have HF1 := Lib.hid g1
  have HF2 := Lib.hid g2
  have HD := Lib.hid D
  have HP := Lib.hid hbs
  have HM := Lib.hid hm
  have HTT := Lib.hid hT
  clear hZ hsz hG g1 g2 D hbs hF hm hT
  go_enter Tryd.func26, Tryd.ntmps26
  go_wp2
  go_loopg [7, 8, 9] n (fun gh v u i w' => ∃ (j q : Nat) (A1 : Option Addr) (c1 : Nat) (A2 : Option Addr) (c2 : Nat) (l : List Tl) (sj : Pst), gh + j = n ∧ i = .int .i64 (j : Int) ∧ v = .slice A1 q c1 ∧ u = .slice A2 q c2 ∧ l.length = q ∧ Dry m sj ∧ tls l ++ (toldP m sj (bs.drop j)).1 = Z ∧ (toldP m sj (bs.drop j)).2 = sz ∧ 9 * q + sj.held.length + (bs.drop j).flatten.length ≤ 300000 ∧
    St F w w' [PFo p m sj, SLo w.heap.size 27 16 (.slice A1 q c1) q (fcells l), SLo w.heap.size 46 3 (.slice A2 q c2) q (xcells l), FrsO l])
  case atStart => exact ⟨0, 0, none, 0, none, 0, [], st, by omega, rfl, rfl, rfl, rfl, HD.out, HZ.out, HSZ.out, by have := HTT.out; simpa using this, S0.out⟩
  case round =>
    obtain ⟨j, q, A1, c1, A2, c2, l, sj, hj, rfl, rfl, rfl, hq, hdry, hz1, hz2, hb, s1⟩ := hrel
    cases gk with
    | zero =>
      obtain rfl : j = n := by omega
      have hdl : bs.drop j = [] := List.drop_of_length_le (by rw [HP.out.1]; omega)
      rw [hdl] at hz1 hz2
      have S1 := Lib.hid s1
      have HQ := Lib.hid hq
      have H1 : Hid (tls l = Z) := by
        show tls l = Z
        simpa [toldP] using hz1
      have H2 : Hid (sj = sz) := hz2
      have HB : Hid (q ≤ 300000) := by show q ≤ 300000; omega
      clear s1 hq hz1 hz2 hb hdry hdl
      go_wp2
      have h2 := H2.out
      subst h2
      refine bodyPost_ret (v := .tuple #[.slice A1 q c1, .slice A2 q c2, .bool true]) (by simp [results, Tryd.results26, go_sem]) rfl ?_
      exact ⟨A1, c1, A2, c2, q, l, rfl, HQ.out, HB.out, H1.out, S1.out⟩
    | succ ga =>
      have hjn : j < n := by omega
      have k1 : (j : Int) < (n : Int) := by omega
      have hjl : j < bs.length := by rw [HP.out.1]; exact hjn
      obtain ⟨ys, hys⟩ : ∃ ys, bs[j]? = some ys := ⟨_, List.getElem?_eq_getElem hjl⟩
      obtain ⟨b, o, B, nb, cb, rfl, hFb, hcell, hBF, hrd, hnb, hcb⟩ := HP.out.2 j ys hys
      have hyl : ys.length = nb := by simpa using hrd.1
      have hdrop : bs.drop j = ys :: bs.drop (j + 1) := by
        rw [List.drop_eq_getElem_cons hjl]
        rw [List.getElem?_eq_getElem hjl] at hys
        injection hys with hys
        rw [hys]
      rw [hdrop] at hz1 hz2 hb
      rw [flat_len] at hb
      obtain ⟨rest, hrest⟩ : ∃ r, (bs.drop (j + 1)).flatten.length = r := ⟨_, rfl⟩
      rw [hrest, hyl] at hb
      have hmany := turn_many m 40000 sj ys hdry (by omega) HM.out (by omega)
      have hdry2 := turn_dry m sj ys hdry
      rw [← hmany] at hdry2
      simp only [toldP] at hz1 hz2
      rw [← hmany, ← List.append_assoc] at hz1
      rw [← hmany] at hz2
      obtain ⟨Z2, hZ2⟩ : ∃ Z2, tls l ++ (turnP m 40000 sj ys).1 = Z2 := ⟨_, rfl⟩
      obtain ⟨st2, hst2⟩ : ∃ s, (turnP m 40000 sj ys).2 = s := ⟨_, rfl⟩
      rw [hst2, hZ2] at hz1
      rw [hst2] at hz2 hdry2
      have hc1 := s1.fr.cell hcell hFb
      have hcl := World.block_lt_of_cell? _ _ hc1
      have S1 := Lib.hid s1
      have HQ := Lib.hid hq
      have HZ1 := Lib.hid hz1
      have HZ2 := Lib.hid hz2
      have HY2 := Lib.hid hZ2
      have HS2 := Lib.hid hst2
      have HD2 := Lib.hid hdry2
      have HRD := Lib.hid hrd
      have HBF := Lib.hid hBF
      have HYL := Lib.hid hyl
      have HB := Lib.hid hb
      have HRE := Lib.hid hrest
      have HJ := Lib.hid hj
      clear s1 hq hz1 hz2 hZ2 hst2 hdry2 hrd hBF hyl hb hdry hmany hdrop hys hrest hj hcell
      go_wp2
      go_loopg [7, 8, 10, 11] 40000 (fun gh v u bv t w' => ∃ (k q nb cb : Nat) (A1 : Option Addr) (c1 : Nat) (A2 : Option Addr) (c2 : Nat) (B : Option Addr) (l : List Tl) (sk : Pst) (zs : List UInt8), gh + k = 40000 ∧ t = .int .i64 (k : Int) ∧ v = .slice A1 q c1 ∧ u = .slice A2 q c2 ∧ bv = .slice B nb cb ∧ l.length = q ∧ (0 < nb → ∀ a : Addr, B = some a → ¬ F a.block) ∧ Rd w 1 B nb (zs.map BV) ∧ nb ≤ cb ∧ cb ≤ 9223372036854775807 ∧ tls l ++ (turnP m gh sk zs).1 = Z2 ∧ (turnP m gh sk zs).2 = st2 ∧ 9 * q + sk.held.length + (nb + rest) ≤ 300000 ∧
        St F w w' [PFo p m sk, SLo w.heap.size 27 16 (.slice A1 q c1) q (fcells l), SLo w.heap.size 46 3 (.slice A2 q c2) q (xcells l), FrsO l])
      case atStart => exact ⟨0, q, nb, cb, A1, c1, A2, c2, B, l, sj, ys, by omega, rfl, rfl, rfl, rfl, HQ.out, HBF.out, HRD.out, hnb, hcb, HY2.out, HS2.out, HB.out, S1.out⟩
      case round =>
        clear S1 HQ HYL HB HY2 HS2 HRD HBF
        obtain ⟨k, q, nb, cb, A1, c1, A2, c2, B, l, sk, zs, hk, rfl, rfl, rfl, rfl, hq, hBF, hrd, hnb, hcb, hz1, hz2, hb, s1⟩ := hrel
        cases gk with
        | zero =>
          obtain rfl : k = 40000 := by omega
          have S1 := Lib.hid s1
          have HQ := Lib.hid hq
          have H1 : Hid (tls l = Z2) := by
            show tls l = Z2
            simpa [turnP] using hz1
          have H2 : Hid (sk = st2) := hz2
          have HB2 : Hid (9 * q + sk.held.length + rest ≤ 300000) := by show _ ≤ _; omega
          clear s1 hq hz1 hz2 hb hBF hrd
          go_wp2
          go_roundg ga
          case measure => omega
          case rel =>
            have h2 := H2.out
            have hj := HJ.out
            subst h2
            exact ⟨j + 1, q, A1, c1, A2, c2, l, sk, by omega, by go_num, rfl, rfl, HQ.out, HD2.out, by rw [H1.out]; exact HZ1.out, HZ2.out, by rw [HRE.out]; exact HB2.out, S1.out⟩
        | succ gb =>
          have k2 : (k : Int) < 40000 := by omega
          have hzl : zs.length = nb := by simpa using hrd.1
          obtain ⟨q1, hq1⟩ : ∃ x, feedN m sk nb = x := ⟨_, rfl⟩
          obtain ⟨s1x, hs1x⟩ : ∃ x, feedP m sk zs = x := ⟨_, rfl⟩
          obtain ⟨f1, f2⟩ := feed_cut m sk zs nb hzl
          rw [hs1x, hq1] at f1
          rw [hq1] at f2
          have a1 : ¬ (q1 : Int) < 0 := by omega
          have a2 : ¬ (nb : Int) < (q1 : Int) := by omega
          have a3 : ¬ nb < q1 := by omega
          have a4 : q1 ≤ cb := by omega
          obtain ⟨Ah, hAh⟩ : ∃ Ah, (if cb = q1 then B else Option.map (fun x => x.add q1) B) = Ah := ⟨_, rfl⟩
          have hr1 := rd_tail hrd f2 hnb hAh
          have hb1 := addr_tail hAh
          have hdr : ∀ n, n = 40000 → drainP m n s1x = Go.Frm.drain m s1x := fun n hn => by subst hn; exact drain_many m 40000 s1x (by omega)
          obtain ⟨Z3, hZ3⟩ : ∃ x, tls l ++ (Go.Frm.drain m s1x).1 = x := ⟨_, rfl⟩
          obtain ⟨st3, hst3⟩ : ∃ x, (Go.Frm.drain m s1x).2 = x := ⟨_, rfl⟩
          rw [turn_succ, hzl, hq1, hs1x] at hz1 hz2
          have S1 := Lib.hid s1
          have HK := Lib.hid hk
          have HQ := Lib.hid hq
          have HBF := Lib.hid hBF
          have HRD := Lib.hid hrd
          have HR1 := Lib.hid hr1
          have HB1 := Lib.hid hb1
          have HZL := Lib.hid hzl
          have HQ1 := Lib.hid hq1
          have HS1 := Lib.hid hs1x
          have HFL := Lib.hid f1
          have HDR := Lib.hid hdr
          have HZ3 := Lib.hid hZ3
          have HS3 := Lib.hid hst3
          have HT1 := Lib.hid hz1
          have HT2 := Lib.hid hz2
          have HB := Lib.hid hb
          clear s1 hq hBF hrd hr1 hb1 hzl hq1 hs1x f1 hdr hZ3 hst3 hz1 hz2 hb hk
          go_upto_region 11 with (first
            | (go_at_call 23; (with_reducible refine (feed_S S1.out (rd_fr0 HRD.out S1.out.fr HBF.out) hnb (by omega) q1 HQ1.out s1x HS1.out).mono ?_); rintro e w6 ⟨rfl, s6⟩
               have S6 := Lib.hid s6
               clear s6))
          clear k2
          go_wp2
          go_loopg [7, 8, 13] 40000 (fun gh v u t w' => ∃ (k q : Nat) (A1 : Option Addr) (c1 : Nat) (A2 : Option Addr) (c2 : Nat) (l : List Tl) (s3 : Pst), gh + k = 40000 ∧ t = .int .i64 (k : Int) ∧ v = .slice A1 q c1 ∧ u = .slice A2 q c2 ∧ l.length = q ∧ k ≤ q ∧ tls l ++ (drainP m gh s3).1 = Z3 ∧ (drainP m gh s3).2 = st3 ∧ 9 * q + s3.held.length + (nb - q1 + rest) ≤ 300000 ∧
            St F w w' [PFo p m s3, SLo w.heap.size 27 16 (.slice A1 q c1) q (fcells l), SLo w.heap.size 46 3 (.slice A2 q c2) q (xcells l), FrsO l])
          case atStart => exact ⟨0, q, A1, c1, A2, c2, l, s1x, by omega, rfl, rfl, rfl, HQ.out, by omega, by rw [HDR.out _ rfl]; exact HZ3.out, by rw [HDR.out _ rfl]; exact HS3.out, by have := HB.out; have := HFL.out; omega, S6.out⟩
          case round =>
            clear S1 S6 HQ HB HFL HDR
            obtain ⟨i, q, A1, c1, A2, c2, l, s3, hi, rfl, rfl, rfl, hq, hiq, hy1, hy2, hb, s7⟩ := hrel
            cases gk with
            | zero => omega
            | succ gc =>
              have k3 : (i : Int) < 40000 := by omega
              obtain ⟨⟨⟨f, ⟨b, cc, z⟩, ok⟩, s4⟩, hnx⟩ : ∃ x, nextP m s3 = x := ⟨_, rfl⟩
              have hun : drainP m (gc + 1) s3 = bif (nextP m s3).1.ok then (((nextP m s3).1.f, (nextP m s3).1.x) :: (drainP m gc (nextP m s3).2).1, (drainP m gc (nextP m s3).2).2) else ([], s3) := rfl
              rw [hun, hnx] at hy1 hy2
              have S7 := Lib.hid s7
              have HI := Lib.hid hi
              have HQ := Lib.hid hq
              have HNX := Lib.hid hnx
              cases ok with
              | true =>
                have hless := next_less m s3 (by rw [hnx])
                rw [hnx] at hless
                have hl9 : s4.held.length + 9 ≤ s3.held.length := hless.2.1
                have hb2 : 9 * (q + 1) + s4.held.length + (nb - q1 + rest) ≤ 300000 := by omega
                have HB2 := Lib.hid hb2
                have HY1 := Lib.hid hy1
                have HY2 := Lib.hid hy2
                have hq3 : q ≤ 300000 := by omega
                clear hy1 hy2 hb hless hl9 hb2 s7 hi hq hnx hun
                go_upto_region 18 with (first
                  | (go_at_call 21; (with_reducible refine (next_T S7.out HG.out HF1.out HF2.out HNX.out).mono ?_); rintro e w7 ⟨Af, cf, Bf, df, rfl, s7⟩
                     have s8 : St F w w7 [PFo p m s4, SLo w.heap.size 27 16 (.slice A1 q c1) q (fcells l), SLo w.heap.size 46 3 (.slice A2 q c2) q (xcells l), FrsO (l ++ [⟨f, .slice Af f.pay.length cf, .slice Bf f.list.length df, ⟨b, cc, z⟩⟩])] := St.frs [PFo p m s4, SLo w.heap.size 27 16 (.slice A1 q c1) q (fcells l), SLo w.heap.size 46 3 (.slice A2 q c2) q (xcells l)] s7
                     have hne : Hid (∀ g, (Value.slice A1 q c1).ownBlock = some g → g < w7.heap.size) := fun g hg => own_lt s8.own1 hg
                     have S9 : Hid (St F w (((w7.alloc (.cells #[.int .i64 f.kind, .int .i64 f.stream, .bool f.fin, .bool f.eh, .bool f.ack, .bool f.prio, .slice Af f.pay.length cf, .int .i64 f.flags, .int .i64 f.pad, .int .i64 f.depend, .bool f.excl, .int .i64 f.weight, .int .u32 (f.code : Int), .slice Bf f.list.length df, .int .i64 f.last, .int .i64 f.inc] 27)).alloc (.cells #[.bool b, .int .u32 (cc : Int), .int .i64 z] 46)).alloc (.cells #[.int .i64 f.kind, .int .i64 f.stream, .bool f.fin, .bool f.eh, .bool f.ack, .bool f.prio, .slice Af f.pay.length cf, .int .i64 f.flags, .int .i64 f.pad, .int .i64 f.depend, .bool f.excl, .int .i64 f.weight, .int .u32 (f.code : Int), .slice Bf f.list.length df, .int .i64 f.last, .int .i64 f.inc] 27)) [PFo p m s4, SLo w.heap.size 27 16 (.slice A1 q c1) q (fcells l), SLo w.heap.size 46 3 (.slice A2 q c2) q (xcells l), FrsO (l ++ [⟨f, .slice Af f.pay.length cf, .slice Bf f.list.length df, ⟨b, cc, z⟩⟩])]) := ((s8.alloc _).alloc _).alloc _
                     have R9 : Hid (Rd (((w7.alloc (.cells #[.int .i64 f.kind, .int .i64 f.stream, .bool f.fin, .bool f.eh, .bool f.ack, .bool f.prio, .slice Af f.pay.length cf, .int .i64 f.flags, .int .i64 f.pad, .int .i64 f.depend, .bool f.excl, .int .i64 f.weight, .int .u32 (f.code : Int), .slice Bf f.list.length df, .int .i64 f.last, .int .i64 f.inc] 27)).alloc (.cells #[.bool b, .int .u32 (cc : Int), .int .i64 z] 46)).alloc (.cells #[.int .i64 f.kind, .int .i64 f.stream, .bool f.fin, .bool f.eh, .bool f.ack, .bool f.prio, .slice Af f.pay.length cf, .int .i64 f.flags, .int .i64 f.pad, .int .i64 f.depend, .bool f.excl, .int .i64 f.weight, .int .u32 (f.code : Int), .slice Bf f.list.length df, .int .i64 f.last, .int .i64 f.inc] 27)) 16 (some ⟨w7.heap.size + 1 + 1, 0, none⟩) 1 (frC f (.slice Af f.pay.length cf) (.slice Bf f.list.length df))) := b3_rd w7 _ _ (frC f (.slice Af f.pay.length cf) (.slice Bf f.list.length df)) 27 16 rfl
                     have hs9 : Hid (w.heap.size ≤ (((w7.alloc (.cells #[.int .i64 f.kind, .int .i64 f.stream, .bool f.fin, .bool f.eh, .bool f.ack, .bool f.prio, .slice Af f.pay.length cf, .int .i64 f.flags, .int .i64 f.pad, .int .i64 f.depend, .bool f.excl, .int .i64 f.weight, .int .u32 (f.code : Int), .slice Bf f.list.length df, .int .i64 f.last, .int .i64 f.inc] 27)).alloc (.cells #[.bool b, .int .u32 (cc : Int), .int .i64 z] 46)).alloc (.cells #[.int .i64 f.kind, .int .i64 f.stream, .bool f.fin, .bool f.eh, .bool f.ack, .bool f.prio, .slice Af f.pay.length cf, .int .i64 f.flags, .int .i64 f.pad, .int .i64 f.depend, .bool f.excl, .int .i64 f.weight, .int .u32 (f.code : Int), .slice Bf f.list.length df, .int .i64 f.last, .int .i64 f.inc] 27)).heap.size) := S9.out.size
                     have Y0 : Hid ((((w7.alloc (.cells #[.int .i64 f.kind, .int .i64 f.stream, .bool f.fin, .bool f.eh, .bool f.ack, .bool f.prio, .slice Af f.pay.length cf, .int .i64 f.flags, .int .i64 f.pad, .int .i64 f.depend, .bool f.excl, .int .i64 f.weight, .int .u32 (f.code : Int), .slice Bf f.list.length df, .int .i64 f.last, .int .i64 f.inc] 27)).alloc (.cells #[.bool b, .int .u32 (cc : Int), .int .i64 z] 46)).alloc (.cells #[.int .i64 f.kind, .int .i64 f.stream, .bool f.fin, .bool f.eh, .bool f.ack, .bool f.prio, .slice Af f.pay.length cf, .int .i64 f.flags, .int .i64 f.pad, .int .i64 f.depend, .bool f.excl, .int .i64 f.weight, .int .u32 (f.code : Int), .slice Bf f.list.length df, .int .i64 f.last, .int .i64 f.inc] 27)).cell? ⟨w7.heap.size + 1, 0, none⟩ = some (.bool b)) := b3_cell w7 _ _ [.bool b, .int .u32 (cc : Int), .int .i64 z] 46 0
                     have Y1 : Hid ((((w7.alloc (.cells #[.int .i64 f.kind, .int .i64 f.stream, .bool f.fin, .bool f.eh, .bool f.ack, .bool f.prio, .slice Af f.pay.length cf, .int .i64 f.flags, .int .i64 f.pad, .int .i64 f.depend, .bool f.excl, .int .i64 f.weight, .int .u32 (f.code : Int), .slice Bf f.list.length df, .int .i64 f.last, .int .i64 f.inc] 27)).alloc (.cells #[.bool b, .int .u32 (cc : Int), .int .i64 z] 46)).alloc (.cells #[.int .i64 f.kind, .int .i64 f.stream, .bool f.fin, .bool f.eh, .bool f.ack, .bool f.prio, .slice Af f.pay.length cf, .int .i64 f.flags, .int .i64 f.pad, .int .i64 f.depend, .bool f.excl, .int .i64 f.weight, .int .u32 (f.code : Int), .slice Bf f.list.length df, .int .i64 f.last, .int .i64 f.inc] 27)).cell? ⟨w7.heap.size + 1, 1, none⟩ = some (.int .u32 (cc : Int))) := b3_cell w7 _ _ [.bool b, .int .u32 (cc : Int), .int .i64 z] 46 1
                     have Y2 : Hid ((((w7.alloc (.cells #[.int .i64 f.kind, .int .i64 f.stream, .bool f.fin, .bool f.eh, .bool f.ack, .bool f.prio, .slice Af f.pay.length cf, .int .i64 f.flags, .int .i64 f.pad, .int .i64 f.depend, .bool f.excl, .int .i64 f.weight, .int .u32 (f.code : Int), .slice Bf f.list.length df, .int .i64 f.last, .int .i64 f.inc] 27)).alloc (.cells #[.bool b, .int .u32 (cc : Int), .int .i64 z] 46)).alloc (.cells #[.int .i64 f.kind, .int .i64 f.stream, .bool f.fin, .bool f.eh, .bool f.ack, .bool f.prio, .slice Af f.pay.length cf, .int .i64 f.flags, .int .i64 f.pad, .int .i64 f.depend, .bool f.excl, .int .i64 f.weight, .int .u32 (f.code : Int), .slice Bf f.list.length df, .int .i64 f.last, .int .i64 f.inc] 27)).cell? ⟨w7.heap.size + 1, 2, none⟩ = some (.int .i64 z)) := b3_cell w7 _ _ [.bool b, .int .u32 (cc : Int), .int .i64 z] 46 2
                     clear s7 s8))
                clear k3
                go_wp2_with (first
                  | (at_builtin
                     refine wpList_append_rd rfl (.tmp 57) (.tmp 59) 57 rfl EFr (.slice A1 q c1) q (fcells l) rfl S9.out.own1 (some ⟨w7.heap.size + 1 + 1, 0, none⟩) 1 1 (frC f (.slice Af f.pay.length cf) (.slice Bf f.list.length df)) rfl R9.out (frC_one _ _ _ _ _ _ _) (by omega) (by unfold maxLen; omega) hs9.out ?_
                     intro A6 c6 w6 ho6 hf6 h26
                     have hnb6 : ¬ some (w7.heap.size + 1) = (Value.slice A1 q c1).ownBlock := fun e => by have := hne.out _ e.symm; omega
                     have x0 := hf6.cell Y0.out hnb6
                     have x1 := hf6.cell Y1.out hnb6
                     have x2 := hf6.cell Y2.out hnb6
                     have hl6 := World.block_lt_of_cell? _ _ x0
                     rw [← fcells_app l ⟨f, .slice Af f.pay.length cf, .slice Bf f.list.length df, ⟨b, cc, z⟩⟩] at ho6
                     have s10 := S9.out.appended1 ho6 hf6 h26
                     have S11 : Hid (St F w (w6.alloc (.cells #[.bool b, .int .u32 (cc : Int), .int .i64 z] 46)) [PFo p m s4, SLo w.heap.size 27 16 (.slice A6 (q + 1) c6) (q + 1) (fcells (l ++ [⟨f, .slice Af f.pay.length cf, .slice Bf f.list.length df, ⟨b, cc, z⟩⟩])), SLo w.heap.size 46 3 (.slice A2 q c2) q (xcells l), FrsO (l ++ [⟨f, .slice Af f.pay.length cf, .slice Bf f.list.length df, ⟨b, cc, z⟩⟩])]) := s10.alloc _
                     have R11 : Hid (Rd (w6.alloc (.cells #[.bool b, .int .u32 (cc : Int), .int .i64 z] 46)) 3 (some ⟨w6.heap.size, 0, none⟩) 1 [.bool b, .int .u32 (cc : Int), .int .i64 z]) := Rd.of_blk (n := 1) (size := 3) (Blk.new w6 46 [.bool b, .int .u32 (cc : Int), .int .i64 z]) (by simp)
                     have hs11 : Hid (w.heap.size ≤ (w6.alloc (.cells #[.bool b, .int .u32 (cc : Int), .int .i64 z] 46)).heap.size) := S11.out.size
                     clear ho6 hf6 h26 s10 hnb6)
                  | (at_builtin
                     refine wpList_append_rd rfl (.tmp 61) (.tmp 63) 59 rfl EFt (.slice A2 q c2) q (xcells l) rfl S11.out.own2 (some ⟨w6.heap.size, 0, none⟩) 1 1 [.bool b, .int .u32 (cc : Int), .int .i64 z] rfl R11.out (ft_one _ _ _) (by omega) (by unfold maxLen; omega) hs11.out ?_
                     intro A8 c8 w8 ho8 hf8 h28
                     rw [← xcells_app l ⟨f, .slice Af f.pay.length cf, .slice Bf f.list.length df, ⟨b, cc, z⟩⟩] at ho8
                     have S12 := Lib.hid (S11.out.appended2 ho8 hf8 h28)
                     clear ho8 hf8 h28))
                go_roundg gc
                case measure => omega
                case rel =>
                  have hi := HI.out
                  exact ⟨i + 1, q + 1, A6, c6, A8, c8, l ++ [⟨f, .slice Af f.pay.length cf, .slice Bf f.list.length df, ⟨b, cc, z⟩⟩], s4, by omega, by go_num, rfl, rfl, by rw [List.length_append, HQ.out]; rfl, by omega, by rw [tls_app, List.append_assoc]; exact HY1.out, HY2.out, HB2.out, S12.out⟩
              | false =>
                have hno := next_no m s3 (by rw [hnx])
                rw [hnx] at hno
                have hs4 : s4 = s3 := congrArg Prod.snd hno.1
                simp only [cond_false, List.append_nil] at hy1 hy2
                subst hs4
                have HY1 := Lib.hid hy1
                have HY2 := Lib.hid hy2
                have HB := Lib.hid hb
                clear hy1 hy2 hb s7 hi hq hnx hun hno
                go_upto_region 18 with (first
                  | (go_at_call 21; (with_reducible refine (next_T S7.out HG.out HF1.out HF2.out HNX.out).mono ?_); rintro e w7 ⟨Af, cf, Bf, df, rfl, s7⟩
                     have s8 := St.drop [PFo p m s4, SLo w.heap.size 27 16 (.slice A1 q c1) q (fcells l), SLo w.heap.size 46 3 (.slice A2 q c2) q (xcells l), FrsO l] _ [] s7
                     have S9 : Hid (St F w ((w7.alloc (.cells #[.int .i64 f.kind, .int .i64 f.stream, .bool f.fin, .bool f.eh, .bool f.ack, .bool f.prio, .slice Af f.pay.length cf, .int .i64 f.flags, .int .i64 f.pad, .int .i64 f.depend, .bool f.excl, .int .i64 f.weight, .int .u32 (f.code : Int), .slice Bf f.list.length df, .int .i64 f.last, .int .i64 f.inc] 27)).alloc (.cells #[.bool b, .int .u32 (cc : Int), .int .i64 z] 46)) [PFo p m s4, SLo w.heap.size 27 16 (.slice A1 q c1) q (fcells l), SLo w.heap.size 46 3 (.slice A2 q c2) q (xcells l), FrsO l]) := (s8.alloc _).alloc _
                     clear s7 s8))
                clear k3
                by_cases hend : nb - q1 = 0 ∨ q1 = 0
                · have hc : (decide (nb - q1 = 0) || decide (q1 = 0)) = true := by simpa using hend
                  have HC := Lib.hid hc
                  have fin1 : Hid (tls l = Z2 ∧ s4 = st2) := by
                    have h1 := HT1.out
                    have h2 := HT2.out
                    rw [HC.out, cond_true] at h1 h2
                    exact ⟨(HY1.out.trans HZ3.out.symm).trans h1, (HY2.out.trans HS3.out.symm).trans h2⟩
                  by_cases he : nb - q1 = 0
                  · have e1 : (((nb - q1 : Nat) : Int) == 0) = true := by simp; omega
                    clear hc hend he
                    go_wp2
                    go_roundg ga
                    case measure => omega
                    case rel =>
                      have hj := HJ.out
                      have h2 := fin1.out.2
                      have hbb := HB.out
                      subst h2
                      exact ⟨j + 1, q, A1, c1, A2, c2, l, s4, by omega, by go_num, rfl, rfl, HQ.out, HD2.out, by rw [fin1.out.1]; exact HZ1.out, HZ2.out, by rw [HRE.out]; omega, S9.out⟩
                  · have e1 : (((nb - q1 : Nat) : Int) == 0) = false := by simp; omega
                    have e2 : ((q1 : Int) == 0) = true := by simp; omega
                    clear hc hend he
                    go_wp2
                    go_roundg ga
                    case measure => omega
                    case rel =>
                      have hj := HJ.out
                      have h2 := fin1.out.2
                      have hbb := HB.out
                      subst h2
                      exact ⟨j + 1, q, A1, c1, A2, c2, l, s4, by omega, by go_num, rfl, rfl, HQ.out, HD2.out, by rw [fin1.out.1]; exact HZ1.out, HZ2.out, by rw [HRE.out]; omega, S9.out⟩
                · have hc : (decide (nb - q1 = 0) || decide (q1 = 0)) = false := by
                    simp only [not_or] at hend
                    simp [hend.1, hend.2]
                  have HC := Lib.hid hc
                  have fin1 : Hid (tls l ++ (turnP m gb s4 (zs.drop q1)).1 = Z2 ∧ (turnP m gb s4 (zs.drop q1)).2 = st2) := by
                    have h1 := HT1.out
                    have h2 := HT2.out
                    rw [HC.out, cond_false] at h1 h2
                    have h3 : Go.Frm.drain m s1x = Go.Frm.drain m s1x := rfl
                    have e3 : (Go.Frm.drain m s1x).2 = s4 := HS3.out.trans HY2.out.symm
                    rw [e3] at h1 h2
                    simp only at h1 h2
                    rw [← List.append_assoc, HZ3.out, ← HY1.out] at h1
                    exact ⟨h1, h2⟩
                  have e1 : (((nb - q1 : Nat) : Int) == 0) = false := by simp; omega
                  have e2 : ((q1 : Int) == 0) = false := by simp; omega
                  obtain ⟨kk, hkk⟩ : ∃ x, k + 1 = x := ⟨_, rfl⟩
                  have wk : IntKind.i64.wrap ((k : Int) + 1) = (kk : Int) := by have := HK.out; rw [IntKind.wrap_i64]; omega
                  have HKK := Lib.hid hkk
                  clear hc hend hkk
                  go_wp2
                  go_roundg gb
                  case measure => omega
                  case rel =>
                    have hk := HK.out
                    have hk2 := HKK.out
                    exact ⟨kk, q, nb - q1, cb - q1, A1, c1, A2, c2, Ah, l, s4, zs.drop q1, by omega, rfl, rfl, rfl, rfl, HQ.out, fun hp a ha => by obtain ⟨a0, h1, h2⟩ := HB1.out a ha; rw [h2]; exact HBF.out (by omega) a0 h1, HR1.out, by omega, by omega, fin1.out.1, fin1.out.2, HB.out, S9.out⟩
end
end Go.Proofs.YtokbdkbljgdcpaaDoor
