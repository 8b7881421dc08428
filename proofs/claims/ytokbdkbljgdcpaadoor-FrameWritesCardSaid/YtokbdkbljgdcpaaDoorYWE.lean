/- Several texts in one: RfO, RfP, RfQ. -/
import Derived.Test.YtokbdkbljgdcpaaDoorYWD
import Derived.Test.YtokbdkbljgdcpaaDoorY4
import Derived.Test.YtokbdkbljgdcpaaDoorYWA
import Derived.Test.YtokbdkbljgdcpaaDoorY47
import Derived.Test.YtokbdkbljgdcpaaDoorY31
import Derived.Deep.RegionHeld
import Derived.Deep.Cut
/- The document's Write, whatever the frame is (of three thousand octets, five hundred settings at most). -/
namespace Go.Proofs.YtokbdkbljgdcpaaDoor
open Go.RowKit Go.Own Go.Frm
set_option linter.unusedVariables false
set_option maxRecDepth 100000
/-- Write, whatever the frame is -/
def rkO (f : Fm) : List UInt8 × Int := bif mayB f then (wr f, 0) else ([], 1)
theorem rbody_small (f : Fm) (h : mayB f = true) (h1 : f.pay.length ≤ 3000) (h2 : f.list.length ≤ 500) : (body f).length ≤ 6273 := by
  have P := (may_iff f).1 h
  have p0 := P.p0
  have p1 := P.p1
  rw [body_len, mustB_len, padA_len, padZ_len]
  cases (f.prio || hW f.k) <;> cases hT f.k <;> cases hC f.k <;> cases hI f.k <;> cases decide (0 < f.pad) <;> simp only [cond_true, cond_false] <;> omega
theorem rk_writeP (f : Fm) (h1 : f.pay.length ≤ 3000) (h2 : f.list.length ≤ 500) : writeP f = rkO f := by
  unfold rkO writeP
  cases h : mayB f with
  | false => rfl
  | true =>
    have := rbody_small f h h1 h2
    rw [cond_true, cond_true, show decide ((body f).length ≤ 16777215) = true from decide_eq_true (by omega)]
    rfl
set_option maxHeartbeats 4000000 in
theorem rwrite_no (f : Fm) (hmay : mayB f = false) (A B : Option Addr) (n c m d : Nat) {w : World} (hpl : f.pay.length = n) (hn : n ≤ 3000) (hrd : Rd w 2 B m (scells f.list)) (hm : m ≤ 500) :
    Calls Tryd.prog 15 #[frV f (.slice A n c) (.slice B m d)] w fun e w' => e = .returned (.tuple #[.string ⟨#[]⟩, .int .i64 1]) ∧ Below w.heap.size w w' := by
  have hll := rd_set_len hrd
  have hcma := fun W (hr : Rd W 2 B m (scells f.list)) => may_c f A B n c m d (w := W) hpl hll hr (by omega) (by omega) _ hmay
  obtain ⟨kind, stream, fin, eh, ack, prio, pay, flags, pad, depend, excl, weight, code, list, last, inc⟩ := f
  simp only at *
  have hA0 : At w (w.alloc (.cells #[(.int .i64 kind), (.int .i64 stream), (.bool fin), (.bool eh), (.bool ack), (.bool prio), (.slice A n c), (.int .i64 flags), (.int .i64 pad), (.int .i64 depend), (.bool excl), (.int .i64 weight), (.int .u32 (code : Int)), (.slice B m d), (.int .i64 last), (.int .i64 inc)] 27)) (frC (Fm.mk kind stream fin eh ack prio pay flags pad depend excl weight code list last inc) (.slice A n c) (.slice B m d)) :=
    ⟨Blk.new w 27 _, (Below.refl _ _).alloc (Nat.le_refl _) _⟩
  have HA0 := Lib.hid hA0
  have HR := Lib.hid hrd
  have HMA := Lib.hid hcma
  clear hA0 hrd hcma hll hpl hmay
  go_enter Tryd.func15, Tryd.ntmps15
  go_wp2_with (first
    | (go_at_call 35; (with_reducible refine (HMA.out _ (HR.out.below HA0.out.b)).mono ?_); rintro e w1 ⟨rfl, hb⟩
       have HA1 := Lib.hid (HA0.out.next hb)
       clear hb))
  go_ret2
  exact ⟨rfl, HA1.out.b⟩
theorem rwrite_k (f : Fm) {w : World} (hc : okF f) {A B : Option Addr} {n m c d : Nat} (hp : Rd w 1 A n (f.pay.map BV)) (hn : n ≤ 3000) (hnc : n ≤ c) (hrd : Rd w 2 B m (scells f.list)) (hm : m ≤ 500) (xs : List UInt8) (z : Int) (hX : rkO f = (xs, z)) :
    Calls Tryd.prog 15 #[.agg #[.int .i64 f.kind, .int .i64 f.stream, .bool f.fin, .bool f.eh, .bool f.ack, .bool f.prio, .slice A n c, .int .i64 f.flags, .int .i64 f.pad, .int .i64 f.depend, .bool f.excl, .int .i64 f.weight, .int .u32 (f.code : Int), .slice B m d, .int .i64 f.last, .int .i64 f.inc]] w fun e w' => e = .returned (.tuple #[.string ⟨xs.toArray⟩, .int .i64 z]) ∧ Below w.heap.size w w' := by
  have hpl : f.pay.length = n := by simpa using hp.1
  have hll := rd_set_len hrd
  unfold rkO at hX
  cases hmay : mayB f with
  | false =>
    rw [hmay] at hX
    cases hX
    exact rwrite_no f hmay A B n c m d hpl hn hrd hm
  | true =>
    rw [hmay] at hX
    cases hX
    have P := (may_iff f).1 hmay
    have h0 := P.k0
    have h1 := P.k1
    exact rwrite_ok f f.kind.toNat (by omega) (by omega) hc hmay (by have := rbody_small f hmay (by omega) (by omega); omega) A B n c m d hp hn hnc hrd hm
end Go.Proofs.YtokbdkbljgdcpaaDoor

/- The law FrameWrites: the walk. -/
namespace Go.Proofs.YtokbdkbljgdcpaaDoor
open Go.RowKit Go.Own Go.Frm
set_option linter.unusedVariables false
set_option maxRecDepth 100000
/-- a frame is stored where a frame lies -/
theorem storeF {w : World} {g : Nat} {c0 c1 c2 c3 c4 c5 c6 c7 c8 c9 c10 c11 c12 c13 c14 c15 : Value} (h : Blk w g 27 [c0, c1, c2, c3, c4, c5, c6, c7, c8, c9, c10, c11, c12, c13, c14, c15]) (v0 v1 v2 v3 v4 v5 v6 v7 v8 v9 v10 v11 v12 v13 v14 v15 : Value) :
    Blk ((((((((((((((((w.setCell ⟨g, 0, none⟩ v0).setCell ⟨g, 1, none⟩ v1).setCell ⟨g, 2, none⟩ v2).setCell ⟨g, 3, none⟩ v3).setCell ⟨g, 4, none⟩ v4).setCell ⟨g, 5, none⟩ v5).setCell ⟨g, 6, none⟩ v6).setCell ⟨g, 7, none⟩ v7).setCell ⟨g, 8, none⟩ v8).setCell ⟨g, 9, none⟩ v9).setCell ⟨g, 10, none⟩ v10).setCell ⟨g, 11, none⟩ v11).setCell ⟨g, 12, none⟩ v12).setCell ⟨g, 13, none⟩ v13).setCell ⟨g, 14, none⟩ v14).setCell ⟨g, 15, none⟩ v15) g 27 [v0, v1, v2, v3, v4, v5, v6, v7, v8, v9, v10, v11, v12, v13, v14, v15] ∧
    Fr (· = g) w ((((((((((((((((w.setCell ⟨g, 0, none⟩ v0).setCell ⟨g, 1, none⟩ v1).setCell ⟨g, 2, none⟩ v2).setCell ⟨g, 3, none⟩ v3).setCell ⟨g, 4, none⟩ v4).setCell ⟨g, 5, none⟩ v5).setCell ⟨g, 6, none⟩ v6).setCell ⟨g, 7, none⟩ v7).setCell ⟨g, 8, none⟩ v8).setCell ⟨g, 9, none⟩ v9).setCell ⟨g, 10, none⟩ v10).setCell ⟨g, 11, none⟩ v11).setCell ⟨g, 12, none⟩ v12).setCell ⟨g, 13, none⟩ v13).setCell ⟨g, 14, none⟩ v14).setCell ⟨g, 15, none⟩ v15) :=
  ⟨((((((((((((((((h.set_ 0 v0).set_ 1 v1).set_ 2 v2).set_ 3 v3).set_ 4 v4).set_ 5 v5).set_ 6 v6).set_ 7 v7).set_ 8 v8).set_ 9 v9).set_ 10 v10).set_ 11 v11).set_ 12 v12).set_ 13 v13).set_ 14 v14).set_ 15 v15),
    ((((((((((((((((Fr.refl (· = g) w).setCell (p := ⟨g, 0, none⟩) (.inl rfl) v0).setCell (p := ⟨g, 1, none⟩) (.inl rfl) v1).setCell (p := ⟨g, 2, none⟩) (.inl rfl) v2).setCell (p := ⟨g, 3, none⟩) (.inl rfl) v3).setCell (p := ⟨g, 4, none⟩) (.inl rfl) v4).setCell (p := ⟨g, 5, none⟩) (.inl rfl) v5).setCell (p := ⟨g, 6, none⟩) (.inl rfl) v6).setCell (p := ⟨g, 7, none⟩) (.inl rfl) v7).setCell (p := ⟨g, 8, none⟩) (.inl rfl) v8).setCell (p := ⟨g, 9, none⟩) (.inl rfl) v9).setCell (p := ⟨g, 10, none⟩) (.inl rfl) v10).setCell (p := ⟨g, 11, none⟩) (.inl rfl) v11).setCell (p := ⟨g, 12, none⟩) (.inl rfl) v12).setCell (p := ⟨g, 13, none⟩) (.inl rfl) v13).setCell (p := ⟨g, 14, none⟩) (.inl rfl) v14).setCell (p := ⟨g, 15, none⟩) (.inl rfl) v15⟩
theorem smF_smF (f : Fm) : smF (smF f) = smF f := by
  unfold smF
  simp [List.take_take]
theorem smF_ok (f : Fm) (h : okF f) : okF (smF f) := ⟨h.1, fun s hs => h.2 s (List.mem_of_mem_take hs)⟩
theorem smF_le (f : Fm) : (smF f).pay.length ≤ 3000 ∧ (smF f).list.length ≤ 500 := ⟨by show (f.pay.take 3000).length ≤ _; rw [List.length_take]; omega, by show (f.list.take 500).length ≤ _; rw [List.length_take]; omega⟩
theorem write_rk (f : Fm) {w : World} (hc : okF f) (h1 : f.pay.length ≤ 3000) (h2 : f.list.length ≤ 500) {A B : Option Addr} {n m c d : Nat} (hG : Gl w) (hp : Rd w 1 A n (f.pay.map BV)) (hn : n ≤ 3000) (hnc : n ≤ c) (hrd : Rd w 2 B m (scells f.list)) (hm : m ≤ 500) (xs : List UInt8) (N : Nat) (z : Int) (hX : rkO f = (xs, z)) (hN : xs.length = N) :
    Calls Tryd.prog 14 #[.agg #[.int .i64 f.kind, .int .i64 f.stream, .bool f.fin, .bool f.eh, .bool f.ack, .bool f.prio, .slice A n c, .int .i64 f.flags, .int .i64 f.pad, .int .i64 f.depend, .bool f.excl, .int .i64 f.weight, .int .u32 (f.code : Int), .slice B m d, .int .i64 f.last, .int .i64 f.inc]] w fun e w' => ∃ A' c', e = .returned (.tuple #[.slice A' N c', .int .i64 z]) ∧ Rd w' 1 A' N (xs.map BV) ∧ Below w.heap.size w w' := by
  have h := write_c f hc A B n c m d hG hp (by omega) hnc hrd (by omega)
  rw [rk_writeP f h1 h2, hX] at h
  refine h.mono ?_
  rintro e w' ⟨A', c', rfl, ho, hb⟩
  simp only at ho ⊢
  rw [hN] at ho ⊢
  exact ⟨A', c', rfl, Rd.of_own ho, hb⟩
end Go.Proofs.YtokbdkbljgdcpaaDoor

/- The law FrameWrites: the walk. -/
namespace Go.Proofs.YtokbdkbljgdcpaaDoor
open Go.RowKit Go.Own Go.Frm
set_option linter.unusedVariables false
set_option maxRecDepth 100000
theorem small_F {F : Fm} (hFF : smF F = F) {w : World} {P B : Option Addr} {np pc nl lc : Nat} (hp : Rd w 1 P np (F.pay.map BV)) (hpc : np ≤ pc) (hpc2 : pc ≤ 9223372036854775807) (hl : Rd w 2 B nl (scells F.list)) (hlc : nl ≤ lc) (hlc2 : lc ≤ 9223372036854775807) :
    Calls Tryd.prog 13 #[.agg #[.int .i64 F.kind, .int .i64 F.stream, .bool F.fin, .bool F.eh, .bool F.ack, .bool F.prio, .slice P np pc, .int .i64 F.flags, .int .i64 F.pad, .int .i64 F.depend, .bool F.excl, .int .i64 F.weight, .int .u32 (F.code : Int), .slice B nl lc, .int .i64 F.last, .int .i64 F.inc]] w (SmallQ w F) := by
  have h := small_w F hp hpc hpc2 hl hlc hlc2
  rwa [hFF] at h
set_option maxHeartbeats 8000000 in
theorem lawWrites_n {w : World} {f : Fm} {P B : Option Addr} {np pc nl lc : Nat} (hp : Rd w 1 P np (f.pay.map BV)) (hl : Rd w 2 B nl (scells f.list)) (hpc : np ≤ pc) (hpc2 : pc ≤ 140737488351232) (hlc : nl ≤ lc) (hlc2 : lc ≤ 140737488351232) (hok : okF f) (hG : Gl w) :
    Calls Tryd.prog 3 #[frV f (.slice P np pc) (.slice B nl lc)] w fun e w' => e = .returned (.bool true) ∧ Below w.heap.size w w' := by
  have hsm := fun W (h1 : Rd W 1 P np (f.pay.map BV)) (h2 : Rd W 2 B nl (scells f.list)) => small_c f (w := W) h1 hpc hpc2 h2 hlc hlc2
  have hle := smF_le f
  have hFo := smF_ok f hok
  have hFF := smF_smF f
  obtain ⟨F, hF⟩ : ∃ F, smF f = F := ⟨_, rfl⟩
  rw [hF] at hsm hle hFo hFF
  obtain ⟨hle1, hle2⟩ := hle
  obtain ⟨n, hn⟩ : ∃ n, F.pay.length = n := ⟨_, rfl⟩
  obtain ⟨m, hm⟩ : ∃ n, F.list.length = n := ⟨_, rfl⟩
  obtain ⟨xs, z, hX⟩ : ∃ xs z, rkO F = (xs, z) := ⟨_, _, rfl⟩
  obtain ⟨N, hN⟩ : ∃ N, xs.length = N := ⟨_, rfl⟩
  have hA0 : At w (w.alloc (.cells #[(.int .i64 f.kind), (.int .i64 f.stream), (.bool f.fin), (.bool f.eh), (.bool f.ack), (.bool f.prio), (.slice P np pc), (.int .i64 f.flags), (.int .i64 f.pad), (.int .i64 f.depend), (.bool f.excl), (.int .i64 f.weight), (.int .u32 (f.code : Int)), (.slice B nl lc), (.int .i64 f.last), (.int .i64 f.inc)] 27)) (frC f (.slice P np pc) (.slice B nl lc)) := ⟨Blk.new w 27 _, (Below.refl _ _).alloc (Nat.le_refl _) _⟩
  have HA0 := Lib.hid hA0
  have HG := Lib.hid hG
  have HP := Lib.hid hp
  have HL := Lib.hid hl
  have HSM := Lib.hid hsm
  have HFo := Lib.hid hFo
  have HFF := Lib.hid hFF
  have HX := Lib.hid hX
  have HN := Lib.hid hN
  have Hn := Lib.hid hn
  have Hm := Lib.hid hm
  have L1 := Lib.hid hle1
  have L2 := Lib.hid hle2
  clear hA0 hG hp hl hsm hFo hFF hX hN hn hm hle1 hle2 hF
  go_enter Tryd.func3, Tryd.ntmps3
  go_upto_region 3 with (first
    | (go_at_call 12; (with_reducible refine (shown_c (HG.out.below HA0.out.b)).mono ?_); rintro e w1 ⟨rfl, hb⟩
       have HA1 := Lib.hid (HA0.out.next hb)
       clear hb
       obtain ⟨z0, z1, z2, z3, z4, z5, z6, z7, z8, z9, z10, z11, z12, z13, z14, z15⟩ := frCells HA1.out.blk)
    | (go_at_call 13; (with_reducible refine (HSM.out _ (HP.out.below HA1.out.b) (HL.out.below HA1.out.b)).mono ?_); rintro e w2 ⟨A, ca, C, cb, rfl, ho, hb⟩
       rw [Hn.out, Hm.out] at ho ⊢
       have HA2 := Lib.hid (HA1.out.next hb)
       have HO := Lib.hid ho
       have hlt1 := HA1.out.blk.lt
       have HLT := Lib.hid hlt1
       clear hb ho z0 z1 z2 z3 z4 z5 z6 z7 z8 z9 z10 z11 z12 z13 z14 z15
       obtain ⟨z0, z1, z2, z3, z4, z5, z6, z7, z8, z9, z10, z11, z12, z13, z14, z15⟩ := frCells HA2.out.blk
       have hl2 := HA2.out.blk.lt
       have fz : ∀ i, w2.frozen? ⟨w.heap.size, i, none⟩ = false := fun i => HA2.out.blk.frozen i))
  obtain ⟨hx3, hf3⟩ := storeF (w := w2) (g := w.heap.size) HA2.out.blk (.int .i64 F.kind) (.int .i64 F.stream) (.bool F.fin) (.bool F.eh) (.bool F.ack) (.bool F.prio) (.slice A n ca) (.int .i64 F.flags) (.int .i64 F.pad) (.int .i64 F.depend) (.bool F.excl) (.int .i64 F.weight) (.int .u32 (F.code : Int)) (.slice C m cb) (.int .i64 F.last) (.int .i64 F.inc)
  obtain ⟨w3, hw3⟩ : ∃ w3, ((((((((((((((((w2.setCell ⟨w.heap.size, 0, none⟩ (.int .i64 F.kind)).setCell ⟨w.heap.size, 1, none⟩ (.int .i64 F.stream)).setCell ⟨w.heap.size, 2, none⟩ (.bool F.fin)).setCell ⟨w.heap.size, 3, none⟩ (.bool F.eh)).setCell ⟨w.heap.size, 4, none⟩ (.bool F.ack)).setCell ⟨w.heap.size, 5, none⟩ (.bool F.prio)).setCell ⟨w.heap.size, 6, none⟩ (.slice A n ca)).setCell ⟨w.heap.size, 7, none⟩ (.int .i64 F.flags)).setCell ⟨w.heap.size, 8, none⟩ (.int .i64 F.pad)).setCell ⟨w.heap.size, 9, none⟩ (.int .i64 F.depend)).setCell ⟨w.heap.size, 10, none⟩ (.bool F.excl)).setCell ⟨w.heap.size, 11, none⟩ (.int .i64 F.weight)).setCell ⟨w.heap.size, 12, none⟩ (.int .u32 (F.code : Int))).setCell ⟨w.heap.size, 13, none⟩ (.slice C m cb)).setCell ⟨w.heap.size, 14, none⟩ (.int .i64 F.last)).setCell ⟨w.heap.size, 15, none⟩ (.int .i64 F.inc)) = w3 := ⟨_, rfl⟩
  rw [hw3] at hx3 hf3 ⊢
  have hb3 : Below w.heap.size w w3 := HA2.out.b.trans (hf3.below HA2.out.b.size (fun i _ e => by rw [e]; exact Nat.le_refl _))
  have hA3 : At w w3 (frC F (.slice A n ca) (.slice C m cb)) := ⟨hx3, hb3⟩
  have HA3 := Lib.hid hA3
  obtain ⟨A', ca', C', cb', e1, e2, o1, o2⟩ := HO.out
  rw [Hn.out] at e1 o1
  rw [Hm.out] at e2 o2
  cases e1
  cases e2
  have o1' := own_fr o1 hf3 (fun g hg e => by have h1 := (o1.lt g hg).1; have h2 := HLT.out; rw [e] at h1; omega)
  have o2' := own_fr o2 hf3 (fun g hg e => by have h1 := (o2.lt g hg).1; have h2 := HLT.out; rw [e] at h1; omega)
  obtain ⟨_, _, q1, q2, q3, q4, _⟩ := own_shape o1'
  cases q1
  obtain ⟨_, _, q5, q6, q7, q8, _⟩ := own_shape o2'
  cases q5
  have R1 := Lib.hid q4
  have R2 := Lib.hid q8
  have Q2 := Lib.hid q2
  have hm5 : m ≤ 500 := by rw [← Hm.out]; exact L2.out
  have hn3 : n ≤ 3000 := by rw [← Hn.out]; exact L1.out
  have M5 := Lib.hid hm5
  have N3 := Lib.hid hn3
  have ca2 : ca ≤ 9223372036854775807 := q3
  have cb2 : cb ≤ 9223372036854775807 := q7
  have C1 := Lib.hid ca2
  have C2 := Lib.hid cb2
  have Q6 := Lib.hid q6
  have HG3 := Lib.hid (HG.out.below hb3)
  clear hw3 hx3 hf3 hb3 hA3 o1 o2 o1' o2' q2 q3 q4 q6 q7 q8 z0 z1 z2 z3 z4 z5 z6 z7 z8 z9 z10 z11 z12 z13 z14 z15 fz hl2 hlt1 HO HA2 HA1 HA0 hm5 hn3 ca2 cb2
  as_aux_lemma =>
    obtain ⟨z0, z1, z2, z3, z4, z5, z6, z7, z8, z9, z10, z11, z12, z13, z14, z15⟩ := frCells HA3.out.blk
    go_upto_region 5 with (first
      | (go_at_call 14; (with_reducible refine (write_rk F HFo.out L1.out L2.out HG3.out R1.out N3.out Q2.out R2.out M5.out xs N z HX.out HN.out).mono ?_); rintro e w4 ⟨A4, c4, rfl, h4, hb⟩
         have HA4 := Lib.hid (HA3.out.next hb)
         have K1 := Lib.hid (R1.out.below hb)
         have K2 := Lib.hid (R2.out.below hb)
         have RX := Lib.hid h4
         clear hb h4 z0 z1 z2 z3 z4 z5 z6 z7 z8 z9 z10 z11 z12 z13 z14 z15
         obtain ⟨z0, z1, z2, z3, z4, z5, z6, z7, z8, z9, z10, z11, z12, z13, z14, z15⟩ := frCells HA4.out.blk)
      | (go_at_call 15; (with_reducible refine (rwrite_k F HFo.out K1.out N3.out Q2.out K2.out M5.out xs z HX.out).mono ?_); rintro e w5 ⟨rfl, hb⟩
         have HA5 := Lib.hid (HA4.out.next hb)
         have J1 := Lib.hid (K1.out.below hb)
         have J2 := Lib.hid (K2.out.below hb)
         have RX5 := Lib.hid (RX.out.below hb)
         clear hb z0 z1 z2 z3 z4 z5 z6 z7 z8 z9 z10 z11 z12 z13 z14 z15))
    have HA5d := Lib.hid HA5.out.drew
    have J1d := Lib.hid (J1.out.below (show Below w5.heap.size w5 w5.drew from below_drewN (Below.refl _ _) 1))
    have J2d := Lib.hid (J2.out.below (show Below w5.heap.size w5 w5.drew from below_drewN (Below.refl _ _) 1))
    have RX5d := Lib.hid (RX5.out.below (show Below w5.heap.size w5 w5.drew from below_drewN (Below.refl _ _) 1))
    as_aux_lemma =>
      go_region_held (fun w' => w'.cell? ⟨w.heap.size, 0, none⟩ = some (.int .i64 F.kind) ∧ w'.cell? ⟨w.heap.size, 1, none⟩ = some (.int .i64 F.stream) ∧ w'.cell? ⟨w.heap.size, 2, none⟩ = some (.bool F.fin) ∧ w'.cell? ⟨w.heap.size, 3, none⟩ = some (.bool F.eh) ∧ w'.cell? ⟨w.heap.size, 4, none⟩ = some (.bool F.ack) ∧ w'.cell? ⟨w.heap.size, 5, none⟩ = some (.bool F.prio) ∧ w'.cell? ⟨w.heap.size, 6, none⟩ = some (.slice A n ca) ∧ w'.cell? ⟨w.heap.size, 7, none⟩ = some (.int .i64 F.flags) ∧ w'.cell? ⟨w.heap.size, 8, none⟩ = some (.int .i64 F.pad) ∧ w'.cell? ⟨w.heap.size, 9, none⟩ = some (.int .i64 F.depend) ∧ w'.cell? ⟨w.heap.size, 10, none⟩ = some (.bool F.excl) ∧ w'.cell? ⟨w.heap.size, 11, none⟩ = some (.int .i64 F.weight) ∧ w'.cell? ⟨w.heap.size, 12, none⟩ = some (.int .u32 (F.code : Int)) ∧ w'.cell? ⟨w.heap.size, 13, none⟩ = some (.slice C m cb) ∧ w'.cell? ⟨w.heap.size, 14, none⟩ = some (.int .i64 F.last) ∧ w'.cell? ⟨w.heap.size, 15, none⟩ = some (.int .i64 F.inc)) (first | exact frCells HA5d.out.blk | exact frCells HA6.out.blk | exact frCells HA7.out.blk) (first
        | (go_at_call 13; (with_reducible refine (small_F HFF.out J1d.out Q2.out C1.out J2d.out Q6.out C2.out).mono ?_); rintro e w6 ⟨A6, ca6, C6, cb6, rfl, ho, hb⟩
           rw [Hn.out, Hm.out] at ho ⊢
           obtain ⟨_, _, _, _, e1, e2, o1, o2⟩ := ho
           rw [Hn.out] at e1 o1
           rw [Hm.out] at e2 o2
           cases e1
           cases e2
           have HA6 := Lib.hid (HA5d.out.next hb)
           have P1 := Lib.hid (Rd.of_own o1)
           have P2 := Lib.hid (Rd.of_own o2)
           have I1 := Lib.hid (J1d.out.below hb)
           have I2 := Lib.hid (J2d.out.below hb)
           have RX6 := Lib.hid (RX5d.out.below hb)
           clear hb o1 o2)
        | (go_at_call 16; (with_reducible refine (same_c F I1.out I2.out P1.out P2.out (by have := M5.out; omega)).mono ?_); rintro e w7 ⟨rfl, hb⟩
           have HA7 := Lib.hid (HA6.out.next hb)
           have hcv := run_conv_bytes (P := Tryd.prog) (c := c4) Tryd.underlying22 Tryd.underlying5 Tryd.underlying9 (RX6.out.below hb)
           clear hb))
      go_wp2
      go_ret
      exact ⟨rfl, HA7.out.b⟩
theorem lawWrites {w : World} {cs : List Value} {f : Fm} {P B : Option Addr} {pc lc : Nat} (ha : FrArg w cs f P pc B lc) (hG : Gl w) :
    Calls Tryd.prog 3 #[.agg cs.toArray] w fun e w' => e = .returned (.bool true) ∧ Below w.heap.size w w' := by
  obtain ⟨rfl, hp, hl, hpc, hpc2, hlc, hlc2, hok, hkind⟩ := ha
  exact lawWrites_n hp hl hpc hpc2 hlc hlc2 hok hG
section
open Go.ChangeShapes Go.WideShapes Go.ChangeAt
/-- an argument that is a frame -/
theorem opened_frame {H : Type} {enc : TypeId × Value → H} {W : World} {base : Nat} {v : Value} {x : DataW H} {ps : List MemPlace} (hv : Value.okWide Tryd.prog W .any base 27 v)
    (h : DataW.Trod enc Tryd.prog W 0 (fun _ => true) true 27 v x ps) (hw : ∀ n ∈ x.weights Tryd.prog 27, n ≤ reachBytes) : ∃ cs f P pc B lc, v = .agg (List.toArray cs) ∧ FrArg W cs f P pc B lc := by
  obtain ⟨cs, rfl, _⟩ := okWide_struct Tryd.underlying27 hv
  obtain ⟨fuel, hf⟩ := h
  obtain ⟨f, P, pc, B, lc, ha⟩ := frame_arg (d := 3) (holdsT_of_trod 7 (by simpa [Value.cells] using hf) hw)
  exact ⟨cs.toList, f, P, pc, B, lc, by simp, ha⟩
end
end Go.Proofs.YtokbdkbljgdcpaaDoor
