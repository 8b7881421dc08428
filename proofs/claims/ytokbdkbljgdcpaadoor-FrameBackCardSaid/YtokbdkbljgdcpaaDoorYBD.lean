/- The law FrameBack. -/
import Derived.Test.YtokbdkbljgdcpaaDoorYBC
import Derived.Deep.CutBlock
namespace Go.Proofs.YtokbdkbljgdcpaaDoor
open Go.RowKit Go.Own Go.Frm
set_option linter.unusedVariables false
set_option maxRecDepth 100000
set_option maxHeartbeats 8000000 in
theorem lawBack {w : World} {A : Option Addr} {n c : Nat} (hl : HoldsT Tryd.prog w 6 57 [.slice A n c]) {C : Option Addr} {nc cc : Nat} (hc : HoldsT Tryd.prog w 3 58 [.slice C nc cc]) (hG : Gl w) :
    Calls Tryd.prog 5 #[.slice A n c, .slice C nc cc] w fun e w' => e = .returned (.bool true) ∧ Below w.heap.size w w' := by
  have HG := Lib.hid hG
  have HL := Lib.hid hl
  have HC := Lib.hid (ints_at hc)
  have hnc : n ≤ c := (HoldsT.slice (d := 5) Tryd.underlying57 hl).1
  clear hG hl hc
  go_enter Tryd.func5, Tryd.ntmps5
  go_upto_block 0 with (first
    | (go_at_call 12; (with_reducible refine (shown_c HG.out).mono ?_); rintro e w1 ⟨rfl, hb1⟩
       have HB1 := Lib.hid hb1
       have HG1 := Lib.hid (HG.out.below HB1.out)
       clear hb1)
    | (go_at_call 17; (with_reducible refine (new_c 0 (by omega)).mono ?_); rintro e w2 ⟨p, rfl, s2⟩
       have s2' : St (fun _ => False) w1 w2 [PFo p 16384 ⟨[], false⟩] := s2
       have S2 := Lib.hid s2'
       clear s2 s2'))
  have S0 : Hid (St (fun _ => False) w1 w2 [PFo p 16384 ⟨[], false⟩, SLo w1.heap.size 5 1 (.slice none 0 0) 0 (((([] : List Tl).map Tl.f).map Go.Frm.wr).flatten.map BV), SLo w1.heap.size 27 16 (.slice none 0 0) 0 (fcells ([] : List Tl)), FrsO ([] : List Tl)]) := by
    have s2 := S2.out.add (St.made (w := w2) (framed_SLo w1.heap.size 5 1 (.slice none 0 0) 0 []) (F := fun i => (Value.slice none 0 0).ownBlock = some i) ⟨own_none _ _ _ _, rfl⟩ (fun i hi => by cases hi) (Below.refl _ _))
    have s3 := s2.add (St.made (w := w2) (framed_SLo w1.heap.size 27 16 (.slice none 0 0) 0 (fcells [])) (F := fun i => (Value.slice none 0 0).ownBlock = some i) ⟨own_none _ _ _ _, rfl⟩ (fun i hi => by cases hi) (Below.refl _ _))
    exact s3.add (St.made (w := w2) (framed_FrsO []) (frs_nil w2) (fun i hi => hi.elim) (Below.refl _ _))
  clear S2
  go_cut [7, 8] (fun v u wx => ∃ (q na : Nat) (A1 : Option Addr) (c1 : Nat) (A2 : Option Addr) (c2 : Nat) (l : List Tl), v = .slice A1 na c1 ∧ u = .slice A2 q c2 ∧ l.length = q ∧ q ≤ 40 ∧ na ≤ 251280 ∧ (∀ t ∈ l, mayB t.f = true ∧ okF t.f ∧ (body t.f).length ≤ 16384) ∧ ((l.map Tl.f).map Go.Frm.wr).flatten.length = na ∧ St (fun _ => False) w1 wx [PFo p 16384 ⟨[], false⟩, SLo w1.heap.size 5 1 (.slice A1 na c1) na (((l.map Tl.f).map Go.Frm.wr).flatten.map BV), SLo w1.heap.size 27 16 (.slice A2 q c2) q (fcells l), FrsO l])
  case first =>
    go_wp2
    go_loopg [7, 8, 9] 40 (fun gh v u t w' => ∃ (i q na : Nat) (A1 : Option Addr) (c1 : Nat) (A2 : Option Addr) (c2 : Nat) (l : List Tl), gh + i = 40 ∧ t = .int .i64 (i : Int) ∧ v = .slice A1 na c1 ∧ u = .slice A2 q c2 ∧ l.length = q ∧ q ≤ i ∧ na ≤ 6282 * i ∧ (∀ t ∈ l, mayB t.f = true ∧ okF t.f ∧ (body t.f).length ≤ 16384) ∧ ((l.map Tl.f).map Go.Frm.wr).flatten.length = na ∧ St (fun _ => False) w1 w' [PFo p 16384 ⟨[], false⟩, SLo w1.heap.size 5 1 (.slice A1 na c1) na (((l.map Tl.f).map Go.Frm.wr).flatten.map BV), SLo w1.heap.size 27 16 (.slice A2 q c2) q (fcells l), FrsO l])
    case atStart => exact ⟨0, 0, 0, none, 0, none, 0, [], by omega, rfl, rfl, rfl, rfl, by omega, by omega, fun t h => (by cases h), rfl, S0.out⟩
    case round =>
      clear S0
      obtain ⟨i, q, na, A1, c1, A2, c2, l, hi, rfl, rfl, rfl, hq, hqi, hna, hok, hby, s8⟩ := hrel
      have S8 := Lib.hid s8
      have HI := Lib.hid hi
      have HQ := Lib.hid hq
      have HOK := Lib.hid hok
      have HBY := Lib.hid hby
      have HNA := Lib.hid hna
      have HQI := Lib.hid hqi
      clear s8
      by_cases hgo : i < n ∧ i < 40
      · obtain ⟨h1, h2⟩ := hgo
        cases gk with
        | zero => omega
        | succ g1 =>
          have k1 : (i : Int) < (n : Int) := by omega
          have k2 : (i : Int) < 40 := by omega
          obtain ⟨b1, o1, f, P, pc, B, lc, rfl, hp1, hpay, hpc, hpc2, hlist, hlc, hlc2, hfok⟩ := frames_at HL.out h1
          have hBr := HB1.out.trans (S8.out.below.mono HB1.out.size)
          have p0 : wr.cell? ⟨b1, o1 + i * 16, none⟩ = some (.int .i64 f.kind) := (hBr.cell (World.block_lt_of_cell? _ _ (hp1 0 _ rfl))).trans (hp1 0 _ rfl)
          have p1 : wr.cell? ⟨b1, o1 + i * 16 + 1, none⟩ = some (.int .i64 f.stream) := (hBr.cell (World.block_lt_of_cell? _ _ (hp1 1 _ rfl))).trans (hp1 1 _ rfl)
          have p2 : wr.cell? ⟨b1, o1 + i * 16 + 2, none⟩ = some (.bool f.fin) := (hBr.cell (World.block_lt_of_cell? _ _ (hp1 2 _ rfl))).trans (hp1 2 _ rfl)
          have p3 : wr.cell? ⟨b1, o1 + i * 16 + 3, none⟩ = some (.bool f.eh) := (hBr.cell (World.block_lt_of_cell? _ _ (hp1 3 _ rfl))).trans (hp1 3 _ rfl)
          have p4 : wr.cell? ⟨b1, o1 + i * 16 + 4, none⟩ = some (.bool f.ack) := (hBr.cell (World.block_lt_of_cell? _ _ (hp1 4 _ rfl))).trans (hp1 4 _ rfl)
          have p5 : wr.cell? ⟨b1, o1 + i * 16 + 5, none⟩ = some (.bool f.prio) := (hBr.cell (World.block_lt_of_cell? _ _ (hp1 5 _ rfl))).trans (hp1 5 _ rfl)
          have p6 : wr.cell? ⟨b1, o1 + i * 16 + 6, none⟩ = some (.slice P f.pay.length pc) := (hBr.cell (World.block_lt_of_cell? _ _ (hp1 6 _ rfl))).trans (hp1 6 _ rfl)
          have p7 : wr.cell? ⟨b1, o1 + i * 16 + 7, none⟩ = some (.int .i64 f.flags) := (hBr.cell (World.block_lt_of_cell? _ _ (hp1 7 _ rfl))).trans (hp1 7 _ rfl)
          have p8 : wr.cell? ⟨b1, o1 + i * 16 + 8, none⟩ = some (.int .i64 f.pad) := (hBr.cell (World.block_lt_of_cell? _ _ (hp1 8 _ rfl))).trans (hp1 8 _ rfl)
          have p9 : wr.cell? ⟨b1, o1 + i * 16 + 9, none⟩ = some (.int .i64 f.depend) := (hBr.cell (World.block_lt_of_cell? _ _ (hp1 9 _ rfl))).trans (hp1 9 _ rfl)
          have p10 : wr.cell? ⟨b1, o1 + i * 16 + 10, none⟩ = some (.bool f.excl) := (hBr.cell (World.block_lt_of_cell? _ _ (hp1 10 _ rfl))).trans (hp1 10 _ rfl)
          have p11 : wr.cell? ⟨b1, o1 + i * 16 + 11, none⟩ = some (.int .i64 f.weight) := (hBr.cell (World.block_lt_of_cell? _ _ (hp1 11 _ rfl))).trans (hp1 11 _ rfl)
          have p12 : wr.cell? ⟨b1, o1 + i * 16 + 12, none⟩ = some (.int .u32 (f.code : Int)) := (hBr.cell (World.block_lt_of_cell? _ _ (hp1 12 _ rfl))).trans (hp1 12 _ rfl)
          have p13 : wr.cell? ⟨b1, o1 + i * 16 + 13, none⟩ = some (.slice B f.list.length lc) := (hBr.cell (World.block_lt_of_cell? _ _ (hp1 13 _ rfl))).trans (hp1 13 _ rfl)
          have p14 : wr.cell? ⟨b1, o1 + i * 16 + 14, none⟩ = some (.int .i64 f.last) := (hBr.cell (World.block_lt_of_cell? _ _ (hp1 14 _ rfl))).trans (hp1 14 _ rfl)
          have p15 : wr.cell? ⟨b1, o1 + i * 16 + 15, none⟩ = some (.int .i64 f.inc) := (hBr.cell (World.block_lt_of_cell? _ _ (hp1 15 _ rfl))).trans (hp1 15 _ rfl)
          obtain ⟨g, hg⟩ : ∃ g, smF f = g := ⟨_, rfl⟩
          have hgp : g.pay.length ≤ 3000 := by rw [← hg]; show (f.pay.take 3000).length ≤ 3000; rw [List.length_take]; omega
          have hgl : g.list.length ≤ 500 := by rw [← hg]; show (f.list.take 500).length ≤ 500; rw [List.length_take]; omega
          have hgok : okF g := by rw [← hg]; exact ⟨hfok.1, fun s hs => hfok.2 s (List.mem_of_mem_take hs)⟩
          obtain ⟨⟨xs, z⟩, hX⟩ : ∃ x, bkO g = x := ⟨_, rfl⟩
          obtain ⟨N, hN⟩ : ∃ x, xs.length = x := ⟨_, rfl⟩
          obtain ⟨i1, hi1x⟩ : ∃ x, i + 1 = x := ⟨_, rfl⟩
          have wi : IntKind.i64.wrap ((i : Int) + 1) = (i1 : Int) := by rw [IntKind.wrap_i64]; omega
          have HGE := Lib.hid hg
          have HGP := Lib.hid hgp
          have HGL := Lib.hid hgl
          have HGO := Lib.hid hgok
          have HX := Lib.hid hX
          have HN := Lib.hid hN
          have HI1 := Lib.hid hi1x
          have HPAY := Lib.hid (hpay.below hBr)
          have HLIST := Lib.hid (hlist.below hBr)
          have HAL : Hid (∀ g, (Value.slice A1 na c1).ownBlock = some g → g < wr.heap.size) := fun g hg => own_lt S8.out.own1 hg
          clear hp1 hpay hlist hfok hBr hg hgp hgl hgok hX hN hi1x hi hq hqi hna hok hby h1 h2
          go_upto_region 12 with (first
            | (go_at_call 13; (with_reducible refine (small_c f HPAY.out hpc hpc2 HLIST.out hlc hlc2).mono ?_); rw [HGE.out]; rintro e w3 ⟨As, cs, Bs, ds, rfl, o3, b3⟩
               have s3 : St (fun _ => False) w1 w3 ([PFo p 16384 ⟨[], false⟩, SLo w1.heap.size 5 1 (.slice A1 na c1) na (((l.map Tl.f).map Go.Frm.wr).flatten.map BV), SLo w1.heap.size 27 16 (.slice A2 q c2) q (fcells l), FrsO l] ++ [FrsO [(⟨g, .slice As g.pay.length cs, .slice Bs g.list.length ds, noF⟩ : Tl)]]) := S8.out.add (St.made (framed_FrsO [(⟨g, .slice As g.pay.length cs, .slice Bs g.list.length ds, noF⟩ : Tl)]) (F := fun i => ∃ t ∈ [(⟨g, .slice As g.pay.length cs, .slice Bs g.list.length ds, noF⟩ : Tl)], t.pv.ownBlock = some i ∨ t.lv.ownBlock = some i) ⟨fun t ht => by rw [List.mem_singleton] at ht; subst ht; exact o3.at0, rfl⟩ (fun i hi => by
                 obtain ⟨t, ht, hi⟩ := hi
                 rw [List.mem_singleton] at ht; subst ht
                 obtain ⟨_, _, _, _, _, _, h3, h4⟩ := o3
                 rcases hi with hi | hi
                 · exact (h3.lt i hi).1
                 · exact (h4.lt i hi).1) b3)
               have S3 := Lib.hid s3
               have S3b : Hid (St (fun _ => False) w1 (w3.alloc (.cells #[.int .i64 g.kind, .int .i64 g.stream, .bool g.fin, .bool g.eh, .bool g.ack, .bool g.prio, .slice As g.pay.length cs, .int .i64 g.flags, .int .i64 g.pad, .int .i64 g.depend, .bool g.excl, .int .i64 g.weight, .int .u32 (g.code : Int), .slice Bs g.list.length ds, .int .i64 g.last, .int .i64 g.inc] 27)) [PFo p 16384 ⟨[], false⟩, SLo w1.heap.size 5 1 (.slice A1 na c1) na (((l.map Tl.f).map Go.Frm.wr).flatten.map BV), SLo w1.heap.size 27 16 (.slice A2 q c2) q (fcells l), FrsO l, FrsO [(⟨g, .slice As g.pay.length cs, .slice Bs g.list.length ds, noF⟩ : Tl)]]) := s3.alloc _
               obtain ⟨A9, c9, B9, d9, e9, e8, h3, h4⟩ := o3
               cases e9
               cases e8
               obtain ⟨A7, c7, e7, kc, kc2, _⟩ := own_shape h3
               cases e7
               have hbel : Below w3.heap.size w3 (w3.alloc (.cells #[.int .i64 g.kind, .int .i64 g.stream, .bool g.fin, .bool g.eh, .bool g.ack, .bool g.prio, .slice As g.pay.length cs, .int .i64 g.flags, .int .i64 g.pad, .int .i64 g.depend, .bool g.excl, .int .i64 g.weight, .int .u32 (g.code : Int), .slice Bs g.list.length ds, .int .i64 g.last, .int .i64 g.inc] 27)) := (Below.refl _ _).alloc (Nat.le_refl _) _
               have RG1 : Hid (Rd (w3.alloc (.cells #[.int .i64 g.kind, .int .i64 g.stream, .bool g.fin, .bool g.eh, .bool g.ack, .bool g.prio, .slice As g.pay.length cs, .int .i64 g.flags, .int .i64 g.pad, .int .i64 g.depend, .bool g.excl, .int .i64 g.weight, .int .u32 (g.code : Int), .slice Bs g.list.length ds, .int .i64 g.last, .int .i64 g.inc] 27)) 1 As g.pay.length (g.pay.map BV)) := (Rd.of_own h3).below hbel
               have RG2 : Hid (Rd (w3.alloc (.cells #[.int .i64 g.kind, .int .i64 g.stream, .bool g.fin, .bool g.eh, .bool g.ack, .bool g.prio, .slice As g.pay.length cs, .int .i64 g.flags, .int .i64 g.pad, .int .i64 g.depend, .bool g.excl, .int .i64 g.weight, .int .u32 (g.code : Int), .slice Bs g.list.length ds, .int .i64 g.last, .int .i64 g.inc] 27)) 2 Bs g.list.length (scells g.list)) := (Rd.of_own h4).below hbel
               have HCS := Lib.hid kc
               have HG3 : Hid (Gl (w3.alloc (.cells #[.int .i64 g.kind, .int .i64 g.stream, .bool g.fin, .bool g.eh, .bool g.ack, .bool g.prio, .slice As g.pay.length cs, .int .i64 g.flags, .int .i64 g.pad, .int .i64 g.depend, .bool g.excl, .int .i64 g.weight, .int .u32 (g.code : Int), .slice Bs g.list.length ds, .int .i64 g.last, .int .i64 g.inc] 27))) := HG1.out.below S3b.out.below
               have HAL3 : Hid (∀ g, (Value.slice A1 na c1).ownBlock = some g → g < w3.heap.size) := fun g hg => Nat.lt_of_lt_of_le (HAL.out g hg) b3.size
               clear s3 h3 h4 kc kc2 hbel b3)
            | (go_at_call 14; (with_reducible refine (write_k g HGO.out HGP.out HGL.out HG3.out RG1.out HGP.out HCS.out RG2.out HGL.out xs N z HX.out HN.out).mono ?_); rintro e w4 ⟨Aw, cw, rfl, ow, bw⟩
               have S4 : Hid (St (fun _ => False) w1 w4 [PFo p 16384 ⟨[], false⟩, SLo w1.heap.size 5 1 (.slice A1 na c1) na (((l.map Tl.f).map Go.Frm.wr).flatten.map BV), SLo w1.heap.size 27 16 (.slice A2 q c2) q (fcells l), FrsO l, FrsO [(⟨g, .slice As g.pay.length cs, .slice Bs g.list.length ds, noF⟩ : Tl)]]) := S3b.out.next bw
               have RW4 := Lib.hid (Rd.of_own ow)
               have hw34 : (w3.alloc (.cells #[.int .i64 g.kind, .int .i64 g.stream, .bool g.fin, .bool g.eh, .bool g.ack, .bool g.prio, .slice As g.pay.length cs, .int .i64 g.flags, .int .i64 g.pad, .int .i64 g.depend, .bool g.excl, .int .i64 g.weight, .int .u32 (g.code : Int), .slice Bs g.list.length ds, .int .i64 g.last, .int .i64 g.inc] 27)).heap.size ≤ w4.heap.size := bw.size
               have HBX4 : Hid (Blk w4 w3.heap.size 27 [.int .i64 g.kind, .int .i64 g.stream, .bool g.fin, .bool g.eh, .bool g.ack, .bool g.prio, .slice As g.pay.length cs, .int .i64 g.flags, .int .i64 g.pad, .int .i64 g.depend, .bool g.excl, .int .i64 g.weight, .int .u32 (g.code : Int), .slice Bs g.list.length ds, .int .i64 g.last, .int .i64 g.inc]) := (Blk.new w3 27 [.int .i64 g.kind, .int .i64 g.stream, .bool g.fin, .bool g.eh, .bool g.ack, .bool g.prio, .slice As g.pay.length cs, .int .i64 g.flags, .int .i64 g.pad, .int .i64 g.depend, .bool g.excl, .int .i64 g.weight, .int .u32 (g.code : Int), .slice Bs g.list.length ds, .int .i64 g.last, .int .i64 g.inc]).below bw (by simp)
               obtain ⟨A7, c7, e7, kw1, kw2, _⟩ := own_shape ow
               cases e7
               have hcw := kw1
               have HSZ4 : Hid (w3.heap.size < w4.heap.size) := HBX4.out.lt
               clear ow bw hw34 kw1 kw2))
          cases hmay : mayB g with
          | false =>
            have hx := HX.out
            unfold bkO at hx
            rw [hmay] at hx
            cases hx
            obtain rfl : N = 0 := HN.out.symm
            go_wp2
            go_roundg g1
            case measure => omega
            case rel =>
              have h1 := HI.out
              have h2 := HI1.out
              have h3 := HQI.out
              have h4 := HNA.out
              exact ⟨i1, q, na, A1, c1, A2, c2, l, by omega, rfl, rfl, rfl, HQ.out, by omega, by omega, HOK.out, HBY.out, S4.out.drop [PFo p 16384 ⟨[], false⟩, SLo w1.heap.size 5 1 (.slice A1 na c1) na (((l.map Tl.f).map Go.Frm.wr).flatten.map BV), SLo w1.heap.size 27 16 (.slice A2 q c2) q (fcells l), FrsO l] _ []⟩
          | true =>
            have hx := HX.out
            unfold bkO at hx
            rw [hmay] at hx
            cases hx
            have hbd := body_small g hmay HGP.out HGL.out
            have hNb : N = 9 + (body g).length := by rw [← HN.out, wr_len]
            have HNB : Hid (N ≤ 6282) := by show N ≤ 6282; omega
            have HBD : Hid ((body g).length ≤ 16384) := by show (body g).length ≤ 16384; omega
            have HNA2 : Hid (na ≤ 251280) := by have := HNA.out; have := HI.out; show na ≤ 251280; omega
            have HQ2 : Hid (q ≤ 40) := by have := HQI.out; have := HI.out; show q ≤ 40; omega
            have hby5 : (((l ++ [(⟨g, .slice As g.pay.length cs, .slice Bs g.list.length ds, noF⟩ : Tl)]).map Tl.f).map Go.Frm.wr).flatten = ((l.map Tl.f).map Go.Frm.wr).flatten ++ Go.Frm.wr g := by simp
            have HBY5 := Lib.hid hby5
            have HMAY := Lib.hid hmay
            clear hbd hNb hby5 hmay
            go_wp2_with (first
              | (at_builtin
                 refine wpList_append_rd rfl (.tmp 47) (.tmp 48) 22 rfl EB (.slice A1 na c1) na (((l.map Tl.f).map Go.Frm.wr).flatten.map BV) rfl S4.out.own1 Aw N cw ((Go.Frm.wr g).map BV) rfl RW4.out (BV_one _) (by have := HNA2.out; have := HNB.out; omega) (by have := HNA2.out; have := HNB.out; unfold maxLen; omega) S4.out.size ?_
                 intro A5 c5 w5 ho5 hf5 h25
                 rw [← List.map_append, ← HBY5.out] at ho5
                 have s5 : St (fun _ => False) w1 w5 [PFo p 16384 ⟨[], false⟩, SLo w1.heap.size 5 1 (.slice A5 (na + N) c5) (na + N) ((((l ++ [(⟨g, .slice As g.pay.length cs, .slice Bs g.list.length ds, noF⟩ : Tl)]).map Tl.f).map Go.Frm.wr).flatten.map BV), SLo w1.heap.size 27 16 (.slice A2 q c2) q (fcells l), FrsO l, FrsO [(⟨g, .slice As g.pay.length cs, .slice Bs g.list.length ds, noF⟩ : Tl)]] := S4.out.appended1 ho5 hf5 h25
                 have hbx5 := HBX4.out.fr hf5 (fun e => by have := HAL3.out _ e.symm; omega)
                 have x0 : w5.cell? ⟨w3.heap.size, 0, none⟩ = some (.int .i64 g.kind) := hbx5.cell 0
                 have x1 : w5.cell? ⟨w3.heap.size, 1, none⟩ = some (.int .i64 g.stream) := hbx5.cell 1
                 have x2 : w5.cell? ⟨w3.heap.size, 2, none⟩ = some (.bool g.fin) := hbx5.cell 2
                 have x3 : w5.cell? ⟨w3.heap.size, 3, none⟩ = some (.bool g.eh) := hbx5.cell 3
                 have x4 : w5.cell? ⟨w3.heap.size, 4, none⟩ = some (.bool g.ack) := hbx5.cell 4
                 have x5 : w5.cell? ⟨w3.heap.size, 5, none⟩ = some (.bool g.prio) := hbx5.cell 5
                 have x6 : w5.cell? ⟨w3.heap.size, 6, none⟩ = some (.slice As g.pay.length cs) := hbx5.cell 6
                 have x7 : w5.cell? ⟨w3.heap.size, 7, none⟩ = some (.int .i64 g.flags) := hbx5.cell 7
                 have x8 : w5.cell? ⟨w3.heap.size, 8, none⟩ = some (.int .i64 g.pad) := hbx5.cell 8
                 have x9 : w5.cell? ⟨w3.heap.size, 9, none⟩ = some (.int .i64 g.depend) := hbx5.cell 9
                 have x10 : w5.cell? ⟨w3.heap.size, 10, none⟩ = some (.bool g.excl) := hbx5.cell 10
                 have x11 : w5.cell? ⟨w3.heap.size, 11, none⟩ = some (.int .i64 g.weight) := hbx5.cell 11
                 have x12 : w5.cell? ⟨w3.heap.size, 12, none⟩ = some (.int .u32 (g.code : Int)) := hbx5.cell 12
                 have x13 : w5.cell? ⟨w3.heap.size, 13, none⟩ = some (.slice Bs g.list.length ds) := hbx5.cell 13
                 have x14 : w5.cell? ⟨w3.heap.size, 14, none⟩ = some (.int .i64 g.last) := hbx5.cell 14
                 have x15 : w5.cell? ⟨w3.heap.size, 15, none⟩ = some (.int .i64 g.inc) := hbx5.cell 15
                 have hl5 := hbx5.lt
                 have S5 : Hid (St (fun _ => False) w1 (w5.alloc (.cells #[.int .i64 g.kind, .int .i64 g.stream, .bool g.fin, .bool g.eh, .bool g.ack, .bool g.prio, .slice As g.pay.length cs, .int .i64 g.flags, .int .i64 g.pad, .int .i64 g.depend, .bool g.excl, .int .i64 g.weight, .int .u32 (g.code : Int), .slice Bs g.list.length ds, .int .i64 g.last, .int .i64 g.inc] 27)) [PFo p 16384 ⟨[], false⟩, SLo w1.heap.size 5 1 (.slice A5 (na + N) c5) (na + N) ((((l ++ [(⟨g, .slice As g.pay.length cs, .slice Bs g.list.length ds, noF⟩ : Tl)]).map Tl.f).map Go.Frm.wr).flatten.map BV), SLo w1.heap.size 27 16 (.slice A2 q c2) q (fcells l), FrsO l, FrsO [(⟨g, .slice As g.pay.length cs, .slice Bs g.list.length ds, noF⟩ : Tl)]]) := s5.alloc _
                 have R5 : Hid (Rd (w5.alloc (.cells #[.int .i64 g.kind, .int .i64 g.stream, .bool g.fin, .bool g.eh, .bool g.ack, .bool g.prio, .slice As g.pay.length cs, .int .i64 g.flags, .int .i64 g.pad, .int .i64 g.depend, .bool g.excl, .int .i64 g.weight, .int .u32 (g.code : Int), .slice Bs g.list.length ds, .int .i64 g.last, .int .i64 g.inc] 27)) 16 (some ⟨w5.heap.size, 0, none⟩) 1 [.int .i64 g.kind, .int .i64 g.stream, .bool g.fin, .bool g.eh, .bool g.ack, .bool g.prio, .slice As g.pay.length cs, .int .i64 g.flags, .int .i64 g.pad, .int .i64 g.depend, .bool g.excl, .int .i64 g.weight, .int .u32 (g.code : Int), .slice Bs g.list.length ds, .int .i64 g.last, .int .i64 g.inc]) := Rd.of_blk (n := 1) (size := 16) (Blk.new w5 27 [.int .i64 g.kind, .int .i64 g.stream, .bool g.fin, .bool g.eh, .bool g.ack, .bool g.prio, .slice As g.pay.length cs, .int .i64 g.flags, .int .i64 g.pad, .int .i64 g.depend, .bool g.excl, .int .i64 g.weight, .int .u32 (g.code : Int), .slice Bs g.list.length ds, .int .i64 g.last, .int .i64 g.inc]) (by simp)
                 clear ho5 hf5 h25 s5 hbx5)
              | (at_builtin
                 refine wpList_append_rd rfl (.tmp 50) (.tmp 52) 57 rfl EFr (.slice A2 q c2) q (fcells l) rfl S5.out.own2 (some ⟨w5.heap.size, 0, none⟩) 1 1 [.int .i64 g.kind, .int .i64 g.stream, .bool g.fin, .bool g.eh, .bool g.ack, .bool g.prio, .slice As g.pay.length cs, .int .i64 g.flags, .int .i64 g.pad, .int .i64 g.depend, .bool g.excl, .int .i64 g.weight, .int .u32 (g.code : Int), .slice Bs g.list.length ds, .int .i64 g.last, .int .i64 g.inc] rfl R5.out (frC_one _ _ _ _ _ _ _) (by have := HQ2.out; omega) (by have := HQ2.out; unfold maxLen; omega) S5.out.size ?_
                 intro A6 c6 w6 ho6 hf6 h26
                 rw [← fcells_app l (⟨g, .slice As g.pay.length cs, .slice Bs g.list.length ds, noF⟩ : Tl)] at ho6
                 have S6 : Hid (St (fun _ => False) w1 w6 [PFo p 16384 ⟨[], false⟩, SLo w1.heap.size 5 1 (.slice A5 (na + N) c5) (na + N) ((((l ++ [(⟨g, .slice As g.pay.length cs, .slice Bs g.list.length ds, noF⟩ : Tl)]).map Tl.f).map Go.Frm.wr).flatten.map BV), SLo w1.heap.size 27 16 (.slice A6 (q + 1) c6) (q + 1) (fcells (l ++ [(⟨g, .slice As g.pay.length cs, .slice Bs g.list.length ds, noF⟩ : Tl)])), FrsO (l ++ [(⟨g, .slice As g.pay.length cs, .slice Bs g.list.length ds, noF⟩ : Tl)])]) := (St.frs [PFo p 16384 ⟨[], false⟩, SLo w1.heap.size 5 1 (.slice A5 (na + N) c5) (na + N) ((((l ++ [(⟨g, .slice As g.pay.length cs, .slice Bs g.list.length ds, noF⟩ : Tl)]).map Tl.f).map Go.Frm.wr).flatten.map BV), SLo w1.heap.size 27 16 (.slice A6 (q + 1) c6) (q + 1) (fcells (l ++ [(⟨g, .slice As g.pay.length cs, .slice Bs g.list.length ds, noF⟩ : Tl)]))] (S5.out.appended2 ho6 hf6 h26))
                 clear ho6 hf6 h26))
            go_roundg g1
            case measure => omega
            case rel =>
              have h1 := HI.out
              have h2 := HI1.out
              have h3 := HQI.out
              have h4 := HNA.out
              have h5 := HNB.out
              exact ⟨i1, q + 1, na + N, A5, c5, A6, c6, l ++ [(⟨g, .slice As g.pay.length cs, .slice Bs g.list.length ds, noF⟩ : Tl)], by omega, rfl, rfl, rfl, by rw [List.length_append, HQ.out]; rfl, by omega, by omega, fun t ht => (by
                rcases List.mem_append.1 ht with ht | ht
                · exact HOK.out t ht
                · rw [List.mem_singleton] at ht; subst ht
                  exact ⟨HMAY.out, HGO.out, HBD.out⟩), by rw [HBY5.out, List.length_append, HBY.out, HN.out], S6.out⟩
      · have hex : ¬ i < n ∨ (i < n ∧ ¬ i < 40) := by omega
        clear hq hqi hna hok hby hgo
        rcases hex with h1 | ⟨h1, h2⟩
        · have k1 : ¬ (i : Int) < (n : Int) := by omega
          clear hi
          go_wp2
          go_meet
          case rel =>
            have h1 := HI.out
            have h3 := HQI.out
            have h4 := HNA.out
            exact ⟨q, na, A1, c1, A2, c2, l, rfl, rfl, HQ.out, by omega, by omega, HOK.out, HBY.out, S8.out⟩
        · have k1 : (i : Int) < (n : Int) := by omega
          have k2 : ¬ (i : Int) < 40 := by omega
          clear hi
          go_wp2
          go_meet
          case rel =>
            have h1 := HI.out
            have h3 := HQI.out
            have h4 := HNA.out
            exact ⟨q, na, A1, c1, A2, c2, l, rfl, rfl, HQ.out, by omega, by omega, HOK.out, HBY.out, S8.out⟩
  case rest => as_aux_lemma =>
    obtain ⟨q, na, A1, c1, A2, c2, l, rfl, rfl, hq, hq40, hna, hok, hby, s1⟩ := hcut
    have hdr := drain_wrs 16384 (by omega) (l.map Tl.f) (fun f hf => by
      obtain ⟨t, ht, rfl⟩ := List.mem_map.1 hf
      exact hok t ht)
    obtain ⟨bts, hbts⟩ : ∃ x, ((l.map Tl.f).map Go.Frm.wr).flatten = x := ⟨_, rfl⟩
    rw [hbts] at s1 hby hdr
    have S1 := Lib.hid s1
    have R1 := Lib.hid (Rd.of_own s1.own1)
    obtain ⟨_, _, ee, kc1, kc2, _⟩ := own_shape s1.own1
    cases ee
    have hc1 : c1 ≤ 9223372036854775807 := by unfold maxLen at kc2; omega
    have C1 := Lib.hid (HC.out.below (HB1.out.trans (s1.below.mono HB1.out.size)))
    have HQ := Lib.hid hq
    have HNA := Lib.hid hna
    have HBY := Lib.hid hby
    have HDR := Lib.hid hdr
    have HQ40 := Lib.hid hq40
    clear hq hq40 hna hok hby s1 hdr hbts kc2 S0
    go_upto_region 18 with (first
      | (go_at_call 27; (with_reducible refine (pieces_c R1.out kc1 hc1 (by have := HNA.out; omega) C1.out).mono ?_); rintro e w6 ⟨A6, n6, c6, vs, bs, rfl, o6, b6, hfl, hn6, hbl, hpc⟩
         have hb6 : Hid (∀ F : Nat → Prop, (∀ i, F i → w1.heap.size ≤ i ∧ i < wc.heap.size) → (∀ O', O' ∈ [SLo w1.heap.size 5 1 (.slice A1 na c1) na (bts.map BV), SLo w1.heap.size 27 16 (.slice A2 q c2) q (fcells l), FrsO l] → ∃ F', O' wc F' ∧ ∀ i, F i → ¬ F' i) → Pcs w6 F A6 n6 bs) := fun F hF hap => pcs_own (cb := c1) HBY.out (List.mem_cons_self ..) b6 o6 hfl hbl hpc F hF hap
         obtain ⟨A6', c6', e6, k61, k62, _⟩ := own_shape o6
         have hnc6 : n6 ≤ c6 := by cases e6; exact k61
         have B6 := Lib.hid b6
         have HFL := Lib.hid hfl
         have hT6 : Hid (((⟨[], false⟩ : Pst).held.length) + bs.flatten.length ≤ 300000) := by have := HBY.out; have := HNA.out; rw [hfl]; show ([] : List UInt8).length + bts.length ≤ 300000; simp; omega
         clear o6 b6 hfl hbl hpc e6 k61 k62)
      | (go_at_call 26; (with_reducible refine (told_A S1.out B6.out HG1.out (new_dry 16384) hb6.out hnc6 (by omega) hT6.out).mono ?_); rintro e w7 ⟨A3, c3, A4, c4, q2, l2, rfl, hl2, hq2, hz2, s7⟩
         rw [told_pieces, HFL.out, HDR.out] at hz2 s7
         obtain rfl : q2 = q := by rw [← hl2, ← HQ.out, ← tls_len l2, hz2]; simp
         have s7' : St (fun _ => False) w1 w7 [PFo p 16384 ⟨[], false⟩, SLo w1.heap.size 5 1 (.slice A1 na c1) na (bts.map BV), SLo w1.heap.size 27 16 (.slice A2 q2 c2) q2 (fcells l), FrsO l, SLo w6.heap.size 27 16 (.slice A3 q2 c3) q2 (fcells l2), SLo w6.heap.size 46 3 (.slice A4 q2 c4) q2 (xcells l2), FrsO l2] := s7
         have S7 := Lib.hid s7'
         have HL2 := Lib.hid hl2
         have HZ2 := Lib.hid hz2
         clear s7 s7' hl2 hz2 hq2))
    go_upto_region 21 with (first
      | (go_at_call 25; (with_reducible refine (size_n S7.out 0 rfl).mono ?_); rintro e w8 ⟨rfl, rfl⟩))
    go_loopg [16] q2 (fun gh t w' => ∃ i : Nat, gh + i = q2 ∧ t = .int .i64 (i : Int) ∧ St (fun _ => False) w1 w' [PFo p 16384 ⟨[], false⟩, SLo w1.heap.size 5 1 (.slice A1 na c1) na (bts.map BV), SLo w1.heap.size 27 16 (.slice A2 q2 c2) q2 (fcells l), FrsO l, SLo w6.heap.size 27 16 (.slice A3 q2 c3) q2 (fcells l2), SLo w6.heap.size 46 3 (.slice A4 q2 c4) q2 (xcells l2), FrsO l2])
    case atStart => exact ⟨0, by omega, rfl, S7.out⟩
    case round =>
      clear S7 S1
      obtain ⟨i, hi, rfl, s8⟩ := hrel
      have S8 := Lib.hid s8
      have HI := Lib.hid hi
      clear s8
      cases gk with
      | zero =>
        obtain rfl : i = q2 := by omega
        clear hi
        go_wp2
        go_ret
        exact ⟨rfl, HB1.out.trans (S8.out.below.mono HB1.out.size)⟩
      | succ g1 =>
        have k2 : (i : Int) < (q2 : Int) := by omega
        have hi1 : i < l2.length := by rw [HL2.out]; omega
        have hi2 : i < l.length := by rw [HQ.out]; omega
        obtain ⟨t1, ht1⟩ : ∃ t, l2[i]? = some t := ⟨_, List.getElem?_eq_getElem hi1⟩
        obtain ⟨t2, ht2⟩ : ∃ t, l[i]? = some t := ⟨_, List.getElem?_eq_getElem hi2⟩
        have hsame : (t1.f, t1.x) = (t2.f, noF) := by
          have h1 := tls_at ht1
          rw [HZ2.out] at h1
          simp [ht2] at h1
          rw [h1.1, h1.2]
        obtain ⟨Af, cf, Bf, df, e1, e2, rp1, rl1, hb1⟩ := frs_at (L1 := [_, _, _, _, _, _]) S8.out ht1
        obtain ⟨Ag, cg, Bg, dg, e3, e4, rp2, rl2, hb2⟩ := frs_at (L1 := [_, _, _]) S8.out ht2
        obtain ⟨i1, hi1x⟩ : ∃ x, i + 1 = x := ⟨_, rfl⟩
        have wi : IntKind.i64.wrap ((i : Int) + 1) = (i1 : Int) := by have := HI.out; have := HQ40.out; rw [IntKind.wrap_i64]; omega
        have HI1 := Lib.hid hi1x
        obtain ⟨f, pv1, lv1, x1⟩ := t1
        obtain ⟨f2, pv2, lv2, x2⟩ := t2
        simp only [Prod.mk.injEq] at hsame
        obtain ⟨rfl, rfl⟩ := hsame
        simp only at e1 e2 e3 e4 rp1 rl1 rp2 rl2 hb1
        subst e1 e2 e3 e4
        obtain ⟨b1, o1, rfl, hp1⟩ := rd_elem (fun t : Tl => frC t.f t.pv t.lv) 16 (by omega) (fun _ => rfl) (Rd.of_own S8.out.own4) HL2.out ht1
        obtain ⟨b2, o2, rfl, hp2⟩ := rd_elem (fun t : Tl => frC t.f t.pv t.lv) 16 (by omega) (fun _ => rfl) (Rd.of_own S8.out.own2) HQ.out ht2
        have S8d : Hid (St (fun _ => False) w1 wr.drew [PFo p 16384 ⟨[], false⟩, SLo w1.heap.size 5 1 (.slice A1 na c1) na (bts.map BV), SLo w1.heap.size 27 16 (.slice (some ⟨b2, o2, none⟩) q2 c2) q2 (fcells l), FrsO l, SLo w6.heap.size 27 16 (.slice (some ⟨b1, o1, none⟩) q2 c3) q2 (fcells l2), SLo w6.heap.size 46 3 (.slice A4 q2 c4) q2 (xcells l2), FrsO l2]) := S8.out.drewN 1
        have RP1 : Hid (Rd wr.drew 1 Af f.pay.length (f.pay.map BV)) := rp1.below (below_drewN (Below.refl _ wr) 1)
        have RL1 : Hid (Rd wr.drew 2 Bf f.list.length (scells f.list)) := rl1.below (below_drewN (Below.refl _ wr) 1)
        have RP2 : Hid (Rd wr.drew 1 Ag f.pay.length (f.pay.map BV)) := rp2.below (below_drewN (Below.refl _ wr) 1)
        have RL2 : Hid (Rd wr.drew 2 Bg f.list.length (scells f.list)) := rl2.below (below_drewN (Below.refl _ wr) 1)
        have HT1 := Lib.hid ht1
        have HT2 := Lib.hid ht2
        have HBB := Lib.hid hb1
        have HP1 : Hid (∀ (k : Nat) (u : Value), (frC f (.slice Af f.pay.length cf) (.slice Bf f.list.length df))[k]? = some u → wr.drew.cell? ⟨b1, o1 + i * 16 + k, none⟩ = some u) := hp1
        have HP2 : Hid (∀ (k : Nat) (u : Value), (frC f (.slice Ag f.pay.length cg) (.slice Bg f.list.length dg))[k]? = some u → wr.drew.cell? ⟨b2, o2 + i * 16 + k, none⟩ = some u) := hp2
        clear hp1 hp2 rp1 rl1 rp2 rl2 ht1 ht2 hi1 hi2 hb1 hb2 hi hi1x
        go_wp2
        go_region_held (fun w' => w'.cell? ⟨b1, o1 + i * 16, none⟩ = some (.int .i64 f.kind) ∧ w'.cell? ⟨b1, o1 + i * 16 + 1, none⟩ = some (.int .i64 f.stream) ∧ w'.cell? ⟨b1, o1 + i * 16 + 2, none⟩ = some (.bool f.fin) ∧ w'.cell? ⟨b1, o1 + i * 16 + 3, none⟩ = some (.bool f.eh) ∧ w'.cell? ⟨b1, o1 + i * 16 + 4, none⟩ = some (.bool f.ack) ∧ w'.cell? ⟨b1, o1 + i * 16 + 5, none⟩ = some (.bool f.prio) ∧ w'.cell? ⟨b1, o1 + i * 16 + 6, none⟩ = some (.slice Af f.pay.length cf) ∧ w'.cell? ⟨b1, o1 + i * 16 + 7, none⟩ = some (.int .i64 f.flags) ∧ w'.cell? ⟨b1, o1 + i * 16 + 8, none⟩ = some (.int .i64 f.pad) ∧ w'.cell? ⟨b1, o1 + i * 16 + 9, none⟩ = some (.int .i64 f.depend) ∧ w'.cell? ⟨b1, o1 + i * 16 + 10, none⟩ = some (.bool f.excl) ∧ w'.cell? ⟨b1, o1 + i * 16 + 11, none⟩ = some (.int .i64 f.weight) ∧ w'.cell? ⟨b1, o1 + i * 16 + 12, none⟩ = some (.int .u32 (f.code : Int)) ∧ w'.cell? ⟨b1, o1 + i * 16 + 13, none⟩ = some (.slice Bf f.list.length df) ∧ w'.cell? ⟨b1, o1 + i * 16 + 14, none⟩ = some (.int .i64 f.last) ∧ w'.cell? ⟨b1, o1 + i * 16 + 15, none⟩ = some (.int .i64 f.inc) ∧ w'.cell? ⟨b2, o2 + i * 16, none⟩ = some (.int .i64 f.kind) ∧ w'.cell? ⟨b2, o2 + i * 16 + 1, none⟩ = some (.int .i64 f.stream) ∧ w'.cell? ⟨b2, o2 + i * 16 + 2, none⟩ = some (.bool f.fin) ∧ w'.cell? ⟨b2, o2 + i * 16 + 3, none⟩ = some (.bool f.eh) ∧ w'.cell? ⟨b2, o2 + i * 16 + 4, none⟩ = some (.bool f.ack) ∧ w'.cell? ⟨b2, o2 + i * 16 + 5, none⟩ = some (.bool f.prio) ∧ w'.cell? ⟨b2, o2 + i * 16 + 6, none⟩ = some (.slice Ag f.pay.length cg) ∧ w'.cell? ⟨b2, o2 + i * 16 + 7, none⟩ = some (.int .i64 f.flags) ∧ w'.cell? ⟨b2, o2 + i * 16 + 8, none⟩ = some (.int .i64 f.pad) ∧ w'.cell? ⟨b2, o2 + i * 16 + 9, none⟩ = some (.int .i64 f.depend) ∧ w'.cell? ⟨b2, o2 + i * 16 + 10, none⟩ = some (.bool f.excl) ∧ w'.cell? ⟨b2, o2 + i * 16 + 11, none⟩ = some (.int .i64 f.weight) ∧ w'.cell? ⟨b2, o2 + i * 16 + 12, none⟩ = some (.int .u32 (f.code : Int)) ∧ w'.cell? ⟨b2, o2 + i * 16 + 13, none⟩ = some (.slice Bg f.list.length dg) ∧ w'.cell? ⟨b2, o2 + i * 16 + 14, none⟩ = some (.int .i64 f.last) ∧ w'.cell? ⟨b2, o2 + i * 16 + 15, none⟩ = some (.int .i64 f.inc))
          (first | exact ⟨HP1.out 0 _ rfl, HP1.out 1 _ rfl, HP1.out 2 _ rfl, HP1.out 3 _ rfl, HP1.out 4 _ rfl, HP1.out 5 _ rfl, HP1.out 6 _ rfl, HP1.out 7 _ rfl, HP1.out 8 _ rfl, HP1.out 9 _ rfl, HP1.out 10 _ rfl, HP1.out 11 _ rfl, HP1.out 12 _ rfl, HP1.out 13 _ rfl, HP1.out 14 _ rfl, HP1.out 15 _ rfl, HP2.out 0 _ rfl, HP2.out 1 _ rfl, HP2.out 2 _ rfl, HP2.out 3 _ rfl, HP2.out 4 _ rfl, HP2.out 5 _ rfl, HP2.out 6 _ rfl, HP2.out 7 _ rfl, HP2.out 8 _ rfl, HP2.out 9 _ rfl, HP2.out 10 _ rfl, HP2.out 11 _ rfl, HP2.out 12 _ rfl, HP2.out 13 _ rfl, HP2.out 14 _ rfl, HP2.out 15 _ rfl⟩ | exact ⟨HK1.out 0 _ rfl, HK1.out 1 _ rfl, HK1.out 2 _ rfl, HK1.out 3 _ rfl, HK1.out 4 _ rfl, HK1.out 5 _ rfl, HK1.out 6 _ rfl, HK1.out 7 _ rfl, HK1.out 8 _ rfl, HK1.out 9 _ rfl, HK1.out 10 _ rfl, HK1.out 11 _ rfl, HK1.out 12 _ rfl, HK1.out 13 _ rfl, HK1.out 14 _ rfl, HK1.out 15 _ rfl, HK2.out 0 _ rfl, HK2.out 1 _ rfl, HK2.out 2 _ rfl, HK2.out 3 _ rfl, HK2.out 4 _ rfl, HK2.out 5 _ rfl, HK2.out 6 _ rfl, HK2.out 7 _ rfl, HK2.out 8 _ rfl, HK2.out 9 _ rfl, HK2.out 10 _ rfl, HK2.out 11 _ rfl, HK2.out 12 _ rfl, HK2.out 13 _ rfl, HK2.out 14 _ rfl, HK2.out 15 _ rfl⟩)
          (first
          | (go_at_call 16; (with_reducible refine (same_c f RP1.out RL1.out RP2.out RL2.out HBB.out).mono ?_); rintro e w8 ⟨rfl, b8⟩
             have S9 := Lib.hid (S8d.out.next b8)
             obtain ⟨b5, o5, e5, hp5⟩ := rd_elem (fun t : Tl => frC t.f t.pv t.lv) 16 (by omega) (fun _ => rfl) (Rd.of_own S9.out.own4) HL2.out HT1.out
             obtain ⟨b6, o6, e6, hp6⟩ := rd_elem (fun t : Tl => frC t.f t.pv t.lv) 16 (by omega) (fun _ => rfl) (Rd.of_own S9.out.own2) HQ.out HT2.out
             cases e5
             cases e6
             have HK1 : Hid (∀ (k : Nat) (u : Value), (frC f (.slice Af f.pay.length cf) (.slice Bf f.list.length df))[k]? = some u → w8.cell? ⟨b1, o1 + i * 16 + k, none⟩ = some u) := hp5
             have HK2 : Hid (∀ (k : Nat) (u : Value), (frC f (.slice Ag f.pay.length cg) (.slice Bg f.list.length dg))[k]? = some u → w8.cell? ⟨b2, o2 + i * 16 + k, none⟩ = some u) := hp6
             clear hp5 hp6
             clear b8))
        obtain ⟨b3, o3, rfl, hp3⟩ := rd_elem (fun t : Tl => [.bool t.x.is, .int .u32 (t.x.code : Int), .int .i64 t.x.stream]) 3 (by omega) (fun _ => rfl) (Rd.of_own S9.out.own5) HL2.out HT1.out
        have x0 : w8.cell? ⟨b3, o3 + i * 3, none⟩ = some (.bool false) := hp3 0 _ rfl
        clear hp3
        go_wp2
        go_roundg g1
        case measure => omega
        case rel =>
          have hi := HI.out
          have hq := HI1.out
          exact ⟨i1, by omega, rfl, S9.out⟩
end Go.Proofs.YtokbdkbljgdcpaaDoor
