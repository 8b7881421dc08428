/- The law BlockPasses: the walk. -/
import Derived.Test.YtnflegdoeomhcaaVq
namespace Go.Proofs.Ytnflegdoeomhcaa
open Go.RowKit Go.Own Go.Frm
set_option linter.unusedVariables false
set_option linter.unusedSimpArgs false
set_option maxRecDepth 100000
theorem own_g (f : Fm) {w : World} {A B : Option Addr} {c d : Nat} (hp : Rd w 1 A f.pay.length (f.pay.map BV)) (hl : Rd w 2 B f.list.length (scells f.list)) (h1 : f.pay.length ≤ c) (h2 : f.list.length ≤ d) (h3 : c ≤ 140737488351232) (h4 : d ≤ 140737488351232) (g : Fm) (hg : smF f 300 = g) :
    Calls Try.prog 11 #[.agg #[.int .i64 f.kind, .int .i64 f.stream, .bool f.fin, .bool f.eh, .bool f.ack, .bool f.prio, .slice A f.pay.length c, .int .i64 f.flags, .int .i64 f.pad, .int .i64 f.depend, .bool f.excl, .int .i64 f.weight, .int .u32 (f.code : Int), .slice B f.list.length d, .int .i64 f.last, .int .i64 f.inc], .int .i64 300] w fun e w' => ∃ A1 c1 B1 d1, e = .returned (.agg #[.int .i64 g.kind, .int .i64 g.stream, .bool g.fin, .bool g.eh, .bool g.ack, .bool g.prio, .slice A1 g.pay.length c1, .int .i64 g.flags, .int .i64 g.pad, .int .i64 g.depend, .bool g.excl, .int .i64 g.weight, .int .u32 (g.code : Int), .slice B1 g.list.length d1, .int .i64 g.last, .int .i64 g.inc]) ∧ St (fun _ => False) w w' [SLo 0 5 1 (.slice A1 g.pay.length c1) g.pay.length (g.pay.map BV), SLo 0 54 2 (.slice B1 g.list.length d1) g.list.length (scells g.list)] := by
  subst hg
  exact own_c f hp hl h1 h2 (by omega) (by omega) _ _ (by show _ = (f.pay.take 300).length; rw [List.length_take]; omega) (by show _ = (f.list.take 20).length; rw [List.length_take]; omega)
theorem sm_le (f : Fm) : (smF f 300).pay.length ≤ 300 ∧ (smF f 300).list.length ≤ 20 := ⟨by show (f.pay.take 300).length ≤ _; rw [List.length_take]; omega, by show (f.list.take 20).length ≤ _; rw [List.length_take]; omega⟩
/-- the cells of a frame in a slice -/
structure Fat (w : World) (b o k : Nat) (f : Fm) (P : Option Addr) (pc : Nat) (B : Option Addr) (lc : Nat) : Prop where
  c : ∀ (j : Nat) (u : Value), (frC f (.slice P f.pay.length pc) (.slice B f.list.length lc))[j]? = some u → w.cell? ⟨b, o + k * 16 + j, none⟩ = some u
theorem Fat.below {w w' : World} {b o k : Nat} {f : Fm} {P B : Option Addr} {pc lc : Nat} (h : Fat w b o k f P pc B lc) (hb : Below w.heap.size w w') : Fat w' b o k f P pc B lc :=
  ⟨fun j u hu => by rw [hb.cell (World.block_lt_of_cell? _ _ (h.c j u hu))]; exact h.c j u hu⟩
theorem Fat.all {w : World} {b o k : Nat} {f : Fm} {P B : Option Addr} {pc lc : Nat} (h : Fat w b o k f P pc B lc) : b < w.heap.size ∧ w.cell? ⟨b, o + k * 16, none⟩ = some (.int .i64 f.kind) ∧ w.cell? ⟨b, o + k * 16 + 1, none⟩ = some (.int .i64 f.stream) ∧ w.cell? ⟨b, o + k * 16 + 2, none⟩ = some (.bool f.fin) ∧ w.cell? ⟨b, o + k * 16 + 3, none⟩ = some (.bool f.eh) ∧ w.cell? ⟨b, o + k * 16 + 4, none⟩ = some (.bool f.ack) ∧ w.cell? ⟨b, o + k * 16 + 5, none⟩ = some (.bool f.prio) ∧ w.cell? ⟨b, o + k * 16 + 6, none⟩ = some (.slice P f.pay.length pc) ∧ w.cell? ⟨b, o + k * 16 + 7, none⟩ = some (.int .i64 f.flags) ∧ w.cell? ⟨b, o + k * 16 + 8, none⟩ = some (.int .i64 f.pad) ∧ w.cell? ⟨b, o + k * 16 + 9, none⟩ = some (.int .i64 f.depend) ∧ w.cell? ⟨b, o + k * 16 + 10, none⟩ = some (.bool f.excl) ∧ w.cell? ⟨b, o + k * 16 + 11, none⟩ = some (.int .i64 f.weight) ∧ w.cell? ⟨b, o + k * 16 + 12, none⟩ = some (.int .u32 (f.code : Int)) ∧ w.cell? ⟨b, o + k * 16 + 13, none⟩ = some (.slice B f.list.length lc) ∧ w.cell? ⟨b, o + k * 16 + 14, none⟩ = some (.int .i64 f.last) ∧ w.cell? ⟨b, o + k * 16 + 15, none⟩ = some (.int .i64 f.inc) :=
  ⟨World.block_lt_of_cell? _ _ (h.c 0 _ rfl), h.c 0 _ rfl, h.c 1 _ rfl, h.c 2 _ rfl, h.c 3 _ rfl, h.c 4 _ rfl, h.c 5 _ rfl, h.c 6 _ rfl, h.c 7 _ rfl, h.c 8 _ rfl, h.c 9 _ rfl, h.c 10 _ rfl, h.c 11 _ rfl, h.c 12 _ rfl, h.c 13 _ rfl, h.c 14 _ rfl, h.c 15 _ rfl⟩
set_option maxHeartbeats 16000000 in
theorem lawPasses {w0 : World} {A : Option Addr} {n c : Nat} (h : HoldsT Try.prog w0 9 38 [.slice A n c]) :
    Calls Try.prog 5 #[.slice A n c] w0 fun e w' => e = .returned (.bool true) ∧ Below w0.heap.size w0 w' := by
  have hm : Hid (((100 : Nat) : Int) = max 100 0) := by unfold Hid; decide
  have HH := Lib.hid h
  have hncx : n ≤ c := (HoldsT.slice (d := 8) Try.underlying38 h).1
  obtain ⟨N, hN⟩ : ∃ N, min n 100 = N := ⟨_, rfl⟩
  clear h
  go_enter Try.func5, Try.ntmps5
  go_wp2_with (first
    | (go_at_call 8; (with_reducible refine (shown_c _).mono ?_); rintro e w1 ⟨rfl, hb1⟩
       have HB1 := Lib.hid hb1
       clear hb1)
    | (go_at_call 9; (with_reducible refine (new_c 100 100 hm.out).mono ?_); rintro e w2 ⟨p, rfl, t2⟩
       have t2' : St (fun _ => False) w0 w2 [AO p (.idle 100)] := t2.before (Fr.of_below (S := fun _ => False) HB1.out (fun i h1 h2 => absurd h2 (by omega)))
       have T2 := Lib.hid t2'
       clear t2 t2'))
  go_loopg [5] N (fun gh i w => ∃ k : Nat, gh + k = N ∧ i = .int .i64 (k : Int) ∧ Hid (St (fun _ => False) w0 w [AO p (.idle 100)]))
  case atStart => exact ⟨0, by omega, rfl, T2.out⟩
  case round =>
    obtain ⟨k, hgk, rfl, HS⟩ := hrel
    clear T2 hm
    cases gk with
    | zero =>
      obtain rfl : k = N := by omega
      have hend : ¬ k < n ∨ (k < n ∧ ¬ k < 100) := by omega
      clear hN hgk
      rcases hend with h1 | ⟨h1, h2⟩
      all_goals
        go_wp2
        go_ret
        exact ⟨rfl, HS.out.below⟩
    | succ g1 =>
      have hkn : k < n := by omega
      have hk1 : (k : Int) < 100 := by omega
      have hk2 : (k : Int) < (n : Int) := by omega
      have e2 : IntKind.i64.wrap ((k : Int) + 1) = (k : Int) + 1 := by rw [IntKind.wrap_i64]; omega
      have HG : Hid (g1 + (k + 1) = N) := by unfold Hid; omega
      obtain ⟨b, o, f, P, pc, B, lc, rfl, hc, hp, hp1, hp2, hl, hl1, hl2, _⟩ := frames_at HH.out hkn
      have HFa : Hid (Fat w0 b o k f P pc B lc) := ⟨hc⟩
      have HP := Lib.hid hp
      have HL := Lib.hid hl
      have HC : Hid (f.pay.length ≤ pc ∧ pc ≤ 140737488351232 ∧ f.list.length ≤ lc ∧ lc ≤ 140737488351232) := ⟨hp1, hp2, hl1, hl2⟩
      obtain ⟨g, hg⟩ : ∃ g, smF f 300 = g := ⟨_, rfl⟩
      have hle := sm_le f
      rw [hg] at hle
      have HLE : Hid (g.pay.length ≤ 1000000 ∧ g.list.length ≤ 1000000) := ⟨by omega, by omega⟩
      have HGe := Lib.hid hg
      have fa := HFa.out.below HS.out.below
      obtain ⟨fl, f0, f1, f2, f3, f4, f5, f6, f7, f8, f9, f10, f11, f12, f13, f14, f15⟩ := fa.all
      have HP1 := Lib.hid (HS.out.rd HP.out (fun _ _ h => h))
      have HL1 := Lib.hid (HS.out.rd HL.out (fun _ _ h => h))
      clear hc hp hp1 hp2 hl hl1 hl2 hg hle fa hgk hN
      go_upto_region 9 with (first
        | (go_at_call 11; (with_reducible refine (own_g f HP1.out HL1.out HC.out.1 HC.out.2.2.1 HC.out.2.1 HC.out.2.2.2 g HGe.out).mono ?_); rintro e w3 ⟨A1, c1, B1, d1, rfl, h3⟩
           have t3 := HS.out.add h3
           have T3 := Lib.hid t3
           clear h3 t3))
      obtain ⟨q6, hq6⟩ : ∃ q, w3.heap.size = q := ⟨_, rfl⟩
      obtain ⟨W4, hW4⟩ : ∃ W4, w3.alloc (.cells #[.int .i64 g.kind, .int .i64 g.stream, .bool g.fin, .bool g.eh, .bool g.ack, .bool g.prio, .slice A1 g.pay.length c1, .int .i64 g.flags, .int .i64 g.pad, .int .i64 g.depend, .bool g.excl, .int .i64 g.weight, .int .u32 (g.code : Int), .slice B1 g.list.length d1, .int .i64 g.last, .int .i64 g.inc] 32) = W4 := ⟨_, rfl⟩
      have t4 : St (fun _ => False) w0 W4 [AO p (.idle 100), SLo 0 5 1 (.slice A1 g.pay.length c1) g.pay.length (g.pay.map BV), SLo 0 54 2 (.slice B1 g.list.length d1) g.list.length (scells g.list), BLo q6 32 [.int .i64 g.kind, .int .i64 g.stream, .bool g.fin, .bool g.eh, .bool g.ack, .bool g.prio, .slice A1 g.pay.length c1, .int .i64 g.flags, .int .i64 g.pad, .int .i64 g.depend, .bool g.excl, .int .i64 g.weight, .int .u32 (g.code : Int), .slice B1 g.list.length d1, .int .i64 g.last, .int .i64 g.inc]] := by
        have := T3.out.block 32 [.int .i64 g.kind, .int .i64 g.stream, .bool g.fin, .bool g.eh, .bool g.ack, .bool g.prio, .slice A1 g.pay.length c1, .int .i64 g.flags, .int .i64 g.pad, .int .i64 g.depend, .bool g.excl, .int .i64 g.weight, .int .u32 (g.code : Int), .slice B1 g.list.length d1, .int .i64 g.last, .int .i64 g.inc]
        rw [hq6, hW4] at this
        exact this
      rw [hW4, hq6]
      have T4 := Lib.hid t4
      clear t4 hW4 hq6 T3 fl f0 f1 f2 f3 f4 f5 f6 f7 f8 f9 f10 f11 f12 f13 f14 f15 HP1 HL1
      obtain ⟨x0, x1, x2, x3, x4, x5, x6, x7, x8, x9, x10, x11, x12, x13, x14, x15⟩ := cells16v (St.blk3 T4.out)
      have xl := (St.blk3 T4.out).lt
      rcases (show (g.kind == 1) = true ∨ (g.kind == 1) = false from by cases (g.kind == 1) <;> simp) with y1 | y1
      · as_aux_lemma =>
        go_wp2
        go_roundg g1
        case measure => omega
        case rel => exact ⟨k + 1, HG.out, by go_num, St.drop1 (St.drop1 (St.drop1 T4.out))⟩
      rcases (show (g.kind == 9) = true ∨ (g.kind == 9) = false from by cases (g.kind == 9) <;> simp) with y9 | y9
      · as_aux_lemma =>
        go_wp2
        go_roundg g1
        case measure => omega
        case rel => exact ⟨k + 1, HG.out, by go_num, St.drop1 (St.drop1 (St.drop1 T4.out))⟩
      have Y1 := Lib.hid y1
      have Y9 := Lib.hid y9
      as_aux_lemma =>
      go_upto_region 10 with (fail)
      clear y1 y9
      have HPA := Lib.hid (Rd.of_own (St.own1 T4.out))
      have HLA := Lib.hid (Rd.of_own (St.own2 T4.out))
      go_upto_region 11 with (first
        | (go_at_call 10; (with_reducible refine (step_pass T4.out rfl rfl Y9.out Y1.out HPA.out HLA.out HLE.out.1 HLE.out.2).mono ?_); rintro e w5 ⟨A2, c2, B2, d2, rfl, t5⟩
           have t5' : St (fun _ => False) w0 w5 [AO p (.idle 100), SLo 0 5 1 (.slice A2 g.pay.length c2) g.pay.length (g.pay.map BV), SLo 0 54 2 (.slice B2 g.list.length d2) g.list.length (scells g.list)] := St.drop1 (St.drop1 (St.drop1 t5))
           have T5 := Lib.hid t5'
           clear t5 t5'))
      obtain ⟨q7, hq7⟩ : ∃ q, w5.heap.size = q := ⟨_, rfl⟩
      obtain ⟨W6, hW6⟩ : ∃ W6, (w5.alloc (.cells #[.int .i64 g.kind, .int .i64 g.stream, .bool g.fin, .bool g.eh, .bool g.ack, .bool g.prio, .slice A2 g.pay.length c2, .int .i64 g.flags, .int .i64 g.pad, .int .i64 g.depend, .bool g.excl, .int .i64 g.weight, .int .u32 (g.code : Int), .slice B2 g.list.length d2, .int .i64 g.last, .int .i64 g.inc] 32)).alloc (.cells #[.bool false, .int .u32 0, .int .i64 0] 34) = W6 := ⟨_, rfl⟩
      have t6 := two_gen T5.out [.int .i64 g.kind, .int .i64 g.stream, .bool g.fin, .bool g.eh, .bool g.ack, .bool g.prio, .slice A2 g.pay.length c2, .int .i64 g.flags, .int .i64 g.pad, .int .i64 g.depend, .bool g.excl, .int .i64 g.weight, .int .u32 (g.code : Int), .slice B2 g.list.length d2, .int .i64 g.last, .int .i64 g.inc] [.bool false, .int .u32 0, .int .i64 0] W6 hW6
      rw [hq7] at t6
      rw [hW6, hq7]
      have T6 : Hid (St (fun _ => False) w0 W6 [AO p (.idle 100), SLo 0 5 1 (.slice A2 g.pay.length c2) g.pay.length (g.pay.map BV), SLo 0 54 2 (.slice B2 g.list.length d2) g.list.length (scells g.list), BLo q7 32 [.int .i64 g.kind, .int .i64 g.stream, .bool g.fin, .bool g.eh, .bool g.ack, .bool g.prio, .slice A2 g.pay.length c2, .int .i64 g.flags, .int .i64 g.pad, .int .i64 g.depend, .bool g.excl, .int .i64 g.weight, .int .u32 (g.code : Int), .slice B2 g.list.length d2, .int .i64 g.last, .int .i64 g.inc], BLo (q7 + 1) 34 [.bool false, .int .u32 0, .int .i64 0]]) := t6
      clear t6 hW6 hq7 T4 T5 x0 x1 x2 x3 x4 x5 x6 x7 x8 x9 x10 x11 x12 x13 x14 x15 xl HPA HLA
      have HK : Hid (∀ w2, Below W6.heap.size W6 w2 → (q7 < w2.heap.size ∧ b < w2.heap.size) ∧ (w2.cell? ⟨q7, 0, none⟩ = some (.int .i64 g.kind) ∧ w2.cell? ⟨q7, 1, none⟩ = some (.int .i64 g.stream) ∧ w2.cell? ⟨q7, 2, none⟩ = some (.bool g.fin) ∧ w2.cell? ⟨q7, 3, none⟩ = some (.bool g.eh) ∧ w2.cell? ⟨q7, 4, none⟩ = some (.bool g.ack) ∧ w2.cell? ⟨q7, 5, none⟩ = some (.bool g.prio) ∧ w2.cell? ⟨q7, 6, none⟩ = some (.slice A2 g.pay.length c2) ∧ w2.cell? ⟨q7, 7, none⟩ = some (.int .i64 g.flags) ∧ w2.cell? ⟨q7, 8, none⟩ = some (.int .i64 g.pad) ∧ w2.cell? ⟨q7, 9, none⟩ = some (.int .i64 g.depend) ∧ w2.cell? ⟨q7, 10, none⟩ = some (.bool g.excl) ∧ w2.cell? ⟨q7, 11, none⟩ = some (.int .i64 g.weight) ∧ w2.cell? ⟨q7, 12, none⟩ = some (.int .u32 (g.code : Int)) ∧ w2.cell? ⟨q7, 13, none⟩ = some (.slice B2 g.list.length d2) ∧ w2.cell? ⟨q7, 14, none⟩ = some (.int .i64 g.last) ∧ w2.cell? ⟨q7, 15, none⟩ = some (.int .i64 g.inc)) ∧ w2.cell? ⟨b, o + k * 16, none⟩ = some (.int .i64 f.kind) ∧ w2.cell? ⟨b, o + k * 16 + 1, none⟩ = some (.int .i64 f.stream) ∧ w2.cell? ⟨b, o + k * 16 + 2, none⟩ = some (.bool f.fin) ∧ w2.cell? ⟨b, o + k * 16 + 3, none⟩ = some (.bool f.eh) ∧ w2.cell? ⟨b, o + k * 16 + 4, none⟩ = some (.bool f.ack) ∧ w2.cell? ⟨b, o + k * 16 + 5, none⟩ = some (.bool f.prio) ∧ w2.cell? ⟨b, o + k * 16 + 6, none⟩ = some (.slice P f.pay.length pc) ∧ w2.cell? ⟨b, o + k * 16 + 7, none⟩ = some (.int .i64 f.flags) ∧ w2.cell? ⟨b, o + k * 16 + 8, none⟩ = some (.int .i64 f.pad) ∧ w2.cell? ⟨b, o + k * 16 + 9, none⟩ = some (.int .i64 f.depend) ∧ w2.cell? ⟨b, o + k * 16 + 10, none⟩ = some (.bool f.excl) ∧ w2.cell? ⟨b, o + k * 16 + 11, none⟩ = some (.int .i64 f.weight) ∧ w2.cell? ⟨b, o + k * 16 + 12, none⟩ = some (.int .u32 (f.code : Int)) ∧ w2.cell? ⟨b, o + k * 16 + 13, none⟩ = some (.slice B f.list.length lc) ∧ w2.cell? ⟨b, o + k * 16 + 14, none⟩ = some (.int .i64 f.last) ∧ w2.cell? ⟨b, o + k * 16 + 15, none⟩ = some (.int .i64 f.inc)) := fun w2 hb => by
        have hx := (St.blk3 T6.out).below hb (St.blk3 T6.out).lt
        have hy := ((HFa.out.below T6.out.below).below hb).all
        have hz := cells16v hx
        exact ⟨⟨hx.lt, hy.1⟩, hz, hy.2⟩
      as_aux_lemma =>
      have HBe : Hid (Below W6.heap.size W6 W6.drew) := below_drewN (Below.refl _ _) 1
      have HPd := Lib.hid (T6.out.drew.rd HP.out (fun _ _ h => h))
      have HLd := Lib.hid (T6.out.drew.rd HL.out (fun _ _ h => h))
      go_region_held (fun w2 => (q7 < w2.heap.size ∧ b < w2.heap.size) ∧ (w2.cell? ⟨q7, 0, none⟩ = some (.int .i64 g.kind) ∧ w2.cell? ⟨q7, 1, none⟩ = some (.int .i64 g.stream) ∧ w2.cell? ⟨q7, 2, none⟩ = some (.bool g.fin) ∧ w2.cell? ⟨q7, 3, none⟩ = some (.bool g.eh) ∧ w2.cell? ⟨q7, 4, none⟩ = some (.bool g.ack) ∧ w2.cell? ⟨q7, 5, none⟩ = some (.bool g.prio) ∧ w2.cell? ⟨q7, 6, none⟩ = some (.slice A2 g.pay.length c2) ∧ w2.cell? ⟨q7, 7, none⟩ = some (.int .i64 g.flags) ∧ w2.cell? ⟨q7, 8, none⟩ = some (.int .i64 g.pad) ∧ w2.cell? ⟨q7, 9, none⟩ = some (.int .i64 g.depend) ∧ w2.cell? ⟨q7, 10, none⟩ = some (.bool g.excl) ∧ w2.cell? ⟨q7, 11, none⟩ = some (.int .i64 g.weight) ∧ w2.cell? ⟨q7, 12, none⟩ = some (.int .u32 (g.code : Int)) ∧ w2.cell? ⟨q7, 13, none⟩ = some (.slice B2 g.list.length d2) ∧ w2.cell? ⟨q7, 14, none⟩ = some (.int .i64 g.last) ∧ w2.cell? ⟨q7, 15, none⟩ = some (.int .i64 g.inc)) ∧ w2.cell? ⟨b, o + k * 16, none⟩ = some (.int .i64 f.kind) ∧ w2.cell? ⟨b, o + k * 16 + 1, none⟩ = some (.int .i64 f.stream) ∧ w2.cell? ⟨b, o + k * 16 + 2, none⟩ = some (.bool f.fin) ∧ w2.cell? ⟨b, o + k * 16 + 3, none⟩ = some (.bool f.eh) ∧ w2.cell? ⟨b, o + k * 16 + 4, none⟩ = some (.bool f.ack) ∧ w2.cell? ⟨b, o + k * 16 + 5, none⟩ = some (.bool f.prio) ∧ w2.cell? ⟨b, o + k * 16 + 6, none⟩ = some (.slice P f.pay.length pc) ∧ w2.cell? ⟨b, o + k * 16 + 7, none⟩ = some (.int .i64 f.flags) ∧ w2.cell? ⟨b, o + k * 16 + 8, none⟩ = some (.int .i64 f.pad) ∧ w2.cell? ⟨b, o + k * 16 + 9, none⟩ = some (.int .i64 f.depend) ∧ w2.cell? ⟨b, o + k * 16 + 10, none⟩ = some (.bool f.excl) ∧ w2.cell? ⟨b, o + k * 16 + 11, none⟩ = some (.int .i64 f.weight) ∧ w2.cell? ⟨b, o + k * 16 + 12, none⟩ = some (.int .u32 (f.code : Int)) ∧ w2.cell? ⟨b, o + k * 16 + 13, none⟩ = some (.slice B f.list.length lc) ∧ w2.cell? ⟨b, o + k * 16 + 14, none⟩ = some (.int .i64 f.last) ∧ w2.cell? ⟨b, o + k * 16 + 15, none⟩ = some (.int .i64 f.inc)) (exact HK.out _ HBe.out)
        (first
        | (go_at_call 11; (with_reducible refine (own_g f HPd.out HLd.out HC.out.1 HC.out.2.2.1 HC.out.2.1 HC.out.2.2.2 g HGe.out).mono ?_); rintro e w7 ⟨A3, c3, B3, d3, rfl, h7⟩
           have t7 := T6.out.drew.add h7
           have hb7 := HBe.out.trans (h7.below.mono HBe.out.size)
           have T7 : Hid (St (fun _ => False) w0 w7 [AO p (.idle 100), SLo 0 5 1 (.slice A2 g.pay.length c2) g.pay.length (g.pay.map BV), SLo 0 54 2 (.slice B2 g.list.length d2) g.list.length (scells g.list), BLo q7 32 [.int .i64 g.kind, .int .i64 g.stream, .bool g.fin, .bool g.eh, .bool g.ack, .bool g.prio, .slice A2 g.pay.length c2, .int .i64 g.flags, .int .i64 g.pad, .int .i64 g.depend, .bool g.excl, .int .i64 g.weight, .int .u32 (g.code : Int), .slice B2 g.list.length d2, .int .i64 g.last, .int .i64 g.inc], BLo (q7 + 1) 34 [.bool false, .int .u32 0, .int .i64 0], SLo 0 5 1 (.slice A3 g.pay.length c3) g.pay.length (g.pay.map BV), SLo 0 54 2 (.slice B3 g.list.length d3) g.list.length (scells g.list)]) := t7
           clear HBe
           have HBe := Lib.hid hb7
           clear h7 t7 hb7)
        | (go_at_call 13; (with_reducible refine (same_c g (Rd.of_own (St.own1 T7.out)) (Rd.of_own (St.own2 T7.out)) (Rd.of_own (St.own5 T7.out)) (Rd.of_own (St.own6 T7.out)) (by have := HLE.out; omega)).mono ?_); rintro e w8 ⟨rfl, h8⟩
           have hb8 := HBe.out.trans (h8.mono HBe.out.size)
           have t8 := T7.out.next h8
           have T8 := Lib.hid t8
           clear HBe
           have HBe := Lib.hid hb8
           clear h8 t8 hb8))
      all_goals
        clear HK
        as_aux_lemma =>
        go_wp2_with (first
          | (go_at_call 14; (with_reducible refine (open_c T8.out).mono ?_); rintro e w9 ⟨rfl, j, hj⟩
             have t9 := T8.out.drewN j
             rw [← hj] at t9
             have T9 := Lib.hid t9
             obtain ⟨y0, y1, y2⟩ := cells3v (St.blk4 t9)
             have yl := (St.blk4 t9).lt
             clear hj t9)
          | (go_at_call 12; (with_reducible refine (len_c T9.out).mono ?_); rintro e w10 ⟨rfl, hw⟩; subst hw))
        go_roundg g1
        case measure => omega
        case rel => exact ⟨k + 1, HG.out, by go_num, St.drop1 (St.drop1 (St.drop1 (St.drop1 (St.drop1 (St.drop1 T9.out)))))⟩
theorem lawPassesH {w : World} {A : Option Addr} {n c : Nat} (h : HoldsT Try.prog w 9 38 [.slice A n c]) : Calls Try.prog 5 #[.slice A n c] w fun e w' => e = .returned (.bool true) ∧ Below w.heap.size w w' := lawPasses h
end Go.Proofs.Ytnflegdoeomhcaa
