/- Stage 8: Apply, the program's. -/
import Derived.Test.YthdikinpociiaaaSeB
import Derived.Test.YthdikinpociiaaaSt
namespace Go.Proofs.Ythdikinpociiaaa
open Go.RowKit Go.Own Go.Set8
set_option linter.unusedVariables false
set_option maxRecDepth 100000
theorem st2 (w : World) (t0 t1 : TypeId) (c0 c1 : List Value) : St (fun _ => False) w ((w.alloc (.cells c0.toArray t0)).alloc (.cells c1.toArray t1)) [BLo w.heap.size t0 c0, BLo (w.heap.size + 1) t1 c1] := by
  have h := ((St.nil (fun _ => False) w).block t0 c0).block t1 c1
  simpa using h
theorem st3 (w : World) (t0 t1 t2 : TypeId) (c0 c1 c2 : List Value) : St (fun _ => False) w (((w.alloc (.cells c0.toArray t0)).alloc (.cells c1.toArray t1)).alloc (.cells c2.toArray t2)) [BLo w.heap.size t0 c0, BLo (w.heap.size + 1) t1 c1, BLo (w.heap.size + 1 + 1) t2 c2] := by
  have h := (st2 w t0 t1 c0 c1).block t2 c2
  simpa using h
theorem st4 (w : World) (t0 t1 t2 t3 : TypeId) (c0 c1 c2 c3 : List Value) : St (fun _ => False) w ((((w.alloc (.cells c0.toArray t0)).alloc (.cells c1.toArray t1)).alloc (.cells c2.toArray t2)).alloc (.cells c3.toArray t3)) [BLo w.heap.size t0 c0, BLo (w.heap.size + 1) t1 c1, BLo (w.heap.size + 1 + 1) t2 c2, BLo (w.heap.size + 1 + 1 + 1) t3 c3] := by
  have h := (st3 w t0 t1 t2 c0 c1 c2).block t3 c3
  simpa using h
theorem st_block2 {S : Nat → Prop} {w0 w : World} {L : List Ob} (s : St S w0 w L) (t0 t1 : TypeId) (c0 c1 : List Value) : St S w0 ((w.alloc (.cells c0.toArray t0)).alloc (.cells c1.toArray t1)) (L ++ [BLo w.heap.size t0 c0, BLo (w.heap.size + 1) t1 c1]) := by
  have h := (s.block t0 c0).block t1 c1
  simpa using h
theorem cells6 {w : World} {g : Nat} {t : TypeId} {a b c d e f : Value} (h : Blk w g t [a, b, c, d, e, f]) : w.cell? ⟨g, 0, none⟩ = some a ∧ w.cell? ⟨g, 1, none⟩ = some b ∧ w.cell? ⟨g, 2, none⟩ = some c ∧ w.cell? ⟨g, 3, none⟩ = some d ∧ w.cell? ⟨g, 4, none⟩ = some e ∧ w.cell? ⟨g, 5, none⟩ = some f :=
  ⟨h.cell 0, h.cell 1, h.cell 2, h.cell 3, h.cell 4, h.cell 5⟩
theorem cells3 {w : World} {g : Nat} {t : TypeId} {a b c : Value} (h : Blk w g t [a, b, c]) : w.cell? ⟨g, 0, none⟩ = some a ∧ w.cell? ⟨g, 1, none⟩ = some b ∧ w.cell? ⟨g, 2, none⟩ = some c :=
  ⟨h.cell 0, h.cell 1, h.cell 2⟩
theorem cells2 {w : World} {g : Nat} {t : TypeId} {a b : Value} (h : Blk w g t [a, b]) : w.cell? ⟨g, 0, none⟩ = some a ∧ w.cell? ⟨g, 1, none⟩ = some b :=
  ⟨h.cell 0, h.cell 1⟩
theorem setV {w : World} {g : Nat} {t : TypeId} {a b c d e f a' b' c' d' e' f' : Value} (h : Blk w g t [a, b, c, d, e, f]) :
    Blk ((((((w.setCell ⟨g, 0, none⟩ a').setCell ⟨g, 1, none⟩ b').setCell ⟨g, 2, none⟩ c').setCell ⟨g, 3, none⟩ d').setCell ⟨g, 4, none⟩ e').setCell ⟨g, 5, none⟩ f') g t [a', b', c', d', e', f'] := (((((h.set_ 0 a').set_ 1 b').set_ 2 c').set_ 3 d').set_ 4 e').set_ 5 f'
theorem res_vg {fn : Func} {p q : Tmp} (h : fn.results = #[.cell p 23, .cell q 29]) {tmps : Array Value} {w : World} {g d : Nat} {a b c x y z k l m : Value} (hp : tmps.getD p undef = .pointer (some ⟨g, 0, none⟩)) (hq : tmps.getD q undef = .pointer (some ⟨d, 0, none⟩)) (hb : Blk w g 23 [a, b, c, x, y, z]) (hd : Blk w d 29 [k, l, m]) :
    (results fn tmps).run Try.prog w = .ok (.tuple #[.agg #[a, b, c, x, y, z], .agg #[k, l, m]]) w := by
  have hp' : tmps[p]?.getD undef = .pointer (some ⟨g, 0, none⟩) := by simpa using hp
  have hq' : tmps[q]?.getD undef = .pointer (some ⟨d, 0, none⟩) := by simpa using hq
  have h1 := run_loadVar_row (P := Try.prog) w g 23 23 #[a, b, c, x, y, z] (0, 0) _ hb Try.underlying23 rfl (by kernel_rfl)
  have h2 := run_loadVar_row (P := Try.prog) w d 29 29 #[k, l, m] (0, 0) _ hd Try.underlying29 rfl (by kernel_rfl)
  simp [results, h, hp', hq', asAddr, h1, h2]
theorem setVG {S : Nat → Prop} {w0 w : World} {A0 A1 : Ob} {p q : Nat} {t u : TypeId} {a b c d e f k l m : Value} (s : St S w0 w [A0, A1, BLo p t [a, b, c, d, e, f], BLo q u [k, l, m]]) (a' b' c' d' e' f' k' l' m' : Value) :
    St S w0 (((((((((w.setCell ⟨p, 0, none⟩ a').setCell ⟨p, 1, none⟩ b').setCell ⟨p, 2, none⟩ c').setCell ⟨p, 3, none⟩ d').setCell ⟨p, 4, none⟩ e').setCell ⟨p, 5, none⟩ f').setCell ⟨q, 0, none⟩ k').setCell ⟨q, 1, none⟩ l').setCell ⟨q, 2, none⟩ m') [A0, A1, BLo p t [a', b', c', d', e', f'], BLo q u [k', l', m']] :=
  St.set3 (St.set3 (St.set3 (St.set2 (St.set2 (St.set2 (St.set2 (St.set2 (St.set2 s 0 a') 1 b') 2 c') 3 d') 4 e') 5 f') 0 k') 1 l') 2 m'
section
variable {w : World}
set_option maxHeartbeats 4000000 in
theorem apply_c (v : Va) (a : Int) (n : Nat) (hn : n < 4294967296) (srv : Bool) (x : Va) (g : Ga) (h : applyV v (a, n) srv = (x, g)) : Calls Try.prog 13 #[(.agg #[.int .i64 v.tab, .bool v.push, .int .i64 v.str, .int .i64 v.win, .int .i64 v.frm, .int .i64 v.lst]), (.agg #[.int .i64 a, .int .u32 (n : Int)]), .bool srv] w fun e w' => e = .returned (.tuple #[(.agg #[.int .i64 x.tab, .bool x.push, .int .i64 x.str, .int .i64 x.win, .int .i64 x.frm, .int .i64 x.lst]), (.agg #[.bool g.is, .int .u32 g.code, .int .i64 0])]) ∧ Below w.heap.size w w' := by
  have S4 := Lib.hid (st4 w 23 35 23 29 [.int .i64 v.tab, .bool v.push, .int .i64 v.str, .int .i64 v.win, .int .i64 v.frm, .int .i64 v.lst] [.int .i64 a, .int .u32 (n : Int)] [.int .i64 0, .bool false, .int .i64 0, .int .i64 0, .int .i64 0, .int .i64 0] [.bool false, .int .u32 0, .int .i64 0])
  have HN := Lib.hid hn
  have key : (wrong a n srv = 0 ∧ withV v a n = x ∧ g = ⟨false, 0⟩) ∨ (wrong a n srv = 1 ∧ x = v ∧ g = ⟨true, 1⟩) ∨ (wrong a n srv = 3 ∧ x = v ∧ g = ⟨true, 3⟩) := by
    rcases apply_ways h with h | ⟨h1, h2, h3⟩
    · exact .inl h
    · rcases wrong_code a n srv with k | k | k
      · exact absurd k h1
      · exact .inr (.inl ⟨k, h2, by rw [h3]; show (⟨true, wrong a n srv⟩ : Ga) = _; rw [k]⟩)
      · exact .inr (.inr ⟨k, h2, by rw [h3]; show (⟨true, wrong a n srv⟩ : Ga) = _; rw [k]⟩)
  clear h hn
  rcases key with ⟨h1, h2, rfl⟩ | ⟨h1, rfl, rfl⟩ | ⟨h1, rfl, rfl⟩
  · have H1 := Lib.hid h1
    have H2 := Lib.hid h2
    clear h1 h2
    go_enter Try.func13, Try.ntmps13
    go_wp2_with (first
      | (go_at_call 19; (with_reducible refine (wrong_c a n srv 0 H1.out).mono ?_); rintro e w1 ⟨rfl, hb⟩
         have S5 := Lib.hid (St.next S4.out hb)
         obtain ⟨z0, z1, z2, z3, z4, z5⟩ := cells6 (St.blk0 S5.out)
         obtain ⟨y0, y1⟩ := cells2 (St.blk1 S5.out)
         clear hb)
      | (go_at_call 20; (with_reducible refine (with_c v a n HN.out x H2.out).mono ?_); rintro e w2 ⟨rfl, hb⟩
         have S6 := Lib.hid (St.next S5.out hb)
         obtain ⟨x0, x1, x2, x3, x4, x5⟩ := cells6 (St.blk2 S6.out)
         obtain ⟨u0, u1, u2⟩ := cells3 (St.blk3 S6.out)
         have f2 := (St.blk2 S6.out).frozen
         have f3 := (St.blk3 S6.out).frozen
         clear hb))
    have S7 := setVG S6.out (.int .i64 x.tab) (.bool x.push) (.int .i64 x.str) (.int .i64 x.win) (.int .i64 x.frm) (.int .i64 x.lst) (.bool false) (.int .u32 0) (.int .i64 0)
    exact bodyPost_ret (res_vg (p := 6) (q := 7) rfl rfl rfl (St.blk2 S7) (St.blk3 S7)) rfl ⟨rfl, St.below S7⟩
  all_goals
    have H1 := Lib.hid h1
    clear h1
    go_enter Try.func13, Try.ntmps13
    go_wp2_with (first
      | (go_at_call 19; (with_reducible refine (wrong_c a n srv _ H1.out).mono ?_); rintro e w1 ⟨rfl, hb⟩
         have S6 := Lib.hid (St.next S4.out hb)
         obtain ⟨z0, z1, z2, z3, z4, z5⟩ := cells6 (St.blk0 S6.out)
         obtain ⟨y0, y1⟩ := cells2 (St.blk1 S6.out)
         obtain ⟨x0, x1, x2, x3, x4, x5⟩ := cells6 (St.blk2 S6.out)
         obtain ⟨u0, u1, u2⟩ := cells3 (St.blk3 S6.out)
         have f2 := (St.blk2 S6.out).frozen
         have f3 := (St.blk3 S6.out).frozen
         clear hb))
    have S7 := fun k => setVG S6.out (.int .i64 x.tab) (.bool x.push) (.int .i64 x.str) (.int .i64 x.win) (.int .i64 x.frm) (.int .i64 x.lst) (.bool true) (.int .u32 k) (.int .i64 0)
    exact bodyPost_ret (res_vg (p := 6) (q := 7) rfl rfl rfl (St.blk2 (S7 _)) (St.blk3 (S7 _))) rfl ⟨rfl, St.below (S7 _)⟩
end
end Go.Proofs.Ythdikinpociiaaa
