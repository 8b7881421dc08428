/- Several texts in one: FJ, FX, Fw, Fx, LwA. -/
import Derived.Test.YtokbdkbljgdcpaaDoorY45
import Derived.Test.YtokbdkbljgdcpaaDoorY40
import Derived.Deep.RegionLaw
import Derived.Test.YtokbdkbljgdcpaaDoorY1
/- Next: a fault of the connection. -/
namespace Go.Proofs.YtokbdkbljgdcpaaDoor
open Go.RowKit Go.Own Go.Frm
set_option linter.unusedVariables false
set_option maxRecDepth 100000
section
variable {w : World}
set_option maxHeartbeats 4000000 in
theorem next_break {p m : Nat} {st : Pst} {F : Nat → Prop} (hG : Gl w) (h : PFo p m st w F) (g1 : ¬ F 1) (g2 : ¬ F 0) (hs : 9 ≤ st.held.length) (hm : ¬ m < hdN st.held) (hsz : ¬ st.held.length < 9 + hdN st.held) (f : Fm) (cc : Nat) (hpar : parseP (hdK st.held) (hdF st.held) (hdS st.held) ((st.held.drop 9).take (hdN st.held)) = (f, ⟨true, cc, 0⟩)) : Calls Tryd.prog 21 #[.pointer (some ⟨p, 0, none⟩)] w (NextP p m (⟨f, ⟨true, cc, 0⟩, true⟩, ⟨[], true⟩) F w) := by
  obtain ⟨v, G, h1, h2, h3, h4, h5, h6, rfl⟩ := h
  obtain ⟨A, c, rfl, hrd, h7, h8, hAG⟩ := h2.rd
  have hAl : ∀ a, A = some a → a.block < w.heap.size := fun a ha => h2.lt (hAG a ha)
  obtain ⟨xs, hxs⟩ : ∃ xs, st.held = xs := ⟨_, rfl⟩
  rw [hxs] at h1 h2 h4 h7 hrd hs hm hsz hpar
  obtain ⟨n, hn⟩ : ∃ n, xs.length = n := ⟨_, rfl⟩
  rw [hn] at h1 h7 hrd hs hsz h4
  obtain ⟨hd, hhd⟩ : ∃ hd, hdN xs = hd := ⟨_, rfl⟩
  rw [hhd] at hm hsz hpar
  rw [hn] at h2
  have H2 := Lib.hid h2
  have Hrd := Lib.hid hrd
  have HG := Lib.hid hG
  have Hpar := Lib.hid hpar
  have Hg1 : Hid (¬ 1 = p) := fun e => g1 (.inl e)
  have Hg2 : Hid (¬ 0 = p) := fun e => g2 (.inl e)
  have HAl := Lib.hid hAl
  have hnl := hn
  have HGp : Hid (¬ G p) := by
    rcases h2 with ⟨_, _, rfl⟩ | ⟨g, o, c, cur, _, _, _, _, _, _, _, hgp, rfl⟩
    · exact fun h => h
    · exact fun h => hgp h.symm
  have z0 := h1.cell 0
  have z1 := h1.cell 1
  simp only [List.getElem?_cons_zero, List.getElem?_cons_succ] at z0 z1
  have hl := h1.lt
  have B2 : Below w.heap.size w ((w.alloc (.cells #[.int .i64 0, .int .i64 0, .bool false, .bool false, .bool false, .bool false, .slice none 0 0, .int .i64 0, .int .i64 0, .int .i64 0, .bool false, .int .i64 0, .int .u32 0, .slice none 0 0, .int .i64 0, .int .i64 0] 27)).alloc (.cells #[.bool false, .int .u32 0, .int .i64 0] 46)) := ((Below.refl _ w).alloc (Nat.le_refl _) _).alloc (by simp) _
  have C := (headOf_c (hrd.below B2) h7 h8 hs (fun a ha => by have := hAl a ha; simp; omega) (hG.below B2))
  rw [hhd] at C
  have HC := Lib.hid C
  have HB2 := Lib.hid B2
  have Y1 := Lib.hid (blk_new1 w (.cells #[.bool false, .int .u32 0, .int .i64 0] 46) 27 zero16)
  have Y2 := Lib.hid (blk_new2 w (.cells #[.int .i64 0, .int .i64 0, .bool false, .bool false, .bool false, .bool false, .slice none 0 0, .int .i64 0, .int .i64 0, .int .i64 0, .bool false, .int .i64 0, .int .u32 0, .slice none 0 0, .int .i64 0, .int .i64 0] 27) 46 [.bool false, .int .u32 0, .int .i64 0])
  have H1 := Lib.hid h1
  have H7c := Lib.hid h7
  have H8c := Lib.hid h8
  have Hst0 : st.done = false := by
    cases hdn : st.done with
    | false => rfl
    | true =>
      have h0 := h3 hdn
      rw [hxs] at h0
      rw [h0] at hnl
      simp at hnl
      omega
  have HAG := Lib.hid hAG
  have Hn9 := Lib.hid hs
  have Hhd := Lib.hid hhd
  have t1 : ¬ ((n : Int) < 9) := by omega
  have t2 : ¬ (m < hd) := hm
  have wn : IntKind.i64.wrap (9 + (hd : Int)) = ((9 + hd : Nat) : Int) := by rw [IntKind.wrap_i64]; omega
  have t3 : ¬ (n < 9 + hd) := hsz
  have s1 : (9 : Int) ≤ ((9 + hd : Nat) : Int) := by omega
  have s2 : ((9 + hd : Nat) : Int) ≤ (c : Int) := by omega
  have s3 : 9 + hd ≤ c := by omega
  have s4 : 9 + hd ≤ n := by omega
  have e9 : 9 + hd - 9 = hd := by omega
  obtain ⟨Ah, hif⟩ : ∃ Ah, (if c = 9 + hd then A else Option.map (fun x => x.add (9 + hd)) A) = Ah := ⟨_, rfl⟩
  clear h1 h2 h3 h7 h8 hAG hrd C B2 hxs hhd hs hm hG hpar g1 g2
  go_enter Tryd.func21, Tryd.ntmps21
  go_wp2_with (first
    | (go_at_call 38; (with_reducible refine (HC.out).mono ?_); rintro e w1 ⟨rfl, hb⟩
       have HB1 := Lib.hid (HB2.out.trans (hb.mono (by simp; omega)))
       have X1 := Lib.hid (blk_below Y1.out hb)
       have X2 := Lib.hid (blk_below Y2.out hb)
       have P1 := Lib.hid (blk_below ((H1.out.alloc _).alloc _) hb)
       have z0 := P1.out.cell 0
       have z1 := P1.out.cell 1
       simp only [List.getElem?_cons_zero, List.getElem?_cons_succ] at z0 z1
       have L0 := P1.out.lt
       have L1 := X1.out.lt
       have L2 := X2.out.lt
       obtain ⟨r0, r1, r2, r3, r4, r5, r6, r7, r8, r9, r10, r11, r12, r13, r14, r15⟩ := cells16 X1.out
       have u0 : w1.cell? ⟨w.heap.size + 1, 0, none⟩ = some (.bool false) := X2.out.cell 0
       have u1 : w1.cell? ⟨w.heap.size + 1, 1, none⟩ = some (.int .u32 0) := X2.out.cell 1
       have u2 : w1.cell? ⟨w.heap.size + 1, 2, none⟩ = some (.int .i64 0) := X2.out.cell 2
       have f1 := X1.out.frozen
       have f2 : ∀ i, w1.frozen? ⟨w.heap.size + 1, i, none⟩ = false := X2.out.frozen
       clear hb))
  go_quiet (fail)
  have HP4 : Hid (Blk ((w1.alloc (.cells #[.int .i64 (hd : Int), .int .i64 (hdK xs : Int), .int .i64 (hdF xs : Int), .int .i64 (hdS xs : Int), .int .i64 (hpN (hdK xs) (hdF xs) : Int)] 85)).drewN nq) p 82 [.slice A n c, .int .i64 (m : Int), .bool st.done]) := P1.out.alloc _
  have HX4 : Hid (Blk ((w1.alloc (.cells #[.int .i64 (hd : Int), .int .i64 (hdK xs : Int), .int .i64 (hdF xs : Int), .int .i64 (hdS xs : Int), .int .i64 (hpN (hdK xs) (hdF xs) : Int)] 85)).drewN nq) w.heap.size 27 zero16) := X1.out.alloc _
  have HY4 : Hid (Blk ((w1.alloc (.cells #[.int .i64 (hd : Int), .int .i64 (hdK xs : Int), .int .i64 (hdF xs : Int), .int .i64 (hdS xs : Int), .int .i64 (hpN (hdK xs) (hdF xs) : Int)] 85)).drewN nq) (w.heap.size + 1) 46 [.bool false, .int .u32 0, .int .i64 0]) := X2.out.alloc _
  have HZ4 : Hid (Blk ((w1.alloc (.cells #[.int .i64 (hd : Int), .int .i64 (hdK xs : Int), .int .i64 (hdF xs : Int), .int .i64 (hdS xs : Int), .int .i64 (hpN (hdK xs) (hdF xs) : Int)] 85)).drewN nq) w1.heap.size 85 [.int .i64 (hd : Int), .int .i64 (hdK xs : Int), .int .i64 (hdF xs : Int), .int .i64 (hdS xs : Int), .int .i64 (hpN (hdK xs) (hdF xs) : Int)]) := Blk.new w1 _ _
  have HB4 : Hid (Below w.heap.size w ((w1.alloc (.cells #[.int .i64 (hd : Int), .int .i64 (hdK xs : Int), .int .i64 (hdF xs : Int), .int .i64 (hdS xs : Int), .int .i64 (hpN (hdK xs) (hdF xs) : Int)] 85)).drewN nq)) := below_drewN (HB1.out.alloc HB1.out.size _) nq
  clear r0 r1 r2 r3 r4 r5 r6 r7 r8 r9 r10 r11 r12 r13 r14 r15 u0 u1 u2 f1 f2 z0 z1
  generalize (w1.alloc (.cells #[.int .i64 (hd : Int), .int .i64 (hdK xs : Int), .int .i64 (hdF xs : Int), .int .i64 (hdS xs : Int), .int .i64 (hpN (hdK xs) (hdF xs) : Int)] 85)).drewN nq = w4 at HP4 HX4 HY4 HZ4 HB4 ⊢
  have z0 := HP4.out.cell 0
  have z1 := HP4.out.cell 1
  have h0 := HZ4.out.cell 0
  have h1 := HZ4.out.cell 1
  have h2 := HZ4.out.cell 2
  have h3 := HZ4.out.cell 3
  have h4 := HZ4.out.cell 4
  have zf := HP4.out.frozen
  simp only [List.getElem?_cons_zero, List.getElem?_cons_succ] at z0 z1 h0 h1 h2 h3 h4
  have L4 := HZ4.out.lt
  have hSl : Hid (Below w.heap.size w w4) := HB4
  have HH4 : Hid (Hel w4 p (.slice A n c) G xs) := by
    refine Hel.fr (S := fun _ => False) H2.out (Fr.of_below HB4.out (fun i a b => by omega)) (fun _ _ h => h)
  have HF5 : Hid (Fr (· = p) w4 (w4.setCell ⟨p, 0, none⟩ (.slice Ah (n - (9 + hd)) (c - (9 + hd))))) := Fr.setCell (S := (· = p)) (Fr.refl _ _) (p := ⟨p, 0, none⟩) (.inl rfl) _
  have HH5 : Hid (Hel (w4.setCell ⟨p, 0, none⟩ (.slice Ah (n - (9 + hd)) (c - (9 + hd)))) p (.slice Ah (n - (9 + hd)) (c - (9 + hd))) G (xs.drop (9 + hd))) := by
    have h := (Hel.drop HH4.out (9 + hd) s4).fr HF5.out (fun i hi e => HGp.out (by have e' : i = p := e; rw [← e']; exact hi))
    rw [hif] at h
    exact h
  have hap : ∀ a, A = some a → a.block < w.heap.size ∧ ¬ a.block = p := fun a ha => ⟨HAl.out a ha, fun e => HGp.out (by rw [← e]; exact HAG.out a ha)⟩
  have hnc' : n ≤ c := H7c.out
  have hcb' : c ≤ 9223372036854775807 := H8c.out
  have HC5 : Hid (Calls Tryd.prog 41 #[hdV hd (hdK xs) (hdF xs) (hdS xs), .slice (if c = 9 then A else Option.map (fun x => x.add 9) A) hd (c - 9)] (w4.setCell ⟨p, 0, none⟩ (.slice Ah (n - (9 + hd)) (c - (9 + hd)))) (FraP (w4.setCell ⟨p, 0, none⟩ (.slice Ah (n - (9 + hd)) (c - (9 + hd)))) (f, ⟨true, cc, 0⟩))) := by
    have hr4 : Rd w4 1 A n (xs.map BV) := Hrd.out.below HB4.out
    have hr5 := (hr4.fr HF5.out (fun a ha => (hap a ha).2)).drop (k := 9) (cap := c) (by omega) (by omega)
    have hr6 := hr5.take (k := hd) (by omega)
    simp only [Nat.mul_one, ← List.map_drop, ← List.map_take] at hr6
    have hln : ((xs.drop 9).take hd).length = hd := by rw [List.length_take, List.length_drop]; omega
    have h := frame_c (k := hdK xs) (fl := hdF xs) (s := hdS xs) (c := c - 9) ((HG.out.below HB4.out).fr HF5.out Hg1.out Hg2.out) hr6 (by omega) (by omega) ?_ (by omega) hln
    · rw [Hpar.out] at h
      exact h
    · intro a ha
      have hsz5 := HF5.out.size
      have hsz4 := HB4.out.size
      split at ha
      · exact Nat.lt_of_lt_of_le (hap a ha).1 (by omega)
      · cases hA0 : A with
        | none => rw [hA0] at ha; cases ha
        | some a0 =>
          rw [hA0] at ha
          injection ha with ha
          have hb0 := (hap a0 hA0).1
          have eb : a.block = a0.block := by rw [← ha]; unfold Addr.add; split <;> rfl
          rw [eb]
          exact Nat.lt_of_lt_of_le hb0 (by omega)
  have HP5 : Hid (Blk (w4.setCell ⟨p, 0, none⟩ (.slice Ah (n - (9 + hd)) (c - (9 + hd)))) p 82 [.slice Ah (n - (9 + hd)) (c - (9 + hd)), .int .i64 (m : Int), .bool st.done]) := HP4.out.set_ 0 _
  have HX5 := Lib.hid (HX4.out.fr HF5.out (fun e => by have e' : w.heap.size = p := e; omega))
  have HY5 := Lib.hid (HY4.out.fr HF5.out (fun e => by have e' : w.heap.size + 1 = p := e; omega))
  have HFw5 : Hid (Fr (· = p) w (w4.setCell ⟨p, 0, none⟩ (.slice Ah (n - (9 + hd)) (c - (9 + hd))))) := Fr.trans (Fr.of_below (S := (· = p)) HB4.out (fun i h1 h2 => by omega)) HF5.out (fun _ _ h => h)
  have L5 := HY5.out.lt
  have Lp := HP5.out.lt
  go_wp2_with (first
    | (go_at_call 41; refine (HC5.out).mono ?_; rintro e w6 ⟨_, _, rfl, ⟨A6, c6, D6, d6, rfl, rfl, o61, o62⟩, hb⟩
       have O6 : Hid (FrOwn w6 _ f (.slice A6 f.pay.length c6) (.slice D6 f.list.length d6)) := ⟨A6, c6, D6, d6, rfl, rfl, o61, o62⟩
       have X6 := Lib.hid (blk_below HX5.out hb)
       have Y6 := Lib.hid (blk_below HY5.out hb)
       have P6 := Lib.hid (blk_below HP5.out hb)
       have H6 := Lib.hid (HH5.out.fr (S := fun _ => False) (Fr.of_below hb (fun i a b => by omega)) (fun _ _ h => h))
       have HF6 := Lib.hid (Fr.trans HFw5.out (Fr.of_below (S := (· = p)) hb (fun i h1 h2 => absurd h1 (Nat.not_lt.2 h2))) (fun _ _ h => h))
       clear hb o61 o62)
    | (go_at_call 39; (with_reducible refine (told_break f A6 D6 f.pay.length c6 f.list.length d6 cc P6.out).mono ?_); rintro e w7 ⟨rfl, hp7, f7⟩
       have O7 := Lib.hid (O6.out.fr f7 (fun i hi e => by have e' : i = p := e; omega))
       have X7 := Lib.hid (X6.out.fr f7 (fun e => by have e' : w.heap.size = p := e; omega))
       have Y7 := Lib.hid (Y6.out.fr f7 (fun e => by have e' : w.heap.size + 1 = p := e; omega))
       have P7 := Lib.hid hp7
       have HF7 := Lib.hid (Fr.trans HF6.out f7 (fun _ _ h => h))
       obtain ⟨r0, r1, r2, r3, r4, r5, r6, r7, r8, r9, r10, r11, r12, r13, r14, r15⟩ := cells16 X7.out
       have u0 : w7.cell? ⟨w.heap.size + 1, 0, none⟩ = some (.bool false) := Y7.out.cell 0
       have u1 : w7.cell? ⟨w.heap.size + 1, 1, none⟩ = some (.int .u32 0) := Y7.out.cell 1
       have u2 : w7.cell? ⟨w.heap.size + 1, 2, none⟩ = some (.int .i64 0) := Y7.out.cell 2
       have f1 := X7.out.frozen
       have f2 : ∀ i, w7.frozen? ⟨w.heap.size + 1, i, none⟩ = false := Y7.out.frozen
       clear hp7 f7))
  all_goals
    have Hst := Lib.hid Hst0
    obtain ⟨S1, S2⟩ := store16 X7.out (.int .i64 f.kind) (.int .i64 f.stream) (.bool f.fin) (.bool f.eh) (.bool f.ack) (.bool f.prio) (.slice A6 f.pay.length c6) (.int .i64 f.flags) (.int .i64 f.pad) (.int .i64 f.depend) (.bool f.excl) (.int .i64 f.weight) (.int .u32 (f.code : Int)) (.slice D6 f.list.length d6) (.int .i64 f.last) (.int .i64 f.inc)
    obtain ⟨S3, S4⟩ := store3 (Y7.out.fr S2 (fun e => by omega)) (.bool true) (.int .u32 (cc : Int)) (.int .i64 0)
    have n1 : ¬ p = w.heap.size := by omega
    have n2 : ¬ p = w.heap.size + 1 := by omega
    have O8 : FrOwn _ w.heap.size f (.slice A6 f.pay.length c6) (.slice D6 f.list.length d6) := FrOwn.lower ((O7.out.fr S2 (fun i hi e => by omega)).fr S4 (fun i hi e => by omega)) (by omega)
    have hP : PFo p m ⟨[], true⟩ _ (fun i => i = p ∨ False) := ⟨.slice none 0 0, fun _ => False, (P7.out.fr S2 n1).fr S4 n2, .inl ⟨rfl, rfl, rfl⟩, fun _ => rfl, by simp, h5, h6, rfl⟩
    refine bodyPost_ret (res_ffb (p := 2) (q := 3) (r := 4) rfl rfl rfl rfl rfl (S1.fr S4 (fun e => by omega)) S3) rfl ⟨_, _, _, rfl, O8, hP, fun i hi => .inl (hi.elim id False.elim), ?_⟩
    exact ((HF7.out.trans S2 (fun i hi e => by omega)).trans S4 (fun i hi e => by omega)).mono (fun i _ e => .inl e)
end
end Go.Proofs.YtokbdkbljgdcpaaDoor

/- Next, whole. -/
namespace Go.Proofs.YtokbdkbljgdcpaaDoor
open Go.RowKit Go.Own Go.Frm
set_option linter.unusedVariables false
set_option maxRecDepth 100000
section
variable {w : World}
theorem nextP_none {p m : Nat} {st : Pst} {F : Nat → Prop} (h : PFo p m st w F) {e : Ending} {w' : World} (he : e = .returned (.tuple #[frV zeroF (.slice none 0 0) (.slice none 0 0), ftV noF, .bool false])) (hb : Below w.heap.size w w') : NextP p m (none_, st) F w e w' := by
  have hf : Fr (fun _ => False) w w' := Fr.of_below hb (fun i h1 h2 => absurd h1 (Nat.not_lt.2 h2))
  exact ⟨_, _, F, he, frOwn_none _ _ _ rfl rfl, (framed_PFo p m st).2 w w' F _ h hf (fun i _ h => h), fun i hi => hi, hf.mono (fun i _ h => h.elim)⟩
/-- Next answers as the document says -/
theorem next_c {p m : Nat} {st : Pst} {F : Nat → Prop} (hG : Gl w) (h : PFo p m st w F) (g1 : ¬ F 1) (g2 : ¬ F 0) : Calls Tryd.prog 21 #[.pointer (some ⟨p, 0, none⟩)] w (NextP p m (nextP m st) F w) := by
  by_cases hs : st.held.length < 9
  · have e : nextP m st = (none_, st) := by unfold nextP; rw [decide_eq_true hs, Bool.or_true]; rfl
    rw [e]
    refine (next_short h hs).mono ?_
    rintro e w' ⟨he, hb⟩
    exact nextP_none h he hb
  · have hd : st.done = false := by
      obtain ⟨v, G, h1, h2, h3, h4, h5, h6, hF⟩ := h
      cases hdn : st.done with
      | false => rfl
      | true => rw [h3 hdn] at hs; simp at hs
    have hs' : 9 ≤ st.held.length := by omega
    by_cases hm : m < hdN st.held
    · have e : nextP m st = (⟨zeroF, conF 6, true⟩, ⟨[], true⟩) := by
        unfold nextP; rw [hd, decide_eq_false hs, decide_eq_true hm]; rfl
      rw [e]
      refine (next_long hG h hs' hm).mono ?_
      rintro e w' ⟨he, hb, hf⟩
      obtain ⟨v, G, h1, h2, h3, h4, h5, h6, rfl⟩ := h
      exact ⟨_, _, fun i => i = p ∨ False, he, frOwn_none _ _ _ rfl rfl, ⟨.slice none 0 0, fun _ => False, hb, .inl ⟨rfl, rfl, rfl⟩, fun _ => rfl, by simp, h5, h6, rfl⟩, fun i hi => .inl (hi.elim id False.elim), hf.mono (fun i _ e => .inl e)⟩
    · by_cases hsz : st.held.length < 9 + hdN st.held
      · have e : nextP m st = (none_, st) := by
          unfold nextP; rw [hd, decide_eq_false hs, decide_eq_false hm, decide_eq_true hsz]; rfl
        rw [e]
        refine (next_part hG h hs' hm hsz).mono ?_
        rintro e w' ⟨he, hb⟩
        exact nextP_none h he hb
      · obtain ⟨f, ⟨b, cc, z⟩, hp⟩ : ∃ f x, parseP (hdK st.held) (hdF st.held) (hdS st.held) ((st.held.drop 9).take (hdN st.held)) = (f, x) := ⟨_, _, rfl⟩
        have e : nextP m st = Go.Frm.settle (f, ⟨b, cc, z⟩) (st.held.drop (9 + hdN st.held)) := by
          unfold nextP; rw [hd, decide_eq_false hs, decide_eq_false hm, decide_eq_false hsz, hp]; rfl
        rw [e]
        cases hbz : (b && z == 0) with
        | false =>
          have e2 : Go.Frm.settle (f, ⟨b, cc, z⟩) (st.held.drop (9 + hdN st.held)) = (⟨f, ⟨b, cc, z⟩, true⟩, ⟨st.held.drop (9 + hdN st.held), false⟩) := by
            show (_, bif (b && z == 0) then _ else _) = _; rw [hbz]; rfl
          rw [e2]
          refine next_keep hG h g1 g2 hs' hm hsz f b cc z hp ?_
          cases b with
          | false => exact .inl rfl
          | true => exact .inr ⟨rfl, by simpa using hbz⟩
        | true =>
          have e2 : Go.Frm.settle (f, ⟨b, cc, z⟩) (st.held.drop (9 + hdN st.held)) = (⟨f, ⟨b, cc, z⟩, true⟩, ⟨[], true⟩) := by
            show (_, bif (b && z == 0) then _ else _) = _; rw [hbz]; rfl
          rw [e2]
          simp only [Bool.and_eq_true, beq_iff_eq] at hbz
          obtain ⟨rfl, rfl⟩ := hbz
          exact next_break hG h g1 g2 hs' hm hsz f cc hp
end
end Go.Proofs.YtokbdkbljgdcpaaDoor

/- append onto what a parser holds: a slice of the call's own that begins anywhere in its block. -/
namespace Go.Proofs.YtokbdkbljgdcpaaDoor
open Go.RowKit Go.Own Go.Frm
set_option linter.unusedVariables false
set_option maxRecDepth 100000

theorem splice_set (cur : List Value) (o : Nat) (v : Value) (vs : List Value) (h : o < cur.length) : splice (cur.set o v) (o + 1) vs = splice cur o (v :: vs) := by
  unfold splice
  have e1 : (cur.set o v).take (o + 1) = cur.take o ++ [v] := by
    rw [List.take_add_one, List.getElem?_set_self (by omega), List.take_set_of_le (Nat.le_refl _)]
    rfl
  rw [e1, List.drop_set_of_lt (by omega), List.length_cons, List.append_assoc, List.cons_append, List.nil_append, show o + 1 + vs.length = o + (vs.length + 1) by omega]
  rfl
theorem blk_setCells {g : Nat} {t : TypeId} : ∀ (vs : List Value) (o : Nat) (w : World) (cur : List Value), Blk w g t cur → o + vs.length ≤ cur.length → Blk (w.setCells g o vs) g t (splice cur o vs)
  | [], o, w, cur, h, hl => by simpa [World.setCells, splice] using h
  | v :: r, o, w, cur, h, hl => by
    simp only [List.length_cons] at hl
    have h1 := blk_setCells r (o + 1) (w.setCell ⟨g, o, none⟩ v) (cur.set o v) (h.set_ o v) (by rw [List.length_set]; omega)
    rw [splice_set _ _ _ _ (by omega)] at h1
    exact h1
theorem fr_setCells {g : Nat} : ∀ (vs : List Value) (o : Nat) (w : World), Fr (· = g) w (w.setCells g o vs)
  | [], o, w => Fr.refl _ _
  | v :: r, o, w => (Fr.setCell (S := (· = g)) (Fr.refl _ _) (p := ⟨g, o, none⟩) (.inl rfl) v).trans (fr_setCells r (o + 1) _) (fun _ _ h => h)
theorem splice_tail (cur : List Value) (o : Nat) (xs ys : List Value) (h : (cur.drop o).take xs.length = xs) (hl : o + xs.length + ys.length ≤ cur.length) : ((splice cur (o + xs.length) ys).drop o).take (xs.length + ys.length) = xs ++ ys := by
  have e : cur.take (o + xs.length) = cur.take o ++ xs := by rw [List.take_add, h]
  have ho : (cur.take o).length = o := by rw [List.length_take]; omega
  unfold splice
  rw [e, List.append_assoc, List.drop_append_of_le_length (by omega), List.drop_of_length_le (by omega), List.nil_append, ← List.append_assoc, List.take_append_of_le_length (by simp), List.take_of_length_le (by simp)]
theorem src_rd {w : World} {A : Option Addr} {m c : Nat} {ys : List UInt8} (hr : Rd w 1 A m (ys.map BV)) : Src Tryd.prog 1 22 (.slice A m c) m (ys.map BV) w := by
  rcases A with _ | a
  · have hm : m = 0 := by
      rcases Nat.eq_zero_or_pos m with h0 | h0
      · exact h0
      · obtain ⟨b, o, h, _⟩ := hr.2 h0; cases h
    subst hm
    have hn : ys.map BV = [] := List.eq_nil_of_length_eq_zero (by simpa using hr.1)
    rw [hn]
    exact Src.ofNil w Tryd.underlying22 c
  · refine Src.ofSlice w Tryd.underlying22 a m c _ (by simpa using hr.1) (fun j u hu => ?_) (BV_one _)
    have hj : j < m := by have := (List.getElem?_eq_some_iff.1 hu).1; have := hr.1; omega
    obtain ⟨b, o, h, hc⟩ := hr.2 (by omega)
    cases h
    rw [add_plain]
    exact hc j u hu
/-- append of octets behind what is held -/
theorem run_append_hel {w : World} {p : Nat} {v : Value} {G : Nat → Prop} {xs : List UInt8} (h : Hel w p v G xs) (hp : p < w.heap.size) {A : Option Addr} {m c : Nat} {ys : List UInt8} (hr : Rd w 1 A m (ys.map BV)) (hb : xs.length + m ≤ 1073741824) {ty : TypeId} :
    ∃ A' c' w' G', (Builtin.append_ #[22, 22] ty #[v, .slice A m c]).run Tryd.prog w = .ok (.slice A' (xs.length + m) c') w' ∧ Hel w' p (.slice A' (xs.length + m) c') G' (xs ++ ys) ∧ Fr G w w' ∧ (∀ i, G' i → G i ∨ w.heap.size ≤ i) := by
  have hys : ys.length = m := by simpa using hr.1
  obtain ⟨i0, hi, hz0, hz1, hz2⟩ := info_parts infoB'
  have hs := src_rd (c := c) hr
  rw [← hz1] at hs
  obtain ⟨A0, c0, rfl, hrd, hle, hcm, _⟩ := h.rd
  by_cases hroom : xs.length + m ≤ c0
  · rcases h with ⟨hv, rfl, rfl⟩ | ⟨g, o, c1, cur, hv, h2, h3, h4, h5, h6, h7, h8, rfl⟩
    · -- nothing is there, and nothing comes
      simp only [Value.slice.injEq] at hv
      obtain ⟨rfl, _, rfl⟩ := hv
      obtain rfl : m = 0 := by simp at hroom; omega
      obtain rfl : ys = [] := List.eq_nil_of_length_eq_zero hys
      refine ⟨none, 0, w, fun _ => False, ?_, .inl ⟨by simp, by simp, rfl⟩, Fr.refl _ _, fun _ h => h.elim⟩
      rcases A with _ | a
      · simp [Builtin.append_, run_underlying Tryd.underlying22, sizeOf, typeInfo, hi, Builtin.lenOf, Builtin.firstCells]
      · simp [Builtin.append_, run_underlying Tryd.underlying22, sizeOf, typeInfo, hi, Builtin.lenOf, Builtin.firstCells, loadCells, loadCellsFrom]
    · simp only [Value.slice.injEq] at hv
      obtain ⟨rfl, _, rfl⟩ := hv
      have hcl : (ys.map BV).length = m := by simpa using hys
      have hfit : o + xs.length + m ≤ cur.length := by omega
      have hrun := run_append_room_src (P := Tryd.prog) w 22 22 ty 5 i0 Tryd.underlying22 hi g o xs.length c0 (.slice A m c) m (ys.map BV) hs hroom
        (fun j hj => by rw [h2.cell, List.getElem?_eq_getElem (by rw [hz1]; omega)]; rfl) (fun j hj => h2.frozen _)
      rw [hz1, Nat.mul_one] at hrun
      refine ⟨some ⟨g, o, none⟩, c0, _, fun i => i = g, hrun, .inr ⟨g, o, c0, splice cur (o + xs.length) (ys.map BV), ?_, blk_setCells _ _ _ _ h2 (by rw [hcl]; omega), ?_, ?_, h5, ?_, ?_, h8, rfl⟩, fr_setCells _ _ _, fun i hi => .inl hi⟩
      · rw [List.length_append, hys]
      · rw [List.length_append, hys]; exact hroom
      · rw [length_splice _ _ _ (by rw [hcl]; omega)]; exact h4
      · have ht := splice_tail cur o (xs.map BV) (ys.map BV) (by rw [List.length_map]; exact h6) (by rw [List.length_map, List.length_map]; omega)
        rw [List.length_map, List.length_map] at ht
        rw [List.length_append, List.map_append]
        exact ht
      · intro u hu
        unfold splice at hu
        rcases List.mem_append.1 hu with hu | hu
        · exact h7 u (List.mem_of_mem_take hu)
        · rcases List.mem_append.1 hu with hu | hu
          · exact BV_one _ u hu
          · exact h7 u (List.mem_of_mem_drop hu)
  · have hs0 := src_rd (c := c0) hrd
    have hgc := grownCap_ge w (xs.length + m) c0 5
    have hgm := grownCap_le_maxLen w (xs.length + m) c0 5 (by unfold maxLen; omega)
    have hnx := nextslicecap_le (need := xs.length + m) (old := c0) (by omega)
    have hrun := run_append_grow_src (P := Tryd.prog) w 22 22 ty 5 i0 (.int .u8 0) Tryd.underlying22 hi hz0 A0 xs.length c0 (xs.map BV) (by rw [hz1]; exact hs0.cellsD) (.slice A m c) m (ys.map BV) hs (by omega) (by omega) (by rw [hz2]; omega)
    have hone : ∀ k, ∀ u ∈ (Builtin.zeroCells (Value.int .u8 0).cells k).toList, u.oneCell' = true := by
      intro k u hu
      simp only [Builtin.zeroCells, Array.toList_map, List.mem_map] at hu
      obtain ⟨j, _, rfl⟩ := hu
      have : j % (Value.int IntKind.u8 0).cells.size = 0 := by
        rw [show (Value.int IntKind.u8 0).cells.size = 1 from rfl]
        exact Nat.mod_one j
      rw [this]
      rfl
    have hzl : ∀ k, (Builtin.zeroCells (Value.int .u8 0).cells k).toList.length = k := by
      intro k
      rw [Array.length_toList, size_zeroCells]
      exact Nat.mul_one k
    refine ⟨some ⟨w.heap.size, 0, none⟩, _, _, fun i => i = w.heap.size, hrun, .inr ⟨w.heap.size, 0, _, xs.map BV ++ ys.map BV ++ (Builtin.zeroCells (Value.int .u8 0).cells (grownCap w (xs.length + m) c0 5 - (xs.length + m))).toList, ?_, ?_, ?_, ?_, hgm, ?_, ?_, ?_, rfl⟩, ?_, fun i hi => .inr (by rw [hi]; exact Nat.le_refl _)⟩
    · rw [List.length_append, hys]
    · show Blk _ _ _ _
      have hn := Blk.new w.drew 5 (xs.map BV ++ ys.map BV ++ (Builtin.zeroCells (Value.int .u8 0).cells (grownCap w (xs.length + m) c0 5 - (xs.length + m))).toList)
      have e : (xs.map BV ++ ys.map BV ++ (Builtin.zeroCells (Value.int .u8 0).cells (grownCap w (xs.length + m) c0 5 - (xs.length + m))).toList).toArray = (xs.map BV ++ ys.map BV).toArray ++ Builtin.zeroCells (Value.int .u8 0).cells (grownCap w (xs.length + m) c0 5 - (xs.length + m)) := by
        apply Array.ext'
        simp
      rw [e] at hn
      exact hn
    · rw [List.length_append, hys]; exact hgc
    · rw [List.length_append, List.length_append, List.length_map, List.length_map, hzl, hys]; omega
    · rw [List.drop_zero, List.take_append_of_le_length (by simp), List.take_of_length_le (by simp), List.map_append]
    · intro u hu
      rcases List.mem_append.1 hu with hu | hu
      · rcases List.mem_append.1 hu with hu | hu
        · exact BV_one _ u hu
        · exact BV_one _ u hu
      · exact hone _ u hu
    · omega
    · exact ((Fr.refl _ w).drew).alloc _
end Go.Proofs.YtokbdkbljgdcpaaDoor

/- Feed. -/
namespace Go.Proofs.YtokbdkbljgdcpaaDoor
open Go.RowKit Go.Own Go.Frm
set_option linter.unusedVariables false
set_option maxRecDepth 100000

theorem wp_append_hel {w : World} {o : Oper} {a : Act} {K : Act → World → Prop} {Q : Exit → Act → World → Prop} (s x : Operand)
    (ho : o.op = .call { callee := .builtin .append, args := #[s, x], argTypes := #[22, 22] }) {p : Nat} (v : Value) {G : Nat → Prop} (xs : List UInt8) (hs : a.eval s = v) (h : Hel w p v G xs) (hp : p < w.heap.size)
    (A : Option Addr) (m c : Nat) (ys : List UInt8) (hx : a.eval x = .slice A m c) (hr : Rd w 1 A m (ys.map BV)) (hb : xs.length + m ≤ 1073741824)
    (hk : ∀ A' c' w' G', Hel w' p (.slice A' (xs.length + m) c') G' (xs ++ ys) → Fr G w w' → (∀ i, G' i → G i ∨ w.heap.size ≤ i) → K (a.put o.dst (.slice A' (xs.length + m) c')) w') : o.wp Tryd.prog a w K Q := by
  obtain ⟨A', c', w', G', hrun, h2, h3, h4⟩ := run_append_hel (ty := o.type) (c := c) h hp hr hb
  unfold Oper.wp execOp
  simp only [ho, resolve, invoke, builtin, Sem.run_bind, Sem.run_pure, Result.andThen_ok, List.map_toArray, List.map_cons, List.map_nil, hs, hx, hrun]
  exact hk A' c' w' G' h2 h3 h4
theorem step_append_hel {w : World} {ops : Array Oper} {o : Oper} {a : Act} {K : Act → World → Prop} {Q : Exit → Act → World → Prop} {E' : Prop} (hgd : o.guard = none) (s x : Operand)
    (ho : o.op = .call { callee := .builtin .append, args := #[s, x], argTypes := #[22, 22] }) {p : Nat} (v : Value) {G : Nat → Prop} (xs : List UInt8) (hs : a.eval s = v) (h : Hel w p v G xs) (hp : p < w.heap.size)
    (A : Option Addr) (m c : Nat) (ys : List UInt8) (hx : a.eval x = .slice A m c) (hr : Rd w 1 A m (ys.map BV)) (hb : xs.length + m ≤ 1073741824)
    (hk : ∀ A' c' w' G', Hel w' p (.slice A' (xs.length + m) c') G' (xs ++ ys) → Fr G w w' → (∀ i, G' i → G i ∨ w.heap.size ≤ i) → K (a.put o.dst (.slice A' (xs.length + m) c')) w') :
    if Region.wanted o (yielded ops a.tmps) = true then Oper.wp Tryd.prog o a w K Q else E' := by
  have hw : Region.wanted o (yielded ops a.tmps) = true := by simp [Region.wanted, hgd]
  rw [if_pos hw]
  exact wp_append_hel s x ho v xs hs h hp A m c ys hx hr hb hk
section
variable {w : World}
set_option maxHeartbeats 1000000 in
theorem feed_done {p m : Nat} {st : Pst} {F : Nat → Prop} (h : PFo p m st w F) (hd : st.done = true) (x : Value) : Calls Tryd.prog 23 #[.pointer (some ⟨p, 0, none⟩), x] w fun e w' => e = .returned (.int .i64 0) ∧ w' = w := by
  obtain ⟨v, G, h1, h2, h3, h4, h5, h6, rfl⟩ := h
  have z2 := h1.cell 2
  simp only [List.getElem?_cons_zero, List.getElem?_cons_succ] at z2
  rw [hd] at z2
  have hl := h1.lt
  clear h1 h2 h3 hd
  go_enter Tryd.func23, Tryd.ntmps23
  go_wp2
  go_ret
  exact ⟨rfl, rfl⟩
set_option maxHeartbeats 2000000 in
theorem feed_go {p m : Nat} {xs : List UInt8} {F : Nat → Prop} (h : PFo p m ⟨xs, false⟩ w F) {B : Option Addr} {nb cb : Nat} {ys : List UInt8} (hr : Rd w 1 B nb (ys.map BV)) (hnc : nb ≤ cb) (hcb : cb ≤ 9223372036854775807) (q : Nat) (hq : min nb (m + 9 - xs.length) = q) :
    Calls Tryd.prog 23 #[.pointer (some ⟨p, 0, none⟩), .slice B nb cb] w fun e w' => e = .returned (.int .i64 (q : Int)) ∧ St F w w' [PFo p m ⟨xs ++ ys.take q, false⟩] := by
  obtain ⟨v, G, h1, h2, h3, h4, h5, h6, rfl⟩ := h
  obtain ⟨A, c, rfl, hrd, h7, h8, hAG⟩ := h2.rd
  simp only at h1 h2 h3 h4 h7 hrd
  have hys : ys.length = nb := by simpa using hr.1
  have z0 := h1.cell 0
  have z1 := h1.cell 1
  have z2 := h1.cell 2
  have zf := h1.frozen 0
  simp only [List.getElem?_cons_zero, List.getElem?_cons_succ] at z0 z1 z2
  have hl := h1.lt
  obtain ⟨n, hn⟩ : ∃ n, xs.length = n := ⟨_, rfl⟩
  obtain ⟨room, hroom⟩ : ∃ r, m + 9 - n = r := ⟨_, rfl⟩
  rw [hn, hroom] at hq
  have hrq := hr.take (k := q) (by omega)
  rw [Nat.mul_one, ← List.map_take] at hrq
  rw [hn] at z0 h7
  have w9 : IntKind.i64.wrap (9 + (m : Int)) = 9 + (m : Int) := by rw [IntKind.wrap_i64]; omega
  have wn : IntKind.i64.wrap (9 + (m : Int) - (n : Int)) = 9 + (m : Int) - (n : Int) := by rw [IntKind.wrap_i64]; omega
  have er : (if (0 : Int) < 9 + (m : Int) - (n : Int) then 9 + (m : Int) - (n : Int) else 0) = (room : Int) := by split <;> omega
  have er3 : (if (n : Int) < 9 + (m : Int) then 9 + (m : Int) - (n : Int) else 0) = (room : Int) := by split <;> omega
  have er2 : (if 9 + (m : Int) - (n : Int) < 0 then (0 : Int) else 9 + (m : Int) - (n : Int)) = (room : Int) := by split <;> omega
  have HGp : Hid (¬ G p) := by
    rcases h2 with ⟨_, _, rfl⟩ | ⟨g, o, c, cur, _, _, _, _, _, _, _, hgp, rfl⟩
    · exact fun h => h
    · exact fun h => hgp h.symm
  have H1 := Lib.hid h1
  have H2 := Lib.hid h2
  have HRq := Lib.hid hrq
  have Hn := Lib.hid hn
  have Hq := Lib.hid hq
  have H4 := Lib.hid h4
  have hrl : n ≤ 16777224 := by rw [← hn]; exact h4
  clear h1 h2 h3 hrd hrq hn hr hys h4 hAG
  go_enter Tryd.func23, Tryd.ntmps23
  go_wp2
  have en : (if (room : Int) < (nb : Int) then (room : Int) else (nb : Int)) = (q : Int) := by have := Hq.out; split <;> omega
  have en2 : (if room < nb then (room : Int) else (nb : Int)) = (q : Int) := by have := Hq.out; split <;> omega
  have hqn : q ≤ nb := by have := Hq.out; omega
  have hqc : q ≤ cb := by omega
  go_quiet (fail)
  have HR1 : Hid (Rd (w.drewN nq).drew 1 B q ((ys.take q).map BV)) := (HRq.out.below (below_drewN (Below.refl _ _) nq)).below (below_drewN (Below.refl _ _) 1)
  have H21 : Hid (Hel (w.drewN nq).drew p (.slice A xs.length c) G xs) := H2.out
  have H11 : Hid (Blk (w.drewN nq).drew p 82 [.slice A xs.length c, .int .i64 (m : Int), .bool false]) := H1.out
  go_wp2
  go_region_law (refine step_append_hel rfl (.tmp 31) (.tmp 34) rfl (p := p) (.slice A n c) (G := G) xs (by simp [Act.eval]) (by rw [← Hn.out]; exact H21.out) hl B q cb (ys.take q) (by simp [Act.eval]) HR1.out (by rw [Hn.out]; omega) ?_
                 intro A' c' w' G' hh hf hG'
                 have hbp : Blk w' p 82 [.slice A n c, .int .i64 (m : Int), .bool false] := by
                   have h := Blk.fr H11.out hf HGp.out
                   rw [Hn.out] at h
                   exact h
                 have hcp := hbp.cell 0
                 simp only [List.getElem?_cons_zero] at hcp
                 have hzp := hbp.frozen 0
                 have hlp := hbp.lt
                 have Hh := Lib.hid hh
                 have Hf := Lib.hid hf
                 have HG' := Lib.hid hG'
                 have Hbp := Lib.hid hbp
                 clear hh hf hG' hbp)
  go_wp2
  go_ret
  have hf2 : Fr (· = p) w' (w'.setCell ⟨p, 0, none⟩ (.slice A' (xs.length + q) c')) := Fr.setCell (S := (· = p)) (Fr.refl _ _) (p := ⟨p, 0, none⟩) (.inl rfl) _
  have hlen : (xs ++ ys.take q).length = xs.length + q := by
    rw [List.length_append, List.length_take]
    have := HR1.out.1
    simp at this
    omega
  have hG2 : ∀ i, G' i → i ≠ p := by
    rcases Hh.out with ⟨_, _, rfl⟩ | ⟨g, o, c, cur, _, _, _, _, _, _, _, hgp, rfl⟩
    · exact fun i h => h.elim
    · exact fun i h e => hgp (by rw [← h]; exact e)
  refine ⟨rfl, St.changed (framed_PFo p m _) (F' := fun i => i = p ∨ G' i) ⟨_, G', ?_, Hh.out.fr hf2 (fun i hi e => hG2 i hi e), (show Pst.ok ⟨_, false⟩ from fun h => by cases h), ?_, h5, h6, rfl⟩ (fun i hi => ?_) ?_⟩
  · have := Hbp.out.set_ 0 (.slice A' (xs.length + q) c')
    exact this
  · show (xs ++ ys.take q).length ≤ 16777224
    rw [hlen, Hn.out]
    have := Hq.out
    omega
  · rcases hi with rfl | hi
    · exact .inl (.inl rfl)
    · rcases HG'.out i hi with h | h
      · exact .inl (.inr h)
      · exact .inr h
  · have h1 : Fr G w w' := ((Fr.refl _ w).drewN nq).drew.trans Hf.out (fun _ _ h => h)
    exact (h1.mono (fun i _ h => .inr h)).trans hf2 (fun i _ h => .inl h)
end
end Go.Proofs.YtokbdkbljgdcpaaDoor

/- A parser among other things: New, Feed, Next, Size, SetMax. -/
namespace Go.Proofs.YtokbdkbljgdcpaaDoor
open Go.RowKit Go.Own Go.Frm
set_option linter.unusedVariables false
section
variable {w : World}
theorem PFo.ok {p m : Nat} {st : Pst} {F : Nat → Prop} (h : PFo p m st w F) : st.ok ∧ st.held.length ≤ 16777224 ∧ 16384 ≤ m ∧ m ≤ 16777215 := by
  obtain ⟨v, G, h1, h2, h3, h4, h5, h6, rfl⟩ := h
  exact ⟨h3, h4, h5, h6⟩
theorem feed_c0 {p m : Nat} {st : Pst} {F : Nat → Prop} (h : PFo p m st w F) {B : Option Addr} {nb cb : Nat} {ys : List UInt8} (hr : Rd w 1 B nb (ys.map BV)) (hnc : nb ≤ cb) (hcb : cb ≤ 9223372036854775807) :
    Calls Tryd.prog 23 #[.pointer (some ⟨p, 0, none⟩), .slice B nb cb] w fun e w' => e = .returned (.int .i64 ((feedN m st nb : Nat) : Int)) ∧ St F w w' [PFo p m (feedP m st ys)] := by
  have hys : ys.length = nb := by simpa using hr.1
  cases hd : st.done with
  | true =>
    have e1 : feedN m st nb = 0 := by unfold feedN; rw [hd]; rfl
    have e2 : feedP m st ys = st := by unfold feedP; rw [hys, e1, List.take_zero, List.append_nil]
    refine (feed_done h hd (.slice B nb cb)).mono ?_
    rintro e w' ⟨rfl, rfl⟩
    rw [e1, e2]
    exact ⟨rfl, St.start (framed_PFo p m st) h⟩
  | false =>
    obtain ⟨xs, d⟩ := st
    simp only at hd
    subst hd
    have e1 : feedN m ⟨xs, false⟩ nb = min nb (m + 9 - xs.length) := rfl
    have e2 : feedP m ⟨xs, false⟩ ys = ⟨xs ++ ys.take (min nb (m + 9 - xs.length)), false⟩ := by unfold feedP; rw [hys, e1]
    rw [e1, e2]
    exact feed_go h hr hnc hcb _ rfl
theorem feed_c {p m : Nat} {st : Pst} {F : Nat → Prop} (h : PFo p m st w F) {B : Option Addr} {nb cb : Nat} {ys : List UInt8} (hr : Rd w 1 B nb (ys.map BV)) (hnc : nb ≤ cb) (hcb : cb ≤ 9223372036854775807) (hB : ∀ a, B = some a → ¬ F a.block) :
    Calls Tryd.prog 23 #[.pointer (some ⟨p, 0, none⟩), .slice B nb cb] w fun e w' => e = .returned (.int .i64 ((feedN m st nb : Nat) : Int)) ∧ St F w w' [PFo p m (feedP m st ys)] := feed_c0 h hr hnc hcb
variable {w0 : World} {L : List Ob} {p m : Nat} {st : Pst}
/-- octets of a slice that was there before -/
theorem feed_in (s : St (fun _ => False) w0 w (PFo p m st :: L)) {B : Option Addr} {nb cb : Nat} {ys : List UInt8} (hr : Rd w0 1 B nb (ys.map BV)) (hnc : nb ≤ cb) (hcb : cb ≤ 9223372036854775807) (hB : ∀ a, B = some a → a.block < w0.heap.size) :
    Calls Tryd.prog 23 #[.pointer (some ⟨p, 0, none⟩), .slice B nb cb] w fun e w' => e = .returned (.int .i64 ((feedN m st nb : Nat) : Int)) ∧ St (fun _ => False) w0 w' (PFo p m (feedP m st ys) :: L) := by
  obtain ⟨F, hF, _, hlo, hback⟩ := s.focus0
  refine (feed_c hF (s.rd hr (fun _ _ h => h)) hnc hcb (fun a ha hFa => ?_)).mono ?_
  · have := hB a ha
    rcases hlo _ hFa with h | h
    · exact h
    · omega
  · rintro e w' ⟨rfl, s'⟩
    exact ⟨rfl, by have := hback w' _ [] s'; simpa only [List.append_nil, List.nil_append] using this⟩
theorem feed_in0 (s : St (fun _ => False) w0 w (PFo p m st :: L)) {B : Option Addr} {nb cb : Nat} {ys : List UInt8} (hr : Rd w0 1 B nb (ys.map BV)) (hnc : nb ≤ cb) (hcb : cb ≤ 9223372036854775807) :
    Calls Tryd.prog 23 #[.pointer (some ⟨p, 0, none⟩), .slice B nb cb] w fun e w' => e = .returned (.int .i64 ((feedN m st nb : Nat) : Int)) ∧ St (fun _ => False) w0 w' (PFo p m (feedP m st ys) :: L) := by
  obtain ⟨F, hF, _, hlo, hback⟩ := s.focus0
  refine (feed_c0 hF (s.rd hr (fun _ _ h => h)) hnc hcb).mono ?_
  rintro e w' ⟨rfl, s'⟩
  exact ⟨rfl, by have := hback w' _ [] s'; simpa only [List.append_nil, List.nil_append] using this⟩
/-- octets of a row that has just been made -/
theorem feed_new (s : St (fun _ => False) w0 w (PFo p m st :: L)) {w1 : World} (hb : Below w.heap.size w w1) {B : Option Addr} {nb cb : Nat} {ys : List UInt8} (hr : Rd w1 1 B nb (ys.map BV)) (hnc : nb ≤ cb) (hcb : cb ≤ 9223372036854775807) (hB : ∀ a, B = some a → w.heap.size ≤ a.block) :
    Calls Tryd.prog 23 #[.pointer (some ⟨p, 0, none⟩), .slice B nb cb] w1 fun e w' => e = .returned (.int .i64 ((feedN m st nb : Nat) : Int)) ∧ St (fun _ => False) w0 w' (PFo p m (feedP m st ys) :: L) := by
  obtain ⟨F, hF, hFr, hlo, hback⟩ := s.focus0
  have hf : Fr (fun _ => False) w w1 := Fr.of_below hb (fun i h1 h2 => absurd h2 (by omega))
  have hF1 := hFr.fr w w1 F _ hF hf (fun _ _ h => h)
  refine (feed_c hF1 hr hnc hcb (fun a ha hFa => ?_)).mono ?_
  · have := hB a ha
    have := hFr.lt w F hF _ hFa
    omega
  · rintro e w' ⟨rfl, s'⟩
    exact ⟨rfl, by have := hback w' _ [] (s'.before hf); simpa only [List.append_nil] using this⟩
/-- octets of a row of the call's own -/
theorem feed_own (s : St (fun _ => False) w0 w (PFo p m st :: L)) {base n : Nat} {v : Value} {xs : List Value} (hm : SLo base 5 1 v n xs ∈ L) {B : Option Addr} {nb cb : Nat} {ys : List UInt8} (hv : ∀ a, B = some a → v.ownBlock = some a.block) (hr : Rd w 1 B nb (ys.map BV)) (hnc : nb ≤ cb) (hcb : cb ≤ 9223372036854775807) :
    Calls Tryd.prog 23 #[.pointer (some ⟨p, 0, none⟩), .slice B nb cb] w fun e w' => e = .returned (.int .i64 ((feedN m st nb : Nat) : Int)) ∧ St (fun _ => False) w0 w' (PFo p m (feedP m st ys) :: L) := by
  obtain ⟨F, hF, hlo, hd, hback⟩ := St.focusA [] (PFo p m st) L s
  obtain ⟨F', ⟨_, hF'⟩, hdis⟩ := hd _ (by simpa using hm)
  refine (feed_c hF hr hnc hcb (fun a ha hFa => ?_)).mono ?_
  · refine hdis _ hFa ?_
    rw [hF']
    exact hv a ha
  · rintro e w' ⟨rfl, s'⟩
    exact ⟨rfl, by have := hback w' _ [] s'; simpa only [List.append_nil, List.nil_append] using this⟩
theorem next_s (s : St (fun _ => False) w0 w (PFo p m st :: L)) (hG : Gl w0) :
    Calls Tryd.prog 21 #[.pointer (some ⟨p, 0, none⟩)] w fun e w' => ∃ pv lv, e = .returned (.tuple #[frV (nextP m st).1.f pv lv, ftV (nextP m st).1.x, .bool (nextP m st).1.ok]) ∧ FrOwn w' w.heap.size (nextP m st).1.f pv lv ∧ St (fun _ => False) w0 w' (PFo p m (nextP m st).2 :: L) ∧ w.heap.size ≤ w'.heap.size := by
  obtain ⟨F, hF, _, hlo, hback⟩ := s.focus0
  have hp := hG.pos
  refine (next_c (hG.below s.below) hF (fun h => ?_) (fun h => ?_)).mono ?_
  · rcases hlo _ h with h | h
    · exact h
    · omega
  · rcases hlo _ h with h | h
    · exact h
    · omega
  · rintro e w' ⟨pv, lv, F', rfl, ho, hF', hsub, hfr⟩
    exact ⟨pv, lv, rfl, ho, by have := hback w' _ [] (St.changed (framed_PFo p m _) hF' (fun i hi => .inl (hsub i hi)) hfr); simpa only [List.append_nil] using this, hfr.size⟩
theorem size_s (s : St (fun _ => False) w0 w (PFo p m st :: L)) : Calls Tryd.prog 25 #[.pointer (some ⟨p, 0, none⟩)] w fun e w' => e = .returned (.int .i64 (st.held.length : Int)) ∧ w' = w := by
  obtain ⟨F, hF, _⟩ := s.focus0
  exact size_c hF
end
end Go.Proofs.YtokbdkbljgdcpaaDoor
