/- Several texts in one: FI. -/
import Derived.Test.YtokbdkbljgdcpaaDoorY44
/- Next: a frame. -/
namespace Go.Proofs.YtokbdkbljgdcpaaDoor
open Go.RowKit Go.Own Go.Frm
set_option linter.unusedVariables false
set_option maxRecDepth 100000
theorem Hel.drop {w : World} {p n c : Nat} {A : Option Addr} {G : Nat → Prop} {xs : List UInt8} (h : Hel w p (.slice A n c) G xs) (k : Nat) (hk : k ≤ n) : Hel w p (.slice (if c = k then A else Option.map (fun x => x.add k) A) (n - k) (c - k)) G (xs.drop k) := by
  rcases h with ⟨h1, rfl, rfl⟩ | ⟨g, o, c', cur, h1, h2, h3, h4, h5, h6, h7, h8, rfl⟩
  · injection h1 with e1 e2 e3
    subst e1 e2 e3
    have : k = 0 := by omega
    subst this
    exact .inl ⟨rfl, rfl, rfl⟩
  · injection h1 with e1 e2 e3
    subst e1 e2 e3
    have hl : (xs.drop k).length = xs.length - k := List.length_drop
    by_cases hc : c = k
    · have hz : xs.length - k = 0 := by omega
      have hn : xs.drop k = [] := List.eq_nil_of_length_eq_zero (by omega)
      rw [if_pos hc, hz, hn]
      exact .inr ⟨g, o, c - k, cur, rfl, h2, Nat.zero_le _, by omega, by omega, rfl, h7, h8, rfl⟩
    · rw [if_neg hc]
      refine .inr ⟨g, o + k, c - k, cur, ?_, h2, by omega, by omega, by omega, ?_, h7, h8, rfl⟩
      · rw [hl]; simp [add_plain]
      · rw [hl, List.map_drop, ← h6, List.drop_take, List.drop_drop]
def NextP (p m : Nat) (o : Out × Pst) (F : Nat → Prop) (w : World) (e : Ending) (w' : World) : Prop :=
  ∃ pv lv F', e = .returned (.tuple #[frV o.1.f pv lv, ftV o.1.x, .bool o.1.ok]) ∧ FrOwn w' w.heap.size o.1.f pv lv ∧ PFo p m o.2 w' F' ∧ (∀ i, F' i → F i) ∧ Fr F w w'
section
variable {w : World}
set_option maxHeartbeats 4000000 in
theorem next_keep {p m : Nat} {st : Pst} {F : Nat → Prop} (hG : Gl w) (h : PFo p m st w F) (g1 : ¬ F 1) (g2 : ¬ F 0) (hs : 9 ≤ st.held.length) (hm : ¬ m < hdN st.held) (hsz : ¬ st.held.length < 9 + hdN st.held) (f : Fm) (b : Bool) (cc : Nat) (z : Int) (hpar : parseP (hdK st.held) (hdF st.held) (hdS st.held) ((st.held.drop 9).take (hdN st.held)) = (f, ⟨b, cc, z⟩)) (hbz : b = false ∨ (b = true ∧ (z == 0) = false)) : Calls Tryd.prog 21 #[.pointer (some ⟨p, 0, none⟩)] w (NextP p m (⟨f, ⟨b, cc, z⟩, true⟩, ⟨st.held.drop (9 + hdN st.held), false⟩) F w) := by
  obtain ⟨v, G, h1, h2, h3, h4, h5, h6, rfl⟩ := h
  obtain ⟨A, c, rfl, hrd, h7, h8, hAG⟩ := h2.rd
  have hAl : ∀ a, A = some a → a.block < w.heap.size := fun a ha => h2.lt (hAG a ha)
  obtain ⟨xs, hxs⟩ : ∃ xs, st.held = xs := ⟨_, rfl⟩
  rw [hxs] at h1 h2 h4 h7 hrd hs hm hsz hpar ⊢
  obtain ⟨n, hn⟩ : ∃ n, xs.length = n := ⟨_, rfl⟩
  rw [hn] at h1 h7 hrd hs hsz h4
  obtain ⟨hd, hhd⟩ : ∃ hd, hdN xs = hd := ⟨_, rfl⟩
  rw [hhd] at hm hsz hpar ⊢
  rw [hn] at h2
  have H2 := Lib.hid h2
  have Hrd := Lib.hid hrd
  have HG := Lib.hid hG
  have Hpar := Lib.hid hpar
  have Hbz := Lib.hid hbz
  have Hg1 : Hid (¬ 1 = p) := fun e => g1 (.inl e)
  have Hg2 : Hid (¬ 0 = p) := fun e => g2 (.inl e)
  have HAl := Lib.hid hAl
  have hnl := hn
  have HGp : Hid (¬ G p) := by
    rcases h2 with ⟨_, _, rfl⟩ | ⟨g, o, c, cur, _, _, _, _, _, _, _, hgp, rfl⟩
    · exact fun h => h
    · exact fun h => hgp h.symm
  have z0 := h1.cell 0
  have z1 := h1.cell 1
  simp only [List.getElem?_cons_zero, List.getElem?_cons_succ] at z0 z1
  have hl := h1.lt
  have B2 : Below w.heap.size w ((w.alloc (.cells #[.int .i64 0, .int .i64 0, .bool false, .bool false, .bool false, .bool false, .slice none 0 0, .int .i64 0, .int .i64 0, .int .i64 0, .bool false, .int .i64 0, .int .u32 0, .slice none 0 0, .int .i64 0, .int .i64 0] 27)).alloc (.cells #[.bool false, .int .u32 0, .int .i64 0] 46)) := ((Below.refl _ w).alloc (Nat.le_refl _) _).alloc (by simp) _
  have C := (headOf_c (hrd.below B2) h7 h8 hs (fun a ha => by have := hAl a ha; simp; omega) (hG.below B2))
  rw [hhd] at C
  have HC := Lib.hid C
  have HB2 := Lib.hid B2
  have Y1 := Lib.hid (blk_new1 w (.cells #[.bool false, .int .u32 0, .int .i64 0] 46) 27 zero16)
  have Y2 := Lib.hid (blk_new2 w (.cells #[.int .i64 0, .int .i64 0, .bool false, .bool false, .bool false, .bool false, .slice none 0 0, .int .i64 0, .int .i64 0, .int .i64 0, .bool false, .int .i64 0, .int .u32 0, .slice none 0 0, .int .i64 0, .int .i64 0] 27) 46 [.bool false, .int .u32 0, .int .i64 0])
  have H1 := Lib.hid h1
  have H7c := Lib.hid h7
  have H8c := Lib.hid h8
  have Hst0 : st.done = false := by
    cases hdn : st.done with
    | false => rfl
    | true =>
      have h0 := h3 hdn
      rw [hxs] at h0
      rw [h0] at hnl
      simp at hnl
      omega
  have HAG := Lib.hid hAG
  have Hn9 := Lib.hid hs
  have Hhd := Lib.hid hhd
  have t1 : ¬ ((n : Int) < 9) := by omega
  have t2 : ¬ (m < hd) := hm
  have wn : IntKind.i64.wrap (9 + (hd : Int)) = ((9 + hd : Nat) : Int) := by rw [IntKind.wrap_i64]; omega
  have t3 : ¬ (n < 9 + hd) := hsz
  have s1 : (9 : Int) ≤ ((9 + hd : Nat) : Int) := by omega
  have s2 : ((9 + hd : Nat) : Int) ≤ (c : Int) := by omega
  have s3 : 9 + hd ≤ c := by omega
  have s4 : 9 + hd ≤ n := by omega
  have e9 : 9 + hd - 9 = hd := by omega
  obtain ⟨Ah, hif⟩ : ∃ Ah, (if c = 9 + hd then A else Option.map (fun x => x.add (9 + hd)) A) = Ah := ⟨_, rfl⟩
  clear h1 h2 h3 h7 h8 hAG hrd C B2 hxs hhd hs hm hG hpar hbz g1 g2
  go_enter Tryd.func21, Tryd.ntmps21
  go_wp2_with (first
    | (go_at_call 38; (with_reducible refine (HC.out).mono ?_); rintro e w1 ⟨rfl, hb⟩
       have HB1 := Lib.hid (HB2.out.trans (hb.mono (by simp; omega)))
       have X1 := Lib.hid (blk_below Y1.out hb)
       have X2 := Lib.hid (blk_below Y2.out hb)
       have P1 := Lib.hid (blk_below ((H1.out.alloc _).alloc _) hb)
       have z0 := P1.out.cell 0
       have z1 := P1.out.cell 1
       simp only [List.getElem?_cons_zero, List.getElem?_cons_succ] at z0 z1
       have L0 := P1.out.lt
       have L1 := X1.out.lt
       have L2 := X2.out.lt
       obtain ⟨r0, r1, r2, r3, r4, r5, r6, r7, r8, r9, r10, r11, r12, r13, r14, r15⟩ := cells16 X1.out
       have u0 : w1.cell? ⟨w.heap.size + 1, 0, none⟩ = some (.bool false) := X2.out.cell 0
       have u1 : w1.cell? ⟨w.heap.size + 1, 1, none⟩ = some (.int .u32 0) := X2.out.cell 1
       have u2 : w1.cell? ⟨w.heap.size + 1, 2, none⟩ = some (.int .i64 0) := X2.out.cell 2
       have f1 := X1.out.frozen
       have f2 : ∀ i, w1.frozen? ⟨w.heap.size + 1, i, none⟩ = false := X2.out.frozen
       clear hb))
  go_quiet (fail)
  have HP4 : Hid (Blk ((w1.alloc (.cells #[.int .i64 (hd : Int), .int .i64 (hdK xs : Int), .int .i64 (hdF xs : Int), .int .i64 (hdS xs : Int), .int .i64 (hpN (hdK xs) (hdF xs) : Int)] 85)).drewN nq) p 82 [.slice A n c, .int .i64 (m : Int), .bool st.done]) := P1.out.alloc _
  have HX4 : Hid (Blk ((w1.alloc (.cells #[.int .i64 (hd : Int), .int .i64 (hdK xs : Int), .int .i64 (hdF xs : Int), .int .i64 (hdS xs : Int), .int .i64 (hpN (hdK xs) (hdF xs) : Int)] 85)).drewN nq) w.heap.size 27 zero16) := X1.out.alloc _
  have HY4 : Hid (Blk ((w1.alloc (.cells #[.int .i64 (hd : Int), .int .i64 (hdK xs : Int), .int .i64 (hdF xs : Int), .int .i64 (hdS xs : Int), .int .i64 (hpN (hdK xs) (hdF xs) : Int)] 85)).drewN nq) (w.heap.size + 1) 46 [.bool false, .int .u32 0, .int .i64 0]) := X2.out.alloc _
  have HZ4 : Hid (Blk ((w1.alloc (.cells #[.int .i64 (hd : Int), .int .i64 (hdK xs : Int), .int .i64 (hdF xs : Int), .int .i64 (hdS xs : Int), .int .i64 (hpN (hdK xs) (hdF xs) : Int)] 85)).drewN nq) w1.heap.size 85 [.int .i64 (hd : Int), .int .i64 (hdK xs : Int), .int .i64 (hdF xs : Int), .int .i64 (hdS xs : Int), .int .i64 (hpN (hdK xs) (hdF xs) : Int)]) := Blk.new w1 _ _
  have HB4 : Hid (Below w.heap.size w ((w1.alloc (.cells #[.int .i64 (hd : Int), .int .i64 (hdK xs : Int), .int .i64 (hdF xs : Int), .int .i64 (hdS xs : Int), .int .i64 (hpN (hdK xs) (hdF xs) : Int)] 85)).drewN nq)) := below_drewN (HB1.out.alloc HB1.out.size _) nq
  clear r0 r1 r2 r3 r4 r5 r6 r7 r8 r9 r10 r11 r12 r13 r14 r15 u0 u1 u2 f1 f2 z0 z1
  generalize (w1.alloc (.cells #[.int .i64 (hd : Int), .int .i64 (hdK xs : Int), .int .i64 (hdF xs : Int), .int .i64 (hdS xs : Int), .int .i64 (hpN (hdK xs) (hdF xs) : Int)] 85)).drewN nq = w4 at HP4 HX4 HY4 HZ4 HB4 ⊢
  have z0 := HP4.out.cell 0
  have z1 := HP4.out.cell 1
  have h0 := HZ4.out.cell 0
  have h1 := HZ4.out.cell 1
  have h2 := HZ4.out.cell 2
  have h3 := HZ4.out.cell 3
  have h4 := HZ4.out.cell 4
  have zf := HP4.out.frozen
  simp only [List.getElem?_cons_zero, List.getElem?_cons_succ] at z0 z1 h0 h1 h2 h3 h4
  have L4 := HZ4.out.lt
  have hSl : Hid (Below w.heap.size w w4) := HB4
  have HH4 : Hid (Hel w4 p (.slice A n c) G xs) := by
    refine Hel.fr (S := fun _ => False) H2.out (Fr.of_below HB4.out (fun i a b => by omega)) (fun _ _ h => h)
  have HF5 : Hid (Fr (· = p) w4 (w4.setCell ⟨p, 0, none⟩ (.slice Ah (n - (9 + hd)) (c - (9 + hd))))) := Fr.setCell (S := (· = p)) (Fr.refl _ _) (p := ⟨p, 0, none⟩) (.inl rfl) _
  have HH5 : Hid (Hel (w4.setCell ⟨p, 0, none⟩ (.slice Ah (n - (9 + hd)) (c - (9 + hd)))) p (.slice Ah (n - (9 + hd)) (c - (9 + hd))) G (xs.drop (9 + hd))) := by
    have h := (Hel.drop HH4.out (9 + hd) s4).fr HF5.out (fun i hi e => HGp.out (by have e' : i = p := e; rw [← e']; exact hi))
    rw [hif] at h
    exact h
  have hap : ∀ a, A = some a → a.block < w.heap.size ∧ ¬ a.block = p := fun a ha => ⟨HAl.out a ha, fun e => HGp.out (by rw [← e]; exact HAG.out a ha)⟩
  have hnc' : n ≤ c := H7c.out
  have hcb' : c ≤ 9223372036854775807 := H8c.out
  have HC5 : Hid (Calls Tryd.prog 41 #[hdV hd (hdK xs) (hdF xs) (hdS xs), .slice (if c = 9 then A else Option.map (fun x => x.add 9) A) hd (c - 9)] (w4.setCell ⟨p, 0, none⟩ (.slice Ah (n - (9 + hd)) (c - (9 + hd)))) (FraP (w4.setCell ⟨p, 0, none⟩ (.slice Ah (n - (9 + hd)) (c - (9 + hd)))) (f, ⟨b, cc, z⟩))) := by
    have hr4 : Rd w4 1 A n (xs.map BV) := Hrd.out.below HB4.out
    have hr5 := (hr4.fr HF5.out (fun a ha => (hap a ha).2)).drop (k := 9) (cap := c) (by omega) (by omega)
    have hr6 := hr5.take (k := hd) (by omega)
    simp only [Nat.mul_one, ← List.map_drop, ← List.map_take] at hr6
    have hln : ((xs.drop 9).take hd).length = hd := by rw [List.length_take, List.length_drop]; omega
    have h := frame_c (k := hdK xs) (fl := hdF xs) (s := hdS xs) (c := c - 9) ((HG.out.below HB4.out).fr HF5.out Hg1.out Hg2.out) hr6 (by omega) (by omega) ?_ (by omega) hln
    · rw [Hpar.out] at h
      exact h
    · intro a ha
      have hsz5 := HF5.out.size
      have hsz4 := HB4.out.size
      split at ha
      · exact Nat.lt_of_lt_of_le (hap a ha).1 (by omega)
      · cases hA0 : A with
        | none => rw [hA0] at ha; cases ha
        | some a0 =>
          rw [hA0] at ha
          injection ha with ha
          have hb0 := (hap a0 hA0).1
          have eb : a.block = a0.block := by rw [← ha]; unfold Addr.add; split <;> rfl
          rw [eb]
          exact Nat.lt_of_lt_of_le hb0 (by omega)
  have HP5 : Hid (Blk (w4.setCell ⟨p, 0, none⟩ (.slice Ah (n - (9 + hd)) (c - (9 + hd)))) p 82 [.slice Ah (n - (9 + hd)) (c - (9 + hd)), .int .i64 (m : Int), .bool st.done]) := HP4.out.set_ 0 _
  have HX5 := Lib.hid (HX4.out.fr HF5.out (fun e => by have e' : w.heap.size = p := e; omega))
  have HY5 := Lib.hid (HY4.out.fr HF5.out (fun e => by have e' : w.heap.size + 1 = p := e; omega))
  have HFw5 : Hid (Fr (· = p) w (w4.setCell ⟨p, 0, none⟩ (.slice Ah (n - (9 + hd)) (c - (9 + hd))))) := Fr.trans (Fr.of_below (S := (· = p)) HB4.out (fun i h1 h2 => by omega)) HF5.out (fun _ _ h => h)
  have L5 := HY5.out.lt
  go_wp2_with (first
    | (go_at_call 41; refine (HC5.out).mono ?_; rintro e w6 ⟨_, _, rfl, ⟨A6, c6, D6, d6, rfl, rfl, o61, o62⟩, hb⟩
       have O6 : Hid (FrOwn w6 _ f (.slice A6 f.pay.length c6) (.slice D6 f.list.length d6)) := ⟨A6, c6, D6, d6, rfl, rfl, o61, o62⟩
       have X6 := Lib.hid (blk_below HX5.out hb)
       have Y6 := Lib.hid (blk_below HY5.out hb)
       have P6 := Lib.hid (blk_below HP5.out hb)
       have H6 := Lib.hid (HH5.out.fr (S := fun _ => False) (Fr.of_below hb (fun i a b => by omega)) (fun _ _ h => h))
       have HF6 := Lib.hid (Fr.trans HFw5.out (Fr.of_below (S := (· = p)) hb (fun i h1 h2 => absurd h1 (Nat.not_lt.2 h2))) (fun _ _ h => h))
       clear hb o61 o62)
    | (go_at_call 39; (with_reducible refine (told_keep f A6 D6 f.pay.length c6 f.list.length d6 b cc z Hbz.out _).mono ?_); rintro e w7 ⟨rfl, hb⟩
       have O7 := Lib.hid (O6.out.fr (S := fun _ => False) (Fr.of_below hb (fun i a b => by omega)) (fun _ _ h => h))
       have X7 := Lib.hid (blk_below X6.out hb)
       have Y7 := Lib.hid (blk_below Y6.out hb)
       have P7 := Lib.hid (blk_below P6.out hb)
       have H7 := Lib.hid (H6.out.fr (S := fun _ => False) (Fr.of_below hb (fun i a b => by omega)) (fun _ _ h => h))
       have HF7 := Lib.hid (Fr.trans HF6.out (Fr.of_below (S := (· = p)) hb (fun i h1 h2 => absurd h1 (Nat.not_lt.2 h2))) (fun _ _ h => h))
       obtain ⟨r0, r1, r2, r3, r4, r5, r6, r7, r8, r9, r10, r11, r12, r13, r14, r15⟩ := cells16 X7.out
       have u0 : w7.cell? ⟨w.heap.size + 1, 0, none⟩ = some (.bool false) := Y7.out.cell 0
       have u1 : w7.cell? ⟨w.heap.size + 1, 1, none⟩ = some (.int .u32 0) := Y7.out.cell 1
       have u2 : w7.cell? ⟨w.heap.size + 1, 2, none⟩ = some (.int .i64 0) := Y7.out.cell 2
       have f1 := X7.out.frozen
       have f2 : ∀ i, w7.frozen? ⟨w.heap.size + 1, i, none⟩ = false := Y7.out.frozen
       clear hb))
  all_goals
    have Hst := Lib.hid Hst0
    obtain ⟨S1, S2⟩ := store16 X7.out (.int .i64 f.kind) (.int .i64 f.stream) (.bool f.fin) (.bool f.eh) (.bool f.ack) (.bool f.prio) (.slice A6 f.pay.length c6) (.int .i64 f.flags) (.int .i64 f.pad) (.int .i64 f.depend) (.bool f.excl) (.int .i64 f.weight) (.int .u32 (f.code : Int)) (.slice D6 f.list.length d6) (.int .i64 f.last) (.int .i64 f.inc)
    obtain ⟨S3, S4⟩ := store3 (Y7.out.fr S2 (fun e => by omega)) (.bool b) (.int .u32 (cc : Int)) (.int .i64 z)
    have n1 : ¬ p = w.heap.size := by omega
    have n2 : ¬ p = w.heap.size + 1 := by omega
    have hGlt : ∀ i, G i → i < w.heap.size := fun i hi => H2.out.lt hi
    have O8 : FrOwn _ w.heap.size f (.slice A6 f.pay.length c6) (.slice D6 f.list.length d6) := FrOwn.lower ((O7.out.fr S2 (fun i hi e => by omega)).fr S4 (fun i hi e => by omega)) (by omega)
    have hP : PFo p m ⟨xs.drop (9 + hd), false⟩ _ (fun i => i = p ∨ G i) := ⟨.slice Ah (n - (9 + hd)) (c - (9 + hd)), G, by have := (P7.out.fr S2 n1).fr S4 n2; rw [Hst.out] at this; exact this, (H7.out.fr S2 (fun i hi e => by have := hGlt i hi; omega)).fr S4 (fun i hi e => by have := hGlt i hi; omega), (fun h => by cases h), by rw [List.length_drop]; omega, h5, h6, rfl⟩
    refine bodyPost_ret (res_ffb (p := 2) (q := 3) (r := 4) rfl rfl rfl rfl rfl (S1.fr S4 (fun e => by omega)) S3) rfl ⟨_, _, _, rfl, O8, hP, fun i hi => hi, ?_⟩
    exact ((HF7.out.trans S2 (fun i hi e => by omega)).trans S4 (fun i hi e => by omega)).mono (fun i _ e => .inl e)
end
end Go.Proofs.YtokbdkbljgdcpaaDoor
