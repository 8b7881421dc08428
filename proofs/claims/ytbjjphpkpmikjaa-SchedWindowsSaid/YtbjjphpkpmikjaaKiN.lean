/- Stage 11: what the first stream that is ready may send: the program's nextData. -/
import Derived.Test.YtbjjphpkpmikjaaKiM
namespace Go.Proofs.Ytbjjphpkpmikjaa
open Go.RowKit Go.Own Go.Sch
set_option linter.unusedVariables false
set_option linter.unusedSimpArgs false
set_option maxRecDepth 100000
def NextD (S : Nat → Prop) (w0 : World) (p : Nat) (fs : List (List UInt8)) (L : List Ob) (q : List Fl) (W : Int) (F : Nat) (res : Option (Nat × Nat × Bool × List Fl)) (e : Ending) (w' : World) : Prop :=
  (res = none ∧ e = .returned (.tuple #[pieceV (.slice none 0 0) 0 0 false, .bool false]) ∧ St S w0 w' (SO p fs q W F :: L)) ∨
  ∃ id n z q', res = some (id, n, z, q') ∧ e = .returned (.tuple #[pieceV (.slice none 0 0) (id : Int) (n : Int) z, .bool true]) ∧ St S w0 w' (SO p fs q' (W - (n : Int)) F :: L)
theorem nextQ_ways {W : Int} {F cap : Nat} {q : List Fl} (hF : 1 ≤ F) :
    (firstR W q = none ∧ nextQ W F cap q = none) ∨ (∃ a f b, firstR W q = some (a, f, b) ∧ cap < 9 ∧ nextQ W F cap q = none) ∨
    (∃ a f b x, firstR W q = some (a, f, b) ∧ 9 ≤ cap ∧ octs W F cap f = x ∧ x = 0 ∧ 0 < f.wait ∧ nextQ W F cap q = none) ∨
    (∃ a f b x, firstR W q = some (a, f, b) ∧ 9 ≤ cap ∧ octs W F cap f = x ∧ (¬ x = 0 ∨ f.wait = 0) ∧ x ≤ f.wait ∧
      nextQ W F cap q = if f.en = true ∧ f.wait - x = 0 then some (f.id, x, true, a ++ b) else some (f.id, x, false, a ++ b ++ [⟨f.id, f.win - (x : Nat), f.wait - x, f.en⟩])) := by
  unfold nextQ
  cases h : firstR W q with
  | none => exact .inl ⟨rfl, rfl⟩
  | some y =>
    obtain ⟨a, f, b⟩ := y
    right
    simp only
    obtain ⟨_, hr, _⟩ := firstR_some h
    by_cases h9 : cap < 9
    · exact .inl ⟨a, f, b, rfl, h9, by rw [if_pos (.inl h9)]⟩
    · right
      obtain ⟨x, hx⟩ : ∃ x, octs W F cap f = x := ⟨_, rfl⟩
      by_cases hz : 0 < f.wait ∧ cap < 10
      · left
        refine ⟨a, f, b, x, rfl, by omega, hx, ?_, hz.1, by rw [if_pos (.inr hz)]⟩
        rw [← hx]
        unfold octs
        split <;> omega
      · right
        refine ⟨a, f, b, x, rfl, by omega, hx, ?_, by rw [← hx]; exact octs_le, by rw [if_neg (by rintro (h | h); exact h9 h; exact hz h), hx]⟩
        rcases Nat.eq_zero_or_pos f.wait with h0 | h0
        · exact .inr h0
        · left
          have := octs_pos (F := F) hr h0 (by omega) (show 10 ≤ cap by omega)
          omega
section
variable {S : Nat → Prop} {w0 w : World} {L : List Ob} {p : Nat} {fs : List (List UInt8)} {q : List Fl} {W : Int} {F : Nat} {cv qv cv0 qv0 : Value} {C : List (Value × List UInt8)} {r : Nat} {t : TypeId} {cs : List Value}
theorem box40 {a b c d : Value} (s : St S w0 w (SdM p cv0 qv0 cv qv C q W F (L ++ [BLo r t [a, b, c, d]]))) (a' b' c' d' : Value) :
    St S w0 ((((w.setCell ⟨r, 0, none⟩ a').setCell ⟨r, 1, none⟩ b').setCell ⟨r, 2, none⟩ c').setCell ⟨r, 3, none⟩ d') (SdM p cv0 qv0 cv qv C q W F L) := boxDrop (boxSet (boxSet (boxSet (boxSet s 0 a') 1 b') 2 c') 3 d')
theorem boxCells {a b c d : Value} (s : St S w0 w (SdM p cv0 qv0 cv qv C q W F (L ++ [BLo r t [a, b, c, d]]))) : r < w.heap.size ∧ w.cell? ⟨r, 0, none⟩ = some a ∧ w.cell? ⟨r, 1, none⟩ = some b ∧ w.cell? ⟨r, 2, none⟩ = some c ∧ w.cell? ⟨r, 3, none⟩ = some d ∧ ∀ i, w.frozen? ⟨r, i, none⟩ = false := by
  have h := boxSee s
  exact ⟨h.lt, h.cell 0, h.cell 1, h.cell 2, h.cell 3, h.frozen⟩
abbrev zp : List Value := [.slice none 0 0, .int .i64 0, .int .i64 0, .bool false]
set_option maxHeartbeats 16000000 in
theorem nextD_c (hC : C.map Prod.snd = fs) (s : St S w0 w (SdL p cv qv C q W F L)) (ok : SdOk q W F) (cap : Int) (hcap : -9223372036854775808 ≤ cap ∧ cap ≤ 9223372036854775807) (res : Option (Nat × Nat × Bool × List Fl)) (hres : nextQ W F cap.toNat q = res) :
    Calls Try.prog 22 #[.pointer (some ⟨p, 0, none⟩), .int .i64 cap] w (NextD S w0 p fs L q W F res) := by
  obtain ⟨r, hr⟩ : ∃ r, w.heap.size = r := ⟨_, rfl⟩
  have s1 : St S w0 (w.alloc (.cells #[.slice none 0 0, .int .i64 0, .int .i64 0, .bool false] 35)) (SdL p cv qv C q W F (L ++ [BLo r 35 [.slice none 0 0, .int .i64 0, .int .i64 0, .bool false]])) := by
    have h1 := boxNew s 35 [.slice none 0 0, .int .i64 0, .int .i64 0, .bool false]
    rw [hr] at h1
    exact h1
  have hways := nextQ_ways (W := W) (cap := cap.toNat) (q := q) ok.f1
  rw [hres] at hways
  have H1 := Lib.hid s1
  have HR := Lib.hid hr
  have HC := Lib.hid hC
  have HL := Lib.hid ok.len
  clear s s1 hr hC hres
  rcases hways with ⟨hf, rfl⟩ | ⟨a, f, b, hf, h9, rfl⟩ | ⟨a, f, b, x, hf, h9, hx, h0, hw, rfl⟩ | ⟨a, f, b, x, hf, h9, hx, h0, hxw, hre⟩
  · have HP : Hid (Rp W q (-1)) := .inl ⟨rfl, hf⟩
    clear hf ok hcap
    go_enter Try.func22, Try.ntmps22
    go_upto_region 1 with (fail)
    rw [HR.out]
    go_wp2_with (first
      | (go_at_call 29; (with_reducible refine (first_c H1.out HL.out _ HP.out).mono ?_); rintro e w3 ⟨rfl, s3⟩
         obtain ⟨dl, d0, d1, d2, d3, df⟩ := boxCells s3
         have H3 := Lib.hid (box40 s3 (.slice none 0 0) (.int .i64 0) (.int .i64 0) (.bool false))
         clear s3))
    refine bodyPost_ret (v := .tuple #[pieceV (.slice none 0 0) 0 0 false, .bool false]) (by simp [results, Try.results22, go_sem, d0, d1, d2, d3, dl, df]) rfl (.inl ⟨rfl, rfl, so_close HC.out H3.out⟩)
  · have HP : Hid (Rp W q (a.length : Int)) := .inr ⟨a, f, b, hf, rfl⟩
    obtain ⟨k, hk⟩ : ∃ k, a.length = k := ⟨_, rfl⟩
    rw [hk] at HP
    have hc9 : cap < 9 := by omega
    clear hf ok hcap hk h9
    go_enter Try.func22, Try.ntmps22
    go_upto_region 1 with (fail)
    rw [HR.out]
    go_wp2_with (first
      | (go_at_call 29; (with_reducible refine (first_c H1.out HL.out _ HP.out).mono ?_); rintro e w3 ⟨rfl, s3⟩
         obtain ⟨dl, d0, d1, d2, d3, df⟩ := boxCells s3
         have H3 := Lib.hid (box40 s3 (.slice none 0 0) (.int .i64 0) (.int .i64 0) (.bool false))
         clear s3))
    refine bodyPost_ret (v := .tuple #[pieceV (.slice none 0 0) 0 0 false, .bool false]) (by simp [results, Try.results22, go_sem, d0, d1, d2, d3, dl, df]) rfl (.inl ⟨rfl, rfl, so_close HC.out H3.out⟩)
  · subst h0
    obtain ⟨hq, hrd, _⟩ := firstR_some hf
    obtain ⟨fi, fw, fa, fe⟩ := f
    simp only at hw
    have hfb := ok.fl ⟨fi, fw, fa, fe⟩ (by rw [hq]; simp)
    have hwb := And.intro ok.w1 ok.w2
    simp only at hfb
    obtain ⟨k, hk⟩ : ∃ k, a.length = k := ⟨_, rfl⟩
    have HP : Hid (Rp W q (a.length : Int)) := .inr ⟨a, _, b, hf, rfl⟩
    rw [hk] at HP
    have hkq : k < q.length := by rw [hq]; simp; omega
    obtain ⟨n, hn⟩ : ∃ n, q.length = n := ⟨_, rfl⟩
    have hkn : (k : Int) < (n : Int) := by omega
    obtain ⟨g, o, c, rfl, _⟩ := see_v H1.out (by omega)
    have hc9 : ¬ cap < 9 := by omega
    have hc9' : ((9 : Nat) : Int) = 9 := rfl
    have hm := octs_max hrd (by omega) hx
    have hcp : ((cap.toNat : Nat) : Int) = cap := by omega
    rw [hcp] at hm
    simp only at hm
    obtain ⟨m, hmm⟩ : ∃ m, cap - 9 = m := ⟨_, rfl⟩
    have hmw : IntKind.i64.wrap (cap - 9) = m := (w64 (by omega) (by omega)).trans hmm
    rw [hmm] at hm
    have HM := Lib.hid hm
    have HQ := Lib.hid hq
    have HK := Lib.hid hk
    have HN := Lib.hid hn
    have HFB := Lib.hid (And.intro hfb hwb)
    clear hf ok hcap hk h9 hq hm hfb hx hwb hrd hmm hcp
    go_enter Try.func22, Try.ntmps22
    go_upto_region 1 with (fail)
    rw [HR.out]
    go_wp2_with (first
      | (go_at_call 29; (with_reducible refine (first_c H1.out HL.out _ HP.out).mono ?_); rintro e w3 ⟨rfl, s3⟩
         have H3 := Lib.hid s3
         obtain ⟨hl, z0, z1, z2, z3, _⟩ := see_s s3
         have sf := see_f s3 HQ.out
         rw [HK.out] at sf
         obtain ⟨gl, c0, c1, c2, c3, _⟩ := sf
         rw [HN.out] at z1
         clear s3)
      | (go_at_call 30; (with_reducible refine (most_c H3.out fi fa fw fe m _ HM.out).mono ?_); rintro e w4 ⟨rfl, s4⟩
         clear hl z0 z1 z2 z3 gl c0 c1 c2 c3
         have H4 := Lib.hid s4
         obtain ⟨hl, z0, z1, z2, z3, _⟩ := see_s s4
         have sf := see_f s4 HQ.out
         rw [HK.out] at sf
         obtain ⟨gl, c0, c1, c2, c3, _⟩ := sf
         rw [HN.out] at z1
         obtain ⟨dl, d0, d1, d2, d3, df⟩ := boxCells s4
         clear s4))
    have H5 := Lib.hid (box40 H4.out (.slice none 0 0) (.int .i64 0) (.int .i64 0) (.bool false))
    refine bodyPost_ret (v := .tuple #[pieceV (.slice none 0 0) 0 0 false, .bool false]) (by simp [results, Try.results22, go_sem, d0, d1, d2, d3, dl, df]) rfl (.inl ⟨rfl, rfl, so_close HC.out H5.out⟩)
  · obtain ⟨hq, hrd, _⟩ := firstR_some hf
    obtain ⟨fi, fw, fa, fe⟩ := f
    simp only at h0 hxw
    have hfb := ok.fl ⟨fi, fw, fa, fe⟩ (by rw [hq]; simp)
    have hwb := And.intro ok.w1 ok.w2
    simp only at hfb
    obtain ⟨k, hk⟩ : ∃ k, a.length = k := ⟨_, rfl⟩
    have HP : Hid (Rp W q (a.length : Int)) := .inr ⟨a, _, b, hf, rfl⟩
    rw [hk] at HP
    have hkq : k < q.length := by rw [hq]; simp; omega
    obtain ⟨n, hn⟩ : ∃ n, q.length = n := ⟨_, rfl⟩
    have hkn : (k : Int) < (n : Int) := by omega
    obtain ⟨g, o, c, rfl, _⟩ := see_v H1.out (by omega)
    have hc9 : ¬ cap < 9 := by omega
    have hc9' : ((9 : Nat) : Int) = 9 := rfl
    have hm := octs_max hrd (by omega) hx
    have hcp : ((cap.toNat : Nat) : Int) = cap := by omega
    rw [hcp] at hm
    simp only at hm
    obtain ⟨m, hmm⟩ : ∃ m, cap - 9 = m := ⟨_, rfl⟩
    have hmw : IntKind.i64.wrap (cap - 9) = m := (w64 (by omega) (by omega)).trans hmm
    rw [hmm] at hm
    have HM := Lib.hid hm
    have HQ := Lib.hid hq
    have HK := Lib.hid hk
    have HN := Lib.hid hn
    have HFB := Lib.hid (And.intro hfb hwb)
    obtain ⟨an, han⟩ : ∃ an, fa - x = an := ⟨_, rfl⟩
    obtain ⟨wx, hwx⟩ : ∃ wx, fw - (x : Int) = wx := ⟨_, rfl⟩
    have HS := Lib.hid (And.intro hxw (And.intro han hwx))
    have HRE := Lib.hid hre
    have hkey : (((x : Int) == 0) = false) ∨ (((x : Int) == 0) = true ∧ ¬ 0 < fa) := by
      rcases h0 with h | h
      · left; simp; omega
      · by_cases h2 : x = 0
        · exact .inr ⟨by simp; omega, by omega⟩
        · left; simp; omega
    clear hf ok hcap hk h9 hq hm hfb hx hwb hrd hmm hcp h0 hxw han hwx hre
    have hend : ∀ (e : Ending) (w' : World), ServeP S w0 p cv C (L ++ [BLo r 35 [.slice none 0 0, .int .i64 0, .int .i64 0, .bool false]]) F a b fi an fe wx (W - (x : Int)) x e w' → ∃ z qv' q', e = .returned (pieceV (.slice none 0 0) (fi : Int) (x : Int) z) ∧ St S w0 w' (SdL p cv qv' C q' (W - (x : Int)) F (L ++ [BLo r 35 [.slice none 0 0, .int .i64 0, .int .i64 0, .bool false]])) ∧
        (if fe = true ∧ fa - x = 0 then some (fi, x, true, a ++ b) else some (fi, x, false, a ++ b ++ [⟨fi, fw - (x : Nat), fa - x, fe⟩])) = some (fi, x, z, q') := by
      rintro e w' ⟨z, q', he, hz, qv', hs⟩
      refine ⟨z, qv', q', he, hs, ?_⟩
      obtain ⟨_, h2, h3⟩ := HS.out
      rw [h2, h3]
      rcases hz with ⟨h4, h5, rfl, rfl⟩ | ⟨h4, rfl, rfl⟩
      · rw [if_pos ⟨h4, h5⟩]
      · rw [if_neg h4]
    have HE := Lib.hid hend
    clear hend
    rcases hkey with hkey | ⟨hkey, hkey2⟩
    all_goals
      go_enter Try.func22, Try.ntmps22
      go_upto_region 1 with (fail)
      rw [HR.out]
      go_wp2_with (first
        | (go_at_call 29; (with_reducible refine (first_c H1.out HL.out _ HP.out).mono ?_); rintro e w3 ⟨rfl, s3⟩
           have H3 := Lib.hid s3
           obtain ⟨hl, z0, z1, z2, z3, _⟩ := see_s s3
           have sf := see_f s3 HQ.out
           rw [HK.out] at sf
           obtain ⟨gl, c0, c1, c2, c3, _⟩ := sf
           rw [HN.out] at z1
           clear s3)
        | (go_at_call 30; (with_reducible refine (most_c H3.out fi fa fw fe m _ HM.out).mono ?_); rintro e w4 ⟨rfl, s4⟩
           clear hl z0 z1 z2 z3 gl c0 c1 c2 c3
           have H4 := Lib.hid s4
           obtain ⟨hl, z0, z1, z2, z3, _⟩ := see_s s4
           have sf := see_f s4 HQ.out
           rw [HK.out] at sf
           obtain ⟨gl, c0, c1, c2, c3, _⟩ := sf
           rw [HN.out] at z1
           obtain ⟨dl, d0, d1, d2, d3, df⟩ := boxCells s4
           clear s4)
        | (go_at_call 31; (with_reducible refine (serve_c H4.out HL.out HQ.out k HK.out fi _ fw fe rfl _ HS.out.1 HFB.out.1.2.2.2.2 HFB.out.1.2.2.1 HFB.out.1.2.2.2.1 HFB.out.2.1 HFB.out.2.2 an wx _ HS.out.2.1 HS.out.2.2 rfl).mono ?_); rintro e w5 hsv
           obtain ⟨z, qv', q', rfl, s5, hq5⟩ := HE.out _ _ hsv
           clear hl z0 z1 z2 z3 gl c0 c1 c2 c3 dl d0 d1 d2 d3 df hsv
           have HQ5 := Lib.hid hq5
           obtain ⟨dl, d0, d1, d2, d3, df⟩ := boxCells s5
           have H6 := Lib.hid (fun x => box40 s5 (.slice none 0 0) (.int .i64 (fi : Int)) (.int .i64 x) (.bool z))
           clear s5 hq5))
      refine bodyPost_ret (v := .tuple #[pieceV (.slice none 0 0) (fi : Int) (x : Int) z, .bool true]) (by simp [results, Try.results22, go_sem, d0, d1, d2, d3, dl, df]) rfl (.inr ⟨_, _, _, _, HRE.out.trans HQ5.out, rfl, so_close HC.out (H6.out _)⟩)
end
end Go.Proofs.Ytbjjphpkpmikjaa
