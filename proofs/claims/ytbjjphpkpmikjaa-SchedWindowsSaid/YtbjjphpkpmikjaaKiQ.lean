/- Stage 11: what may be sent: the program's Next. -/
import Derived.Test.YtbjjphpkpmikjaaKiP
namespace Go.Proofs.Ytbjjphpkpmikjaa
open Go.RowKit Go.Own Go.Sch
set_option linter.unusedVariables false
set_option linter.unusedSimpArgs false
set_option maxRecDepth 100000
section
variable {S : Nat → Prop} {w0 w : World} {L : List Ob} {p : Nat} {fs : List (List UInt8)} {q : List Fl} {W : Int} {F : Nat} {cv qv cv0 qv0 : Value} {C : List (Value × List UInt8)} {r : Nat} {t : TypeId} {cs : List Value}
theorem box4s {X O : List Ob} {a b c d : Value} (s : St S w0 w (X ++ BLo r t [a, b, c, d] :: O)) (a' b' c' d' : Value) :
    St S w0 ((((w.setCell ⟨r, 0, none⟩ a').setCell ⟨r, 1, none⟩ b').setCell ⟨r, 2, none⟩ c').setCell ⟨r, 3, none⟩ d') (X ++ O) :=
  St.drop _ _ _ (St.set_ _ _ (St.set_ _ _ (St.set_ _ _ (St.set_ _ _ s 0 a') 1 b') 2 c') 3 d')
def Seen (r : Nat) (w : World) : Prop := r < w.heap.size ∧ (∃ a, w.cell? ⟨r, 0, none⟩ = some a) ∧ (∃ a, w.cell? ⟨r, 1, none⟩ = some a) ∧ (∃ a, w.cell? ⟨r, 2, none⟩ = some a) ∧ (∃ a, w.cell? ⟨r, 3, none⟩ = some a) ∧ ∀ i, w.frozen? ⟨r, i, none⟩ = false
theorem seen_of {a b c d : Value} (h : Blk w r t [a, b, c, d]) : Seen r w := ⟨h.lt, ⟨_, h.cell 0⟩, ⟨_, h.cell 1⟩, ⟨_, h.cell 2⟩, ⟨_, h.cell 3⟩, h.frozen⟩
theorem liftD {res : Option (Nat × Nat × Bool × List Fl)} {e : Ending} (h : NextD S w0 p fs (L ++ [BLo r t zp]) q W F res e w) :
    ∃ (A : Option Addr) (m d : Nat) (i n : Int) (z b : Bool), e = .returned (.tuple #[pieceV (.slice A m d) i n z, .bool b]) ∧ Seen r w ∧ NextD S w0 p fs L q W F res e ((((w.setCell ⟨r, 0, none⟩ (.slice A m d)).setCell ⟨r, 1, none⟩ (.int .i64 i)).setCell ⟨r, 2, none⟩ (.int .i64 n)).setCell ⟨r, 3, none⟩ (.bool z)) := by
  rcases h with ⟨hr, he, hs⟩ | ⟨id, n, z, q', hr, he, hs⟩
  · have s' : St S w0 w ((SO p fs q W F :: L) ++ BLo r t zp :: []) := hs
    refine ⟨none, 0, 0, 0, 0, false, false, he, seen_of (St.blk _ _ s'), .inl ⟨hr, he, ?_⟩⟩
    have := box4s s' (.slice none 0 0) (.int .i64 0) (.int .i64 0) (.bool false)
    rwa [List.append_nil] at this
  · have s' : St S w0 w ((SO p fs q' (W - (n : Int)) F :: L) ++ BLo r t zp :: []) := hs
    refine ⟨none, 0, 0, _, _, z, true, he, seen_of (St.blk _ _ s'), .inr ⟨id, n, z, q', hr, he, ?_⟩⟩
    have := box4s s' (.slice none 0 0) (.int .i64 (id : Int)) (.int .i64 (n : Int)) (.bool z)
    rwa [List.append_nil] at this
theorem liftC {xs : List UInt8} {cap : Int} {e : Ending} (h : NextC S w0 p xs fs (L ++ [BLo r t zp]) q W F cap e w) :
    ∃ (A : Option Addr) (m d : Nat) (i n : Int) (z b : Bool), e = .returned (.tuple #[pieceV (.slice A m d) i n z, .bool b]) ∧ Seen r w ∧ NextC S w0 p xs fs L q W F cap e ((((w.setCell ⟨r, 0, none⟩ (.slice A m d)).setCell ⟨r, 1, none⟩ (.int .i64 i)).setCell ⟨r, 2, none⟩ (.int .i64 n)).setCell ⟨r, 3, none⟩ (.bool z)) := by
  rcases h with ⟨hr, he, hs⟩ | ⟨hr, A, d, he, hs⟩
  · have s' : St S w0 w ((SO p (xs :: fs) q W F :: L) ++ BLo r t zp :: []) := hs
    refine ⟨none, 0, 0, 0, 0, false, false, he, seen_of (St.blk _ _ s'), .inl ⟨hr, he, ?_⟩⟩
    have := box4s s' (.slice none 0 0) (.int .i64 0) (.int .i64 0) (.bool false)
    rwa [List.append_nil] at this
  · have s' : St S w0 w ((SO p fs q W F :: L) ++ BLo r t zp :: [SLo 0 5 1 (.slice A xs.length d) xs.length (xs.map BV)]) := by
      have e : (L ++ [BLo r t zp] ++ [SLo 0 5 1 (.slice A xs.length d) xs.length (xs.map BV)]) = L ++ BLo r t zp :: [SLo 0 5 1 (.slice A xs.length d) xs.length (xs.map BV)] := by simp
      rw [e] at hs
      exact hs
    refine ⟨A, xs.length, d, 0, 0, false, true, he, seen_of (St.blk _ _ s'), .inr ⟨hr, A, d, he, ?_⟩⟩
    exact box4s s' (.slice A xs.length d) (.int .i64 0) (.int .i64 0) (.bool false)
set_option maxHeartbeats 8000000 in
theorem next_D (s : St S w0 w (SO p [] q W F :: L)) (ok : SdOk q W F) (cap : Int) (hcap : -9223372036854775808 ≤ cap ∧ cap ≤ 9223372036854775807) (res : Option (Nat × Nat × Bool × List Fl)) (hres : nextQ W F cap.toNat q = res) :
    Calls Try.prog 11 #[.pointer (some ⟨p, 0, none⟩), .int .i64 cap] w (NextD S w0 p [] L q W F res) := by
  obtain ⟨cv, qv, C, hC, s⟩ := so_open s
  obtain rfl : C = [] := by cases C with | nil => rfl | cons x C => cases hC
  obtain ⟨hl, z0, z1, z2, z3, _⟩ := see_s s
  obtain ⟨A, c, rfl, _⟩ := see_c s
  obtain ⟨r, hr⟩ : ∃ r, w.heap.size = r := ⟨_, rfl⟩
  have s1 : St S w0 (w.alloc (.cells #[.slice none 0 0, .int .i64 0, .int .i64 0, .bool false] 35)) (SdL p (.slice A 0 c) qv [] q W F (L ++ [BLo r 35 [.slice none 0 0, .int .i64 0, .int .i64 0, .bool false]])) := by
    have h1 := boxNew s 35 [.slice none 0 0, .int .i64 0, .int .i64 0, .bool false]
    rw [hr] at h1
    exact h1
  have HT := Lib.hid (nextD_c (fs := []) rfl s1 ok cap hcap res hres)
  have HR := Lib.hid hr
  clear s s1 hr ok hcap hres hC
  go_enter Try.func11, Try.ntmps11
  go_upto_region 1 with (fail)
  rw [HR.out]
  go_wp2_with (first
    | (go_at_call 22; (with_reducible refine HT.out.mono ?_); rintro e w3 h3
       obtain ⟨B, m, d, i, n, z, b, rfl, hsn, h4⟩ := liftD h3
       obtain ⟨dl, ⟨a0, d0⟩, ⟨a1, d1⟩, ⟨a2, d2⟩, ⟨a3, d3⟩, df⟩ := hsn
       have H4 := Lib.hid h4
       clear h3 h4))
  refine bodyPost_ret (v := .tuple #[pieceV (.slice B m d) i n z, .bool b]) (by simp [results, Try.results11, go_sem, d0, d1, d2, d3, dl, df]) rfl H4.out
set_option maxHeartbeats 8000000 in
theorem next_C {xs : List UInt8} (s : St S w0 w (SO p (xs :: fs) q W F :: L)) (cap : Int) :
    Calls Try.prog 11 #[.pointer (some ⟨p, 0, none⟩), .int .i64 cap] w (NextC S w0 p xs fs L q W F cap) := by
  obtain ⟨cv, qv, C, hC, s⟩ := so_open s
  obtain ⟨hl, z0, z1, z2, z3, _⟩ := see_s s
  obtain ⟨A, c, rfl, _⟩ := see_c s
  obtain ⟨n0, hn0⟩ : ∃ n0, C.length = n0 + 1 := by
    cases C with
    | nil => cases hC
    | cons x C => exact ⟨_, rfl⟩
  obtain ⟨r, hr⟩ : ∃ r, w.heap.size = r := ⟨_, rfl⟩
  have s1 : St S w0 (w.alloc (.cells #[.slice none 0 0, .int .i64 0, .int .i64 0, .bool false] 35)) (SdL p (.slice A C.length c) qv C q W F (L ++ [BLo r 35 [.slice none 0 0, .int .i64 0, .int .i64 0, .bool false]])) := by
    have h1 := boxNew s 35 [.slice none 0 0, .int .i64 0, .int .i64 0, .bool false]
    rw [hr] at h1
    exact h1
  have HT := Lib.hid (nextC_c hC s1 cap)
  have HR := Lib.hid hr
  rw [hn0] at z0
  clear s s1 hr hC hn0
  have hn : (0 : Int) < (n0 : Int) + 1 := by omega
  go_enter Try.func11, Try.ntmps11
  go_upto_region 1 with (fail)
  rw [HR.out]
  go_wp2_with (first
    | (go_at_call 21; (with_reducible refine HT.out.mono ?_); rintro e w3 h3
       obtain ⟨B, m, d, i, n, z, b, rfl, hsn, h4⟩ := liftC h3
       obtain ⟨dl, ⟨a0, d0⟩, ⟨a1, d1⟩, ⟨a2, d2⟩, ⟨a3, d3⟩, df⟩ := hsn
       have H4 := Lib.hid h4
       clear h3 h4))
  refine bodyPost_ret (v := .tuple #[pieceV (.slice B m d) i n z, .bool b]) (by simp [results, Try.results11, go_sem, d0, d1, d2, d3, dl, df]) rfl H4.out
/-! the same, each way told apart -/
theorem next_none (s : St S w0 w (SO p [] q W F :: L)) (ok : SdOk q W F) (cap : Int) (hcap : -9223372036854775808 ≤ cap ∧ cap ≤ 9223372036854775807) (hres : nextQ W F cap.toNat q = none) :
    Calls Try.prog 11 #[.pointer (some ⟨p, 0, none⟩), .int .i64 cap] w fun e w' => e = .returned (.tuple #[pieceV (.slice none 0 0) 0 0 false, .bool false]) ∧ St S w0 w' (SO p [] q W F :: L) :=
  (next_D s ok cap hcap none hres).mono fun e w' h => by
    rcases h with ⟨_, he, hs⟩ | ⟨_, _, _, _, h, _⟩
    · exact ⟨he, hs⟩
    · cases h
theorem next_some (s : St S w0 w (SO p [] q W F :: L)) (ok : SdOk q W F) (cap : Int) (hcap : -9223372036854775808 ≤ cap ∧ cap ≤ 9223372036854775807) (id n : Nat) (z : Bool) (q' : List Fl) (hres : nextQ W F cap.toNat q = some (id, n, z, q')) (W' : Int) (hW : W - (n : Int) = W') :
    Calls Try.prog 11 #[.pointer (some ⟨p, 0, none⟩), .int .i64 cap] w fun e w' => e = .returned (.tuple #[pieceV (.slice none 0 0) (id : Int) (n : Int) z, .bool true]) ∧ St S w0 w' (SO p [] q' W' F :: L) :=
  (next_D s ok cap hcap _ hres).mono fun e w' h => by
    rcases h with ⟨h, _⟩ | ⟨_, _, _, _, h, he, hs⟩
    · cases h
    · simp only [Option.some.injEq, Prod.mk.injEq] at h
      obtain ⟨rfl, rfl, rfl, rfl⟩ := h
      rw [hW] at hs
      exact ⟨he, hs⟩
theorem next_cno {xs : List UInt8} (s : St S w0 w (SO p (xs :: fs) q W F :: L)) (cap : Int) (h : cap < (xs.length : Int)) :
    Calls Try.prog 11 #[.pointer (some ⟨p, 0, none⟩), .int .i64 cap] w fun e w' => e = .returned (.tuple #[pieceV (.slice none 0 0) 0 0 false, .bool false]) ∧ St S w0 w' (SO p (xs :: fs) q W F :: L) :=
  (next_C s cap).mono fun e w' h => by
    rcases h with ⟨_, he, hs⟩ | ⟨h2, _⟩
    · exact ⟨he, hs⟩
    · omega
theorem next_cyes {xs : List UInt8} (s : St S w0 w (SO p (xs :: fs) q W F :: L)) (cap : Int) (h : (xs.length : Int) ≤ cap) (n : Nat) (hn : xs.length = n) :
    Calls Try.prog 11 #[.pointer (some ⟨p, 0, none⟩), .int .i64 cap] w fun e w' => ∃ A d, e = .returned (.tuple #[pieceV (.slice A n d) 0 0 false, .bool true]) ∧ St S w0 w' (SO p fs q W F :: (L ++ [SLo 0 5 1 (.slice A n d) n (xs.map BV)])) := by
  subst hn
  exact (next_C s cap).mono fun e w' h => by
    rcases h with ⟨h2, _⟩ | ⟨_, A, d, he, hs⟩
    · omega
    · exact ⟨A, d, he, hs⟩
/-! what may be in the queue, behind each call -/
theorem SdOk.next {cap id n : Nat} {z : Bool} {q' : List Fl} (h : SdOk q W F) (hr : nextQ W F cap q = some (id, n, z, q')) (hW : -2147483647 ≤ W - (n : Int)) : SdOk q' (W - (n : Int)) F := by
  obtain ⟨a, f, b, h1, h2, h3, h4, h5, h6, h7, h8, h9, h10⟩ := nextQ_some (by have := h.f1; omega) hr
  have hf := h.fl f (by rw [h1]; simp)
  have hfl : ∀ g ∈ a ++ b, 1 ≤ g.id ∧ g.id ≤ 2147483647 ∧ -2147483647 ≤ g.win ∧ g.win ≤ 2147483647 ∧ g.wait ≤ 2147483647 := fun g hg => h.fl g (by rw [h1]; simp at hg ⊢; rcases hg with hg | hg; exact .inl hg; exact .inr (.inr hg))
  have hlen := h.len
  rw [h1] at hlen
  simp only [List.length_append, List.length_cons] at hlen
  refine ⟨fun g hg => ?_, ?_, hW, by have := h.w2; omega, h.f1, h.f2⟩
  · rcases h10 with ⟨_, _, _, rfl⟩ | ⟨_, _, rfl⟩
    · exact hfl g hg
    · rcases List.mem_append.1 hg with hg | hg
      · exact hfl g hg
      · rw [List.mem_singleton.1 hg]
        refine ⟨hf.1, hf.2.1, ?_, by show f.win - (n : Int) ≤ _; omega, by show f.wait - n ≤ _; omega⟩
        show -2147483647 ≤ f.win - (n : Int)
        rcases Nat.eq_zero_or_pos n with h0 | h0
        · omega
        · have := (h9 h0).1; omega
  · rcases h10 with ⟨_, _, _, rfl⟩ | ⟨_, _, rfl⟩
    · rw [List.length_append]; omega
    · simp only [List.length_append, List.length_cons, List.length_nil]; omega
end
end Go.Proofs.Ytbjjphpkpmikjaa
