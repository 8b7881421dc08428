/- Stage 12: Step of any frame; the law BlockBounds: the walk. -/
import Derived.Test.YtnflegdoeomhcaaVu
namespace Go.Proofs.Ytnflegdoeomhcaa
open Go.RowKit Go.Own Go.Frm
set_option linter.unusedVariables false
set_option linter.unusedSimpArgs false
set_option maxRecDepth 100000
/-- in what states an assembler of so many octets is; is it broken? -/
def BI (x : Nat) (br : Bool) (a : Asm) : Prop := (br = false ∧ (a = .idle x ∨ ∃ f k, a = .opened x f k ∧ f.pay.length ≤ x ∧ k ≤ 32)) ∨ (br = true ∧ ∃ c, a = .broken c)
theorem BI.len {x : Nat} {br : Bool} {a : Asm} (h : BI x br a) : a.f.pay.length ≤ x := by
  rcases h with ⟨_, rfl | ⟨f, k, rfl, h, _⟩⟩ | ⟨_, c, rfl⟩
  · exact Nat.zero_le _
  · exact h
  · exact Nat.zero_le _
def withE (f : Fm) : Fm := ⟨f.kind, f.stream, f.fin, true, f.ack, f.prio, f.pay, f.flags, f.pad, f.depend, f.excl, f.weight, f.code, f.list, f.last, f.inc⟩
theorem more_len (f : Fm) (ys : List UInt8) : (more f ys).pay.length = f.pay.length + ys.length := by show (f.pay ++ ys).length = _; rw [List.length_append]
theorem step_any {x : Nat} (hx : x ≤ 255) {br : Bool} {a : Asm} (hI : BI x br a) {w0 w : World} {L : List Ob} {p : Nat} (s : St (fun _ => False) w0 w (AO p a :: L)) {g : Fm} {A B : Option Addr} {c nl d : Nat}
    (hp : Rd w 1 A g.pay.length (g.pay.map BV)) (hl : Rd w 2 B nl (scells g.list)) (h1 : g.pay.length ≤ 1000000) (h2 : nl ≤ 1000000) (hA : 0 < g.pay.length → ∀ a, A = some a → a.block ≠ p) (hB : 0 < nl → ∀ a, B = some a → a.block ≠ p) :
    Calls Try.prog 10 #[.pointer (some ⟨p, 0, none⟩), .agg #[.int .i64 g.kind, .int .i64 g.stream, .bool g.fin, .bool g.eh, .bool g.ack, .bool g.prio, .slice A g.pay.length c, .int .i64 g.flags, .int .i64 g.pad, .int .i64 g.depend, .bool g.excl, .int .i64 g.weight, .int .u32 (g.code : Int), .slice B nl d, .int .i64 g.last, .int .i64 g.inc]] w fun e w' => ∃ (a' : Asm) (F : Fm) (P : Option Addr) (pc : Nat) (B' : Option Addr) (m d' : Nat) (ok fi : Bool) (fc : Int) (M : List Ob), e = .returned (.tuple #[.agg #[.int .i64 F.kind, .int .i64 F.stream, .bool F.fin, .bool F.eh, .bool F.ack, .bool F.prio, .slice P F.pay.length pc, .int .i64 F.flags, .int .i64 F.pad, .int .i64 F.depend, .bool F.excl, .int .i64 F.weight, .int .u32 (F.code : Int), .slice B' m d', .int .i64 F.last, .int .i64 F.inc], .bool ok, .agg #[.bool fi, .int .u32 fc, .int .i64 0]]) ∧ BI x (br || fi) a' ∧ (ok = true → (F.kind == 1) = true → F.pay.length ≤ x ∧ F.eh = true) ∧ (br = true → ok = false ∧ fi = true) ∧ St (fun _ => False) w0 w' (AO p a' :: M) := by
  have h3 : x ≤ 1000000 := by omega
  have zero : ∀ (a' : Asm) (fi : Bool) (fc : Int) (e : Ending) (w' : World), BI x (br || fi) a' → (br = true → fi = true) → e = .returned (.tuple #[.agg #[.int .i64 0, .int .i64 0, .bool false, .bool false, .bool false, .bool false, .slice none 0 0, .int .i64 0, .int .i64 0, .int .i64 0, .bool false, .int .i64 0, .int .u32 0, .slice none 0 0, .int .i64 0, .int .i64 0], .bool false, .agg #[.bool fi, .int .u32 fc, .int .i64 0]]) ∧ St (fun _ => False) w0 w' (AO p a' :: L) → ∃ (a' : Asm) (F : Fm) (P : Option Addr) (pc : Nat) (B' : Option Addr) (m d' : Nat) (ok fi : Bool) (fc : Int) (M : List Ob), e = .returned (.tuple #[.agg #[.int .i64 F.kind, .int .i64 F.stream, .bool F.fin, .bool F.eh, .bool F.ack, .bool F.prio, .slice P F.pay.length pc, .int .i64 F.flags, .int .i64 F.pad, .int .i64 F.depend, .bool F.excl, .int .i64 F.weight, .int .u32 (F.code : Int), .slice B' m d', .int .i64 F.last, .int .i64 F.inc], .bool ok, .agg #[.bool fi, .int .u32 fc, .int .i64 0]]) ∧ BI x (br || fi) a' ∧ (ok = true → (F.kind == 1) = true → F.pay.length ≤ x ∧ F.eh = true) ∧ (br = true → ok = false ∧ fi = true) ∧ St (fun _ => False) w0 w' (AO p a' :: M) := by
    rintro a' fi fc e w' hb hf ⟨rfl, k⟩
    exact ⟨a', zeroF, none, 0, none, 0, 0, false, fi, fc, L, rfl, hb, fun h => (by cases h), fun h => ⟨rfl, hf h⟩, k⟩
  rcases hI with ⟨rfl, rfl | ⟨f, k, rfl, hf, hk⟩⟩ | ⟨rfl, co, rfl⟩
  · -- no block is open
    cases y9 : (g.kind == 9) with
    | true => exact (step_stray s rfl rfl y9).mono fun e w' h => zero _ true 1 e w' (.inr ⟨rfl, _, rfl⟩) (fun h => by cases h) h
    | false =>
      cases y1 : (g.kind == 1) with
      | false =>
        refine (step_pass s rfl rfl y9 y1 hp hl h1 h2).mono ?_
        rintro e w' ⟨A1, c1, B1, d1, rfl, k⟩
        exact ⟨_, g, A1, c1, B1, nl, d1, true, false, 0, _, rfl, .inl ⟨rfl, .inl rfl⟩, fun _ h => (by rw [y1] at h; cases h), fun h => (by cases h), k⟩
      | true =>
        rcases Nat.lt_or_ge x g.pay.length with hz | hz
        · exact (hd_many s y9 y1 hp hl h1 h2 h3 hA hB hz).mono fun e w' h => zero _ true 11 e w' (.inr ⟨rfl, _, rfl⟩) (fun h => by cases h) h
        · cases he : g.eh with
          | false =>
            have := hd_no (c := c) (d := d) s y9 y1 hp hl h1 h2 h3 hA hB hz he
            rw [he] at this
            exact this.mono fun e w' h => zero _ false 0 e w' (.inl ⟨rfl, .inr ⟨_, _, rfl, hz, by omega⟩⟩) (fun h => by cases h) h
          | true =>
            have := hd_yes (c := c) (d := d) s y9 y1 hp hl h1 h2 h3 hA hB hz he
            rw [he] at this
            refine this.mono ?_
            rintro e w' ⟨A', c', B', n', d', rfl, k⟩
            exact ⟨_, withE g, A', c', B', n', d', true, false, 0, _, rfl, .inl ⟨rfl, .inl rfl⟩, fun _ _ => ⟨hz, rfl⟩, fun h => (by cases h), k⟩
  · -- one is
    have hfx : f.pay.length ≤ 1000000 := by omega
    cases y9 : (g.kind != 9) with
    | true => exact (co_kind s hp h1 hfx h3 hk hA y9).mono fun e w' h => zero _ true 1 e w' (.inr ⟨rfl, _, rfl⟩) (fun h => by cases h) h
    | false =>
      cases ys : (g.stream != f.stream) with
      | true => exact (co_stream s hp h1 hfx h3 hk hA y9 ys).mono fun e w' h => zero _ true 1 e w' (.inr ⟨rfl, _, rfl⟩) (fun h => by cases h) h
      | false =>
        rcases Nat.lt_or_ge k 32 with hk2 | hk2
        · have y3 : ((k : Int) == 32) = false := by rw [beq_eq_false_iff_ne]; omega
          cases hz : decide ((x : Int) - (f.pay.length : Int) < (g.pay.length : Int)) with
          | true => exact (co_long s hp h1 hfx h3 hk hA y9 ys y3 hz).mono fun e w' h => zero _ true 11 e w' (.inr ⟨rfl, _, rfl⟩) (fun h => by cases h) h
          | false =>
            have hz2 := of_decide_eq_false hz
            have hml := more_len f g.pay
            cases he : g.eh with
            | false =>
              have := co_no (c := c) (d := d) (B := B) (nl := nl) s hp h1 hfx h3 hk hA y9 ys y3 hz he _ rfl
              rw [he] at this
              exact this.mono fun e w' h => zero _ false 0 e w' (.inl ⟨rfl, .inr ⟨_, _, rfl, by omega, by omega⟩⟩) (fun h => by cases h) h
            | true =>
              have := co_yes (c := c) (d := d) (B := B) (nl := nl) s hp h1 hfx h3 hk hA y9 ys y3 hz he _ rfl
              rw [he] at this
              refine this.mono ?_
              rintro e w' ⟨A', c', B', n', d', rfl, k⟩
              exact ⟨_, withE (more f g.pay), A', c', B', n', d', true, false, 0, _, rfl, .inl ⟨rfl, .inl rfl⟩, fun _ _ => ⟨by show (more f g.pay).pay.length ≤ x; omega, rfl⟩, fun h => (by cases h), k⟩
        · have y3 : (k : Int) = 32 := by omega
          exact (co_many s hp h1 hfx h3 hk hA y9 ys y3).mono fun e w' h => zero _ true 11 e w' (.inr ⟨rfl, _, rfl⟩) (fun h => by cases h) h
  · -- it is broken
    exact (step_broken s).mono fun e w' h => zero _ true (co : Int) e w' (.inr ⟨rfl, _, rfl⟩) (fun _ => rfl) h
theorem slo_new0 {w w' : World} {b : Nat} {e : TypeId} {size n c : Nat} {A : Option Addr} {xs : List Value} {L : List Ob} (s : St (fun _ => False) w w' (SLo b e size (.slice A n c) n xs :: L)) : ∀ a, A = some a → w.heap.size ≤ a.block := fun a ha => by
  obtain ⟨F, ⟨_, rfl⟩, _, h, _⟩ := s.focus0
  exact (h a.block (by rw [ha]; rfl)).resolve_left (fun h => h)
theorem slo_new1 {w w' : World} {b : Nat} {e : TypeId} {size n c : Nat} {A : Option Addr} {xs : List Value} {O : Ob} {L : List Ob} (s : St (fun _ => False) w w' (O :: SLo b e size (.slice A n c) n xs :: L)) : ∀ a, A = some a → w.heap.size ≤ a.block := fun a ha => by
  obtain ⟨F, ⟨_, rfl⟩, _, h, _⟩ := s.focus1
  exact (h a.block (by rw [ha]; rfl)).resolve_left (fun h => h)
theorem and_bd13 (z : Int) (m : Nat) (hm : m < 9223372036854775808) (M : Int) (hM : M = (m : Int)) : ∃ x : Nat, bits .and .i64 z M = (x : Int) ∧ x ≤ m := by
  subst hM
  have e : bits .and .i64 z (m : Int) = IntKind.i64.wrap ((BitVec.ofInt 64 z &&& BitVec.ofInt 64 (m : Int)).toNat : Int) := rfl
  have h := @Nat.and_le_right (BitVec.ofInt 64 z).toNat m
  rw [e, BitVec.toNat_and, IntKind.wrap_i64]
  have h2 : (BitVec.ofInt 64 (m : Int)).toNat = m := by simp; omega
  rw [h2]
  refine ⟨((BitVec.ofInt 64 z).toNat &&& m), ?_, h⟩
  omega
set_option maxHeartbeats 16000000 in
theorem lawBounds {w0 : World} (most : Int) {A : Option Addr} {n c : Nat} (h : HoldsT Try.prog w0 9 38 [.slice A n c]) :
    Calls Try.prog 4 #[.int .i64 most, .slice A n c] w0 fun e w' => e = .returned (.bool true) ∧ Below w0.heap.size w0 w' := by
  obtain ⟨x, hx, hx255⟩ := and_bd13 most 255 (by decide) 255 rfl
  have hm : Hid ((x : Int) = max (x : Int) 0) := by unfold Hid; omega
  have HX := Lib.hid hx255
  have HH := Lib.hid h
  have hncx : n ≤ c := (HoldsT.slice (d := 8) Try.underlying38 h).1
  obtain ⟨N, hN⟩ : ∃ N, min n 200 = N := ⟨_, rfl⟩
  clear h
  go_enter Try.func4, Try.ntmps4
  go_wp2_with (first
    | (go_at_call 8; (with_reducible refine (shown_c _).mono ?_); rintro e w1 ⟨rfl, hb1⟩
       have HB1 := Lib.hid hb1
       clear hb1)
    | (go_at_call 9; (with_reducible refine (new_c _ x hm.out).mono ?_); rintro e w2 ⟨p, rfl, t2⟩
       have t2' : St (fun _ => False) w0 w2 [AO p (.idle x)] := t2.before (Fr.of_below (S := fun _ => False) HB1.out (fun i h1 h2 => absurd h2 (by omega)))
       have T2 := Lib.hid t2'
       clear t2 t2'))
  go_loopg [8, 7] N (fun gh i bv w => ∃ (k : Nat) (br : Bool) (a : Asm) (M : List Ob), gh + k = N ∧ i = .int .i64 (k : Int) ∧ bv = .bool br ∧ Hid (BI x br a) ∧ Hid (St (fun _ => False) w0 w (AO p a :: M)))
  case atStart => exact ⟨0, false, _, [], by omega, rfl, rfl, .inl ⟨rfl, .inl rfl⟩, T2.out⟩
  case round =>
    obtain ⟨k, br, a, M, hgk, rfl, rfl, HI, HS⟩ := hrel
    clear T2 hm
    cases gk with
    | zero =>
      obtain rfl : k = N := by omega
      have hend : ¬ k < n ∨ (k < n ∧ ¬ k < 200) := by omega
      clear hN hgk
      rcases hend with h1 | ⟨h1, h2⟩
      all_goals
        go_wp2
        go_ret
        exact ⟨rfl, HS.out.below⟩
    | succ g1 =>
      have hkn : k < n := by omega
      have hk1 : (k : Int) < 200 := by omega
      have hk2 : (k : Int) < (n : Int) := by omega
      have e2 : IntKind.i64.wrap ((k : Int) + 1) = (k : Int) + 1 := by rw [IntKind.wrap_i64]; omega
      have HG : Hid (g1 + (k + 1) = N) := by unfold Hid; omega
      obtain ⟨b, o, f, P, pc, B, lc, rfl, hc, hp, hp1, hp2, hl, hl1, hl2, _⟩ := frames_at HH.out hkn
      have HP1 := Lib.hid (HS.out.rd hp (fun _ _ h => h))
      have HL1 := Lib.hid (HS.out.rd hl (fun _ _ h => h))
      have HC : Hid (f.pay.length ≤ pc ∧ pc ≤ 140737488351232 ∧ f.list.length ≤ lc ∧ lc ≤ 140737488351232) := ⟨hp1, hp2, hl1, hl2⟩
      obtain ⟨g, hg⟩ : ∃ g, smF f 300 = g := ⟨_, rfl⟩
      have hle := sm_le f
      rw [hg] at hle
      have HLE : Hid (g.pay.length ≤ 1000000 ∧ g.list.length ≤ 1000000) := ⟨by omega, by omega⟩
      have HGe := Lib.hid hg
      have hfa : Fat w0 b o k f P pc B lc := ⟨hc⟩
      have fa := hfa.below HS.out.below
      obtain ⟨fl, f0, f1, f2, f3, f4, f5, f6, f7, f8, f9, f10, f11, f12, f13, f14, f15⟩ := fa.all
      clear hc hp hp1 hp2 hl hl1 hl2 hg hle fa hgk hN hfa
      go_upto_region 11 with (first
        | (go_at_call 11; (with_reducible refine (own_g f HP1.out HL1.out HC.out.1 HC.out.2.2.1 HC.out.2.1 HC.out.2.2.2 g HGe.out).mono ?_); rintro e w3 ⟨A1, c1, B1, d1, rfl, h3⟩
           have hpl := blk_ne HS.out
           have HPA := Lib.hid (Rd.of_own (St.own0 h3))
           have HLA := Lib.hid (Rd.of_own (St.own1 h3))
           have HA1 : Hid (0 < g.pay.length → ∀ a, A1 = some a → a.block ≠ p) := fun _ a ha e => by have := slo_new0 h3 a ha; omega
           have HB1' : Hid (0 < g.list.length → ∀ a, B1 = some a → a.block ≠ p) := fun _ a ha e => by have := slo_new1 h3 a ha; omega
           have T3 := Lib.hid (HS.out.next h3.below)
           clear h3 hpl fl f0 f1 f2 f3 f4 f5 f6 f7 f8 f9 f10 f11 f12 f13 f14 f15)
        | (go_at_call 10; (with_reducible refine (step_any HX.out HI.out T3.out HPA.out HLA.out HLE.out.1 HLE.out.2 HA1.out HB1'.out).mono ?_); rintro e w5 ⟨a', F, P2, pc2, B2, m2, d2, ok, fi, fc, M', rfl, hI', hok, hbr, t5⟩
           have T5 := Lib.hid t5
           have HI' := Lib.hid hI'
           have HOK := Lib.hid hok
           have HBR := Lib.hid hbr
           clear t5 hI' hok hbr))
      obtain ⟨q, hq⟩ : ∃ q, w5.heap.size = q := ⟨_, rfl⟩
      obtain ⟨W6, hW6⟩ : ∃ W6, (w5.alloc (.cells #[.int .i64 F.kind, .int .i64 F.stream, .bool F.fin, .bool F.eh, .bool F.ack, .bool F.prio, .slice P2 F.pay.length pc2, .int .i64 F.flags, .int .i64 F.pad, .int .i64 F.depend, .bool F.excl, .int .i64 F.weight, .int .u32 (F.code : Int), .slice B2 m2 d2, .int .i64 F.last, .int .i64 F.inc] 32)).alloc (.cells #[.bool fi, .int .u32 fc, .int .i64 0] 34) = W6 := ⟨_, rfl⟩
      have t6 := two_gen T5.out [.int .i64 F.kind, .int .i64 F.stream, .bool F.fin, .bool F.eh, .bool F.ack, .bool F.prio, .slice P2 F.pay.length pc2, .int .i64 F.flags, .int .i64 F.pad, .int .i64 F.depend, .bool F.excl, .int .i64 F.weight, .int .u32 (F.code : Int), .slice B2 m2 d2, .int .i64 F.last, .int .i64 F.inc] [.bool fi, .int .u32 fc, .int .i64 0] W6 hW6
      rw [hq] at t6
      rw [hW6, hq]
      have T6 : Hid (St (fun _ => False) w0 W6 ((AO p a' :: M') ++ [BLo q 32 [.int .i64 F.kind, .int .i64 F.stream, .bool F.fin, .bool F.eh, .bool F.ack, .bool F.prio, .slice P2 F.pay.length pc2, .int .i64 F.flags, .int .i64 F.pad, .int .i64 F.depend, .bool F.excl, .int .i64 F.weight, .int .u32 (F.code : Int), .slice B2 m2 d2, .int .i64 F.last, .int .i64 F.inc], BLo (q + 1) 34 [.bool fi, .int .u32 fc, .int .i64 0]])) := t6
      have hb1 := St.blk (AO p a' :: M') _ T6.out
      have hb2 := St.blk ((AO p a' :: M') ++ [BLo q 32 [.int .i64 F.kind, .int .i64 F.stream, .bool F.fin, .bool F.eh, .bool F.ack, .bool F.prio, .slice P2 F.pay.length pc2, .int .i64 F.flags, .int .i64 F.pad, .int .i64 F.depend, .bool F.excl, .int .i64 F.weight, .int .u32 (F.code : Int), .slice B2 m2 d2, .int .i64 F.last, .int .i64 F.inc]]) [] (by rw [List.append_assoc]; exact T6.out)
      obtain ⟨x0, x1, x2, x3, x4, x5, x6, x7, x8, x9, x10, x11, x12, x13, x14, x15⟩ := cells16v hb1
      have xl := hb1.lt
      obtain ⟨y0, y1, y2⟩ := cells3v hb2
      have yl := hb2.lt
      obtain ⟨y, hy⟩ : ∃ y, a'.f.pay.length = y := ⟨_, rfl⟩
      have hyx := HI'.out.len
      rw [hy] at hyx
      have HLn : Hid (Calls Try.prog 12 #[.pointer (some ⟨p, 0, none⟩)] W6 fun e w' => e = .returned (.int .i64 (y : Int)) ∧ w' = W6) := by
        have := len_c (L := M' ++ _) T6.out
        rw [hy] at this
        exact this
      have l1 : ¬ (x : Int) < (y : Int) := by omega
      have l2 : ¬ (y : Int) < 0 := by omega
      have l3 : (y : Int) ≤ (x : Int) := by omega
      obtain ⟨ln, hln⟩ : ∃ ln, F.pay.length = ln := ⟨_, rfl⟩
      rw [hln] at x6
      obtain ⟨z, hz⟩ : ∃ z, (F.kind == 1) = z := ⟨_, rfl⟩
      have hok := HOK.out
      rw [hln, hz] at hok
      have hbr := HBR.out
      have HE : Hid (∀ q r, g1 + (k + 1) = N ∧ (Value.int IntKind.i64 q = .int .i64 r → True)) := fun q r => ⟨HG.out, fun _ => trivial⟩
      clear HE t6 hW6 hq T5 hb1 hb2 x1 x2 x4 x5 x7 x8 x9 x10 x11 x12 x13 x14 x15 y1 y2 hy hyx hln HOK HBR HP1 HL1 T3 HPA HLA HA1 HB1' HI HS
      have ways : (ok = false ∧ br = false) ∨ (ok = false ∧ br = true ∧ fi = true) ∨ (ok = true ∧ br = false ∧ z = false) ∨ (ok = true ∧ br = false ∧ z = true ∧ F.eh = true ∧ ln ≤ x) := by
        cases br with
        | true => exact .inr (.inl ⟨(hbr rfl).1, rfl, (hbr rfl).2⟩)
        | false =>
          cases ok with
          | false => exact .inl ⟨rfl, rfl⟩
          | true =>
            cases z with
            | false => exact .inr (.inr (.inl ⟨rfl, rfl, rfl⟩))
            | true => exact .inr (.inr (.inr ⟨rfl, rfl, rfl, (hok rfl rfl).2, (hok rfl rfl).1⟩))
      clear hok hbr
      rcases ways with ⟨rfl, rfl⟩ | ⟨rfl, rfl, rfl⟩ | ⟨rfl, rfl, rfl⟩ | ⟨rfl, rfl, rfl, he, hlx⟩
      all_goals
        try rw [he] at x3
        try have hlx2 : ¬ (x : Int) < (ln : Int) := by omega
        as_aux_lemma =>
        go_wp2_with (first
          | (go_at_call 12; (with_reducible refine HLn.out.mono ?_); rintro e w10 ⟨rfl, hw⟩; subst hw))
        go_roundg g1
        case measure => omega
        case rel => exact ⟨k + 1, _, _, _, HG.out, by go_num, by first | rfl | simp, HI'.out, T6.out⟩
theorem lawBoundsH {w : World} (most : Int) {A : Option Addr} {n c : Nat} (h : HoldsT Try.prog w 9 38 [.slice A n c]) : Calls Try.prog 4 #[.int .i64 most, .slice A n c] w fun e w' => e = .returned (.bool true) ∧ Below w.heap.size w w' := lawBounds most h
end Go.Proofs.Ytnflegdoeomhcaa
