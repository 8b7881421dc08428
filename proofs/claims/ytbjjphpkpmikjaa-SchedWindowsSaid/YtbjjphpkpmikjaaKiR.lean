/- Stage 11: what each law looks at first: shown. -/
import Derived.Test.YtbjjphpkpmikjaaKiQ
import Derived.Lib.SlBytesConst
namespace Go.Proofs.Ytbjjphpkpmikjaa
open Go.RowKit Go.Own Go.Sch
set_option linter.unusedVariables false
set_option linter.unusedSimpArgs false
set_option maxRecDepth 100000
section
variable {S : Nat → Prop} {w0 w : World} {L : List Ob} {p : Nat} {fs : List (List UInt8)} {q : List Fl} {W : Int} {F : Nat}
theorem openI (s : St S w0 w (SO p fs q W F :: L)) (hb : q.length < 1000) (id : Nat) (idI m : Int) (hid : (id : Int) = idI) (h1 : 1 ≤ id) (h2 : id ≤ 2147483647) (h3 : -2147483647 ≤ m) (h4 : m ≤ 2147483647) (hn : ∀ f ∈ q, f.id ≠ id) (q' : List Fl) (hq : q ++ [⟨id, m, 0, false⟩] = q') :
    Calls Try.prog 14 #[.pointer (some ⟨p, 0, none⟩), .int .i64 idI, .int .i64 m] w fun e w' => e = .returned (.int .i64 0) ∧ St S w0 w' (SO p fs q' W F :: L) := by
  subst hid hq
  exact openS_ok s hb id m h1 h2 h3 h4 hn
theorem putI (s : St S w0 w (SO p fs q W F :: L)) (hb : q.length ≤ 1000) (id : Int) {a b : List Fl} {f : Fl} (hq : q = a ++ f :: b) (hid : (f.id : Int) = id) (hn : ∀ g ∈ a, (g.id : Int) ≠ id) (m : Nat) (mI : Int) (hm : (m : Int) = mI) (e : Bool) (he : f.en = false) (h1 : f.wait + m ≤ 2147483647) (q' : List Fl) (hq' : a ++ ⟨f.id, f.win, f.wait + m, e⟩ :: b = q') :
    Calls Try.prog 15 #[.pointer (some ⟨p, 0, none⟩), .int .i64 id, .int .i64 mI, .bool e] w fun r w' => r = .returned (.int .i64 0) ∧ St S w0 w' (SO p fs q' W F :: L) := by
  subst hm hq'
  exact putS_ok s hb id hq hid hn m e he h1
theorem nextI (s : St S w0 w (SO p [] q W F :: L)) (ok : SdOk q W F) (cap : Int) (hcap : -9223372036854775808 ≤ cap ∧ cap ≤ 9223372036854775807) (id n : Nat) (z : Bool) (q' : List Fl) (hres : nextQ W F cap.toNat q = some (id, n, z, q')) (W' : Int) (hW : W - (n : Int) = W') (i x : Int) (hi : (id : Int) = i) (hx : (n : Int) = x) :
    Calls Try.prog 11 #[.pointer (some ⟨p, 0, none⟩), .int .i64 cap] w fun e w' => e = .returned (.tuple #[pieceV (.slice none 0 0) i x z, .bool true]) ∧ St S w0 w' (SO p [] q' W' F :: L) := by
  subst hi hx
  exact next_some s ok cap hcap id n z q' hres W' hW
theorem ok_lit {q : List Fl} {W : Int} {F : Nat} (h : (q.all fun f => decide (1 ≤ f.id ∧ f.id ≤ 2147483647 ∧ -2147483647 ≤ f.win ∧ f.win ≤ 2147483647 ∧ f.wait ≤ 2147483647)) = true) (hl : q.length ≤ 1000) (h1 : -2147483647 ≤ W) (h2 : W ≤ 2147483647) (h3 : 1 ≤ F) (h4 : F ≤ 16777215) : SdOk q W F :=
  ⟨fun f hf => by have := List.all_eq_true.1 h f hf; simpa using this, hl, h1, h2, h3, h4⟩
end
def qa : List Fl := [⟨1, 100, 0, false⟩]
def qb : List Fl := [⟨1, 100, 0, false⟩, ⟨3, 100, 0, false⟩]
def qc : List Fl := [⟨1, 100, 15, true⟩, ⟨3, 100, 0, false⟩]
def qd : List Fl := [⟨1, 100, 15, true⟩, ⟨3, 100, 5, false⟩]
def qe : List Fl := [⟨3, 100, 5, false⟩, ⟨1, 90, 5, true⟩]
def qf : List Fl := [⟨1, 90, 5, true⟩, ⟨3, 95, 0, false⟩]
def qg : List Fl := [⟨3, 95, 0, false⟩]
def ping : List UInt8 := [112, 105, 110, 103]
theorem okd : SdOk qd 65535 10 := ok_lit (by decide) (by decide) (by decide) (by decide) (by decide) (by decide)
theorem oke : SdOk qe 65525 10 := ok_lit (by decide) (by decide) (by decide) (by decide) (by decide) (by decide)
theorem okf : SdOk qf 65520 10 := ok_lit (by decide) (by decide) (by decide) (by decide) (by decide) (by decide)
theorem okg : SdOk qg 65515 10 := ok_lit (by decide) (by decide) (by decide) (by decide) (by decide) (by decide)
theorem nd : nextQ 65535 10 (30 : Int).toNat qd = some (1, 10, false, qe) := rfl
theorem ne : nextQ 65525 10 (30 : Int).toNat qe = some (3, 5, false, qf) := rfl
theorem nf : nextQ 65520 10 (30 : Int).toNat qf = some (1, 5, true, qg) := rfl
theorem ng : nextQ 65515 10 (30 : Int).toNat qg = none := rfl
theorem conv_ping (w : World) : (convert 33 33 (.slice (some ⟨w.heap.size + 1, 0, none⟩) 4 4)).run Try.prog ((w.alloc (.cells #[.slice none 0 0, .int .i64 0, .int .i64 0, .bool false] 35)).alloc (.cells #[.int .u8 112, .int .u8 105, .int .u8 110, .int .u8 103] 5)) =
    .ok (.slice (some ⟨w.heap.size + 1, 0, none⟩) 4 4) ((w.alloc (.cells #[.slice none 0 0, .int .i64 0, .int .i64 0, .bool false] 35)).alloc (.cells #[.int .u8 112, .int .u8 105, .int .u8 110, .int .u8 103] 5 (4, 5))) := by
  have h := Lib.run_convert_bytes_const (P := Try.prog) (w.alloc (.cells #[.slice none 0 0, .int .i64 0, .int .i64 0, .bool false] 35)) 33 5 #[.int .u8 112, .int .u8 105, .int .u8 110, .int .u8 103] 4 4 Try.underlying33 Try.underlying5
  rw [World.size_alloc] at h
  exact h
theorem rd_marked (w : World) (ys : List UInt8) (n : Nat) (cs : Array Value) (fz : Nat × Nat) (hcs : cs = (ys.map BV).toArray) (hn : ys.length = n) : Rd (w.alloc (.cells cs 5 fz)) 1 (some ⟨w.heap.size, 0, none⟩) n (ys.map BV) := by
  subst hcs
  refine ⟨by simp; omega, fun _ => ⟨w.heap.size, 0, rfl, fun j v hv => ?_⟩⟩
  rw [Nat.zero_add, cell_of_row _ w.heap.size j _ 5 fz (heap_alloc_new w _)]
  simpa using hv
theorem rd_ping (w : World) : Rd ((w.alloc (.cells #[.slice none 0 0, .int .i64 0, .int .i64 0, .bool false] 35)).alloc (.cells #[.int .u8 112, .int .u8 105, .int .u8 110, .int .u8 103] 5 (4, 5))) 1 (some ⟨w.heap.size + 1, 0, none⟩) 4 (ping.map BV) := by
  have h := rd_marked (w.alloc (.cells #[.slice none 0 0, .int .i64 0, .int .i64 0, .bool false] 35)) ping 4 #[.int .u8 112, .int .u8 105, .int .u8 110, .int .u8 103] (4, 5) rfl rfl
  rw [World.size_alloc] at h
  exact h
set_option maxHeartbeats 16000000 in
theorem shown_c (w : World) : Calls Try.prog 8 #[] w fun e w' => e = .returned (.bool true) ∧ Below w.heap.size w w' := by
  have c30 : Hid ((-9223372036854775808 : Int) ≤ 30 ∧ (30 : Int) ≤ 9223372036854775807) := by unfold Hid; decide
  have hping : Hid (ping.map BV = [.int .u8 112, .int .u8 105, .int .u8 110, .int .u8 103]) := rfl
  go_enter Try.func8, Try.ntmps8
  go_upto_region 8 with (first
    | (go_at_call 13; (with_reducible refine (new_c 10 10 rfl).mono ?_); rintro e w1 ⟨p, rfl, t1⟩
       have T1 := Lib.hid t1
       clear t1)
    | (go_at_call 14; (with_reducible refine (openI T1.out (by decide) 1 1 100 rfl (by decide) (by decide) (by decide) (by decide) (by decide) qa rfl).mono ?_); rintro e w2 ⟨rfl, t2⟩
       have T2 := Lib.hid t2
       clear t2)
    | (go_at_call 14; (with_reducible refine (openI T2.out (by decide) 3 3 100 rfl (by decide) (by decide) (by decide) (by decide) (by decide) qb rfl).mono ?_); rintro e w3 ⟨rfl, t3⟩
       have T3 := Lib.hid t3
       clear t3)
    | (go_at_call 15; (with_reducible refine (putI (a := []) (f := ⟨1, 100, 0, false⟩) (b := [⟨3, 100, 0, false⟩]) T3.out (by decide) 1 rfl rfl (by decide) 15 15 rfl true rfl (by decide) qc rfl).mono ?_); rintro e w4 ⟨rfl, t4⟩
       have T4 := Lib.hid t4
       clear t4)
    | (go_at_call 15; (with_reducible refine (putI (a := [⟨1, 100, 15, true⟩]) (f := ⟨3, 100, 0, false⟩) (b := []) T4.out (by decide) 3 rfl rfl (by decide) 5 5 rfl false rfl (by decide) qd rfl).mono ?_); rintro e w5 ⟨rfl, t5⟩
       have T5 := Lib.hid t5
       clear t5)
    | (go_at_call 11; (with_reducible refine (nextI T5.out okd 30 c30.out 1 10 false qe nd 65525 rfl 1 10 rfl rfl).mono ?_); rintro e w6 ⟨rfl, t6⟩
       have t6' : St _ _ _ [SO p [] qe 65525 10, BLo w6.heap.size 35 [.slice none 0 0, .int .i64 1, .int .i64 10, .bool false]] := St.block t6 35 [.slice none 0 0, .int .i64 1, .int .i64 10, .bool false]
       have T6 := Lib.hid t6'
       clear t6 t6')
    | (go_at_call 11; (with_reducible refine (nextI T6.out oke 30 c30.out 3 5 false qf ne 65520 rfl 3 5 rfl rfl).mono ?_); rintro e w7 ⟨rfl, t7⟩
       have t7' : St _ _ _ [SO p [] qf 65520 10, BLo w6.heap.size 35 [.slice none 0 0, .int .i64 1, .int .i64 10, .bool false], BLo w7.heap.size 35 [.slice none 0 0, .int .i64 3, .int .i64 5, .bool false]] := St.block t7 35 [.slice none 0 0, .int .i64 3, .int .i64 5, .bool false]
       have T7 := Lib.hid t7'
       clear t7 t7')
    | (go_at_call 11; (with_reducible refine (nextI T7.out okf 30 c30.out 1 5 true qg nf 65515 rfl 1 5 rfl rfl).mono ?_); rintro e w8 ⟨rfl, t8⟩
       have t8' : St _ _ _ [SO p [] qg 65515 10, BLo w6.heap.size 35 [.slice none 0 0, .int .i64 1, .int .i64 10, .bool false], BLo w7.heap.size 35 [.slice none 0 0, .int .i64 3, .int .i64 5, .bool false], BLo w8.heap.size 35 [.slice none 0 0, .int .i64 1, .int .i64 5, .bool true]] := St.block t8 35 [.slice none 0 0, .int .i64 1, .int .i64 5, .bool true]
       have T8 := Lib.hid t8'
       clear t8 t8')
    | (go_at_call 11; (with_reducible refine (next_none T8.out okg 30 c30.out ng).mono ?_); rintro e w9 ⟨rfl, t9⟩
       have T9 := Lib.hid (St.alloc (St.alloc t9 (.cells #[.slice none 0 0, .int .i64 0, .int .i64 0, .bool false] 35)) (.cells #[.int .u8 112, .int .u8 105, .int .u8 110, .int .u8 103] 5 (4, 5)))
       have hcc := conv_ping w9
       have R9 := Lib.hid (rd_ping w9)
       clear t9))
  go_upto_region 11 with (first
    | (go_at_call 17; (with_reducible refine (control_some T9.out R9.out (by decide) (by decide) (by decide)).mono ?_); rintro e w10 ⟨rfl, t10⟩
       have T10 := Lib.hid t10
       clear t10)
    | (go_at_call 11; (with_reducible refine (next_cno (fs := []) (xs := ping) T10.out 3 (by decide)).mono ?_); rintro e w11 ⟨rfl, t11⟩
       have T11 := Lib.hid (St.alloc t11 (.cells #[.slice none 0 0, .int .i64 0, .int .i64 0, .bool false] 35))
       clear t11)
    | (go_at_call 11; (with_reducible refine (next_cyes (fs := []) (xs := ping) T11.out 4 (by decide) 4 rfl).mono ?_); rintro e w12 ⟨A, d, rfl, t12⟩
       have T12 := Lib.hid t12
       clear t12))
  have b6 := (St.blk1 T12.out).alloc (.cells #[.slice A 4 d, .int .i64 0, .int .i64 0, .bool false] 35)
  have b7 := (St.blk2 T12.out).alloc (.cells #[.slice A 4 d, .int .i64 0, .int .i64 0, .bool false] 35)
  have b8 := (St.blk3 T12.out).alloc (.cells #[.slice A 4 d, .int .i64 0, .int .i64 0, .bool false] 35)
  have b12 := Blk.new w12 35 [.slice A 4 d, .int .i64 0, .int .i64 0, .bool false]
  have hrd : Rd (w12.alloc (.cells #[.slice A 4 d, .int .i64 0, .int .i64 0, .bool false] 35)) 1 A 4 (ping.map BV) := (Rd.of_own (St.own4 T12.out)).below ((Below.refl _ _).alloc (Nat.le_refl _) _)
  have hcv := run_conv_bytes (P := Try.prog) (src := 33) (dst := 9) (e := 5) Try.underlying33 Try.underlying5 Try.underlying9 (c := d) hrd
  have hB := (T12.out.alloc (.cells #[.slice A 4 d, .int .i64 0, .int .i64 0, .bool false] 35)).below
  have HB := Lib.hid hB
  clear hB hrd
  rw [show (w12.alloc (.cells [.slice A 4 d, .int .i64 0, .int .i64 0, .bool false].toArray 35)) = w12.alloc (.cells #[.slice A 4 d, .int .i64 0, .int .i64 0, .bool false] 35) from rfl] at b12
  obtain ⟨W, hW⟩ : ∃ W, w12.alloc (.cells #[.slice A 4 d, .int .i64 0, .int .i64 0, .bool false] 35) = W := ⟨_, rfl⟩
  rw [hW] at b6 b7 b8 b12 hcv HB ⊢
  have u1 := b6.cell 1
  have u2 := b6.cell 2
  have u3 := b6.cell 3
  have v1 := b7.cell 1
  have v2 := b7.cell 2
  have v3 := b7.cell 3
  have x1 := b8.cell 1
  have x2 := b8.cell 2
  have x3 := b8.cell 3
  have y0 := b12.cell 0
  have y1 := b12.cell 1
  have l6 := b6.lt
  have l7 := b7.lt
  have l8 := b8.lt
  have l12 := b12.lt
  simp only [List.getElem?_cons_zero, List.getElem?_cons_succ] at u1 u2 u3 v1 v2 v3 x1 x2 x3 y0 y1
  clear b6 b7 b8 b12 hW
  go_wp2
  go_ret
  exact ⟨rfl, HB.out⟩
end Go.Proofs.Ytbjjphpkpmikjaa
