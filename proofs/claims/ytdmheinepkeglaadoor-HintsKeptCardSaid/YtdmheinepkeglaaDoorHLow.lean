/- The contracts of hints' reading: prefixes, octets, numbers. -/
import Derived.Test.YtdmheinepkeglaaDoorGen
import Derived.Test.YtdmheinepkeglaaDoorSpelt
import Derived.Test.YtdmheinepkeglaaDoorHint
import Derived.Defers
import Derived.Recover
import Derived.BigQuiet
namespace Go.Proofs.YtdmheinepkeglaaDoor
open Go.RowKit Go.Own Go.Huf Go.Hin
set_option linter.unusedVariables false

theorem fullP_any (p : Nat) (h1 : 1 ≤ p) (h8 : p ≤ 8) (w : World) : Calls Tryd.prog 33 #[.int .i64 (p : Int)] w fun e w' => e = .returned (.int .u8 ((2 ^ p - 1 : Nat) : Int)) ∧ w = w' := by
  have hp : p = 1 ∨ p = 2 ∨ p = 3 ∨ p = 4 ∨ p = 5 ∨ p = 6 ∨ p = 7 ∨ p = 8 := by omega
  rcases hp with rfl | rfl | rfl | rfl | rfl | rfl | rfl | rfl
  all_goals
    go_enter Tryd.func33, Tryd.ntmps33
    go_wp2
    go_ret
    exact ⟨by kernel_rfl, rfl⟩
theorem mustBe_ok (p : Nat) (h1 : 1 ≤ p) (h8 : p ≤ 8) (w : World) : Calls Tryd.prog 21 #[.int .i64 (p : Int)] w fun e w' => e = .returned (.tuple #[]) ∧ w = w' := by
  have k1 : ¬ (p : Int) < 1 := by omega
  have k2 : ¬ (8 : Int) < (p : Int) := by omega
  go_enter Tryd.func21, Tryd.ntmps21
  go_wp2
  go_end0
  exact ⟨rfl, rfl⟩
theorem mustBe_no (p : Int) (h : ¬ (1 ≤ p ∧ p ≤ 8)) (w : World) : Calls Tryd.prog 21 #[.int .i64 p] w fun e w' => e = .panicked [{ v := .iface 47 (.agg #[]), recovered := false }] ∧ w = w' := by
  by_cases k1 : p < 1
  · go_enter Tryd.func21, Tryd.ntmps21
    go_wp2
    exact ⟨rfl, rfl, rfl⟩
  · have k2 : (8 : Int) < p := by omega
    go_enter Tryd.func21, Tryd.ntmps21
    go_wp2
    exact ⟨rfl, rfl, rfl⟩
/-- the reader's struct, its place k -/
def RAt (w : World) (p : Nat) (A : Option Addr) (len cap k : Nat) : Prop := Blk w p 51 [.slice A len cap, .int .i64 (k : Int)]

set_option maxRecDepth 100000 in
theorem next_no {w : World} {p : Nat} {A : Option Addr} {len cap k n : Nat} (hw : RAt w p A len cap k) (hk : k ≤ len) (hn : len < k + n) (hcap : len ≤ 9223372036854775807) :
    Calls Tryd.prog 36 #[.pointer (some ⟨p, 0, none⟩), .int .i64 (n : Int)] w fun e w' => e = .panicked [{ v := .iface 57 (.agg #[]), recovered := false }] ∧ Fr (fun _ => False) w w' := by
  have c0 := hw.cell 0
  have c1 := hw.cell 1
  simp only [List.getElem?_cons_zero, List.getElem?_cons_succ] at c0 c1
  have h1 : (len : Int) - (k : Int) < (n : Int) := by omega
  have Hw := Lib.hid hw
  clear hw
  go_enter Tryd.func36, Tryd.ntmps36
  go_wp2
  go_quiet (fail)
  go_wp2
  exact ⟨rfl, rfl, (Fr.refl _ _).drewN _⟩
set_option maxRecDepth 100000 in
theorem next_ok {w : World} {p : Nat} {A : Option Addr} {len cap k n : Nat} (hw : RAt w p A len cap k) (hn : k + n ≤ len) (hlc : len ≤ cap) (hcap : cap ≤ 9223372036854775807) :
    Calls Tryd.prog 36 #[.pointer (some ⟨p, 0, none⟩), .int .i64 (n : Int)] w fun e w' => e = .returned (.slice (if cap = k then A else A.map (·.add (k * 1))) n (cap - k)) ∧ RAt w' p A len cap (k + n) ∧ Fr (· = p) w w' := by
  have c0 := hw.cell 0
  have c1 := hw.cell 1
  have f1 := hw.frozen 1
  simp only [List.getElem?_cons_zero, List.getElem?_cons_succ] at c0 c1
  have h1 : ¬ (len : Int) - (k : Int) < (n : Int) := by omega
  have Hw := Lib.hid hw
  clear hw
  go_enter Tryd.func36, Tryd.ntmps36
  go_wp2
  go_quiet (fail)
  go_wp2
  have hs : (k : Int) + (n : Int) = ((k + n : Nat) : Int) := by omega
  rw [hs]
  have hb : RAt ((w.drewN nq).setCell ⟨p, 1, none⟩ (.int .i64 ((k + n : Nat) : Int))) p A len cap (k + n) := by
    have := (Hw.out.drewN nq).set_ 1 (.int .i64 ((k + n : Nat) : Int))
    exact this
  have hf : Fr (· = p) w ((w.drewN nq).setCell ⟨p, 1, none⟩ (.int .i64 ((k + n : Nat) : Int))) := ((Fr.refl (· = p) w).drewN nq).setCell (p := ⟨p, 1, none⟩) (.inl rfl) _
  generalize (w.drewN nq).setCell ⟨p, 1, none⟩ (.int .i64 ((k + n : Nat) : Int)) = w5 at hb hf ⊢
  have d0 := hb.cell 0
  have d1 := hb.cell 1
  simp only [List.getElem?_cons_zero, List.getElem?_cons_succ] at d0 d1
  have Hb := Lib.hid hb
  have Hf := Lib.hid hf
  clear hb hf Hw c0 c1 f1 hs
  have b1 : (k : Int) ≤ ((k + n : Nat) : Int) := by omega
  have b2 : ((k + n : Nat) : Int) ≤ (cap : Int) := by omega
  go_quiet (fail)
  go_wp2
  · go_ret
    have hb2 := Hb.out.drewN nq
    rw [h] at hb2
    exact ⟨rfl, hb2, Hf.out.drewN _⟩
  · go_ret
    exact ⟨rfl, Hb.out.drewN _, Hf.out.drewN _⟩

/-- the reader as it stands: what lay in w0 is as it was; its struct is newer -/
structure RW (w0 : World) (p : Nat) (A : Option Addr) (len cap k : Nat) (w : World) : Prop where
  at_ : RAt w p A len cap k
  below : Below w0.heap.size w0 w
  ple : w0.heap.size ≤ p
  hk : k ≤ len
/-- what is read: the octets, in the first world -/
structure RS (w0 : World) (A : Option Addr) (len cap : Nat) (xs : List UInt8) : Prop where
  rd : Rd w0 1 A len (xs.map BV)
  hlc : len ≤ cap
  hcap : cap ≤ 9223372036854775807
theorem RS.len_ {w0 : World} {A : Option Addr} {len cap : Nat} {xs : List UInt8} (h : RS w0 A len cap xs) : xs.length = len := by simpa using h.rd.1
theorem RW.step {w0 : World} {p : Nat} {A : Option Addr} {len cap k k' : Nat} {w w' : World} (h : RW w0 p A len cap k w) (ha : RAt w' p A len cap k') (hf : Fr (· = p) w w') (hk : k' ≤ len) : RW w0 p A len cap k' w' :=
  ⟨ha, h.below.trans (hf.below h.below.size (fun i _ e => e ▸ h.ple)), h.ple, hk⟩
theorem next_rd {w0 w : World} {p : Nat} {A : Option Addr} {len cap k : Nat} {xs : List UInt8} (hs : RS w0 A len cap xs) (hw : RW w0 p A len cap k w) (n : Nat) (z : Int) (hz : z = (n : Int)) (hn : k + n ≤ len) :
    Calls Tryd.prog 36 #[.pointer (some ⟨p, 0, none⟩), .int .i64 z] w fun e w' => ∃ A' c', e = .returned (.slice A' n c') ∧ n ≤ c' ∧ c' ≤ cap ∧ Rd w' 1 A' n (((xs.drop k).take n).map BV) ∧ RW w0 p A len cap (k + n) w' := by
  subst hz
  refine (next_ok hw.at_ hn hs.hlc hs.hcap).mono ?_
  rintro e w' ⟨rfl, ha, hf⟩
  have hw' := hw.step ha hf hn
  have hl := hs.hlc
  refine ⟨_, _, rfl, by omega, by omega, ?_, hw'⟩
  have h1 := ((hs.rd.below hw'.below).drop (k := k) (cap := cap) (by omega) hs.hlc).take (k := n) (by omega)
  simpa [List.map_drop, List.map_take] using h1
theorem next_up {w0 w : World} {p : Nat} {A : Option Addr} {len cap k : Nat} {xs : List UInt8} (hs : RS w0 A len cap xs) (hw : RW w0 p A len cap k w) (n : Nat) (z : Int) (hz : z = (n : Int)) (hn : len < k + n) :
    Calls Tryd.prog 36 #[.pointer (some ⟨p, 0, none⟩), .int .i64 z] w fun e w' => e = .panicked [{ v := .iface 57 (.agg #[]), recovered := false }] ∧ Below w0.heap.size w0 w' := by
  subst hz
  have h1 := hs.hlc
  have h2 := hs.hcap
  refine (next_no hw.at_ hw.hk hn (by omega)).mono ?_
  rintro e w' ⟨rfl, hf⟩
  exact ⟨rfl, hw.below.trans (hf.below hw.below.size (fun _ _ h => h.elim))⟩
theorem next_1 {w0 w : World} {p : Nat} {A : Option Addr} {len cap k : Nat} {xs : List UInt8} (hs : RS w0 A len cap xs) (hw : RW w0 p A len cap k w) {x : UInt8} (hx : xs[k]? = some x) :
    Calls Tryd.prog 36 #[.pointer (some ⟨p, 0, none⟩), .int .i64 1] w fun e w' => ∃ b o c', e = .returned (.slice (some ⟨b, o, none⟩) 1 c') ∧ w'.cell? ⟨b, o, none⟩ = some (.int .u8 (x.toNat : Int)) ∧ RW w0 p A len cap (k + 1) w' := by
  have hk : k < len := by have := (List.getElem?_eq_some_iff.1 hx).1; have := hs.len_; omega
  refine (next_rd hs hw 1 1 rfl hk).mono ?_
  rintro e w4 ⟨A4, c4, rfl, hc1, hc2, hr, h4⟩
  obtain ⟨b, o, u, rfl, hu, hcu⟩ := hr.at_ (k := 0) (by omega)
  rw [List.map_take, List.map_drop] at hu
  rw [List.getElem?_take_of_lt (by omega), List.getElem?_drop, Nat.add_zero, List.getElem?_map, hx] at hu
  obtain rfl := (Option.some.inj hu)
  exact ⟨b, o, c4, rfl, hcu, h4⟩
theorem octet_ok {w0 w : World} {p : Nat} {A : Option Addr} {len cap k : Nat} {xs : List UInt8} (hs : RS w0 A len cap xs) (hw : RW w0 p A len cap k w) {x : UInt8} (hx : xs[k]? = some x) :
    Calls Tryd.prog 34 #[.pointer (some ⟨p, 0, none⟩)] w fun e w' => e = .returned (.int .u8 (x.toNat : Int)) ∧ RW w0 p A len cap (k + 1) w' := by
  have Hs := Lib.hid hs
  have Hw := Lib.hid hw
  have Hx := Lib.hid hx
  clear hs hw hx
  go_enter Tryd.func34, Tryd.ntmps34
  go_wp2_with (first
    | (go_at_call 36; (with_reducible refine (next_1 Hs.out Hw.out Hx.out).mono ?_); rintro e w4 ⟨b, o, c4, rfl, hc4, h4⟩; have H4 := Lib.hid h4; clear h4))
  go_ret
  exact ⟨rfl, H4.out⟩
theorem octet_up {w0 w : World} {p : Nat} {A : Option Addr} {len cap k : Nat} {xs : List UInt8} (hs : RS w0 A len cap xs) (hw : RW w0 p A len cap k w) (hk : len ≤ k) :
    Calls Tryd.prog 34 #[.pointer (some ⟨p, 0, none⟩)] w fun e w' => e = .panicked [{ v := .iface 57 (.agg #[]), recovered := false }] ∧ Below w0.heap.size w0 w' := by
  have hk1 : len < k + 1 := by omega
  have Hs := Lib.hid hs
  have Hw := Lib.hid hw
  clear hs hw
  go_enter Tryd.func34, Tryd.ntmps34
  go_wp2_with (first
    | (go_at_call 36; (with_reducible refine (next_up Hs.out Hw.out 1 1 rfl hk1).mono ?_); rintro e w4 ⟨rfl, h4⟩; have H4 := Lib.hid h4; clear h4))
  exact ⟨rfl, rfl, H4.out⟩

/-- what reading a number behind comes to -/
def NumPost (w0 : World) (p : Nat) (A : Option Addr) (len cap : Nat) : G → Ending → World → Prop
  | .ok v n, e, w' => e = .returned (.int .i64 (v : Int)) ∧ RW w0 p A len cap n w'
  | .more, e, w' => e = .panicked [{ v := .iface 57 (.agg #[]), recovered := false }] ∧ Below w0.heap.size w0 w'
  | .form, e, w' => e = .panicked [{ v := .iface 76 (.agg #[]), recovered := false }] ∧ Below w0.heap.size w0 w'
  | .arg, _, _ => False
theorem NumPost.of {w0 : World} {p : Nat} {A : Option Addr} {len cap : Nat} {g : G} {e : Ending} {w' : World} (h : NumPost w0 p A len cap g e w') {g' : G} (hg : g = g') : NumPost w0 p A len cap g' e w' := hg ▸ h
set_option maxRecDepth 100000 in
set_option maxHeartbeats 2000000 in
theorem behind_any {w0 w : World} {p : Nat} {A : Option Addr} {len cap : Nat} {xs : List UInt8} (hs : RS w0 A len cap xs) (hw : RW w0 p A len cap 1 w) (m : Nat) (hm : m ≤ 255) (R0 : G) (hR : gbeh 0 m (xs.drop 1) = R0) :
    Calls Tryd.prog 35 #[.pointer (some ⟨p, 0, none⟩), .int .i64 (m : Int)] w fun e w' => NumPost w0 p A len cap R0 e w' := by
  have Hs := Lib.hid hs
  have Hw := Lib.hid hw
  have HR := Lib.hid hR
  have Hl := Lib.hid hs.len_
  clear hs hw hR
  go_enter Tryd.func35, Tryd.ntmps35
  go_wp2
  go_loopg [1, 5] 6 (fun gh nm i w' => ∃ (j acc : Nat), gh + j = 6 ∧ i = .int .i64 j ∧ nm = .int .i64 acc ∧ acc ≤ 2147483647 ∧ j ≤ 5 ∧ gbeh j acc (xs.drop (1 + j)) = R0 ∧ RW w0 p A len cap (1 + j) w')
  case atStart => exact ⟨0, m, by omega, rfl, rfl, by omega, by omega, HR.out, Hw.out⟩
  case round =>
    obtain ⟨j, acc, hj, rfl, rfl, hacc, hj5, hg, hw⟩ := hrel
    have Hg := Lib.hid hg
    have HW := Lib.hid hw
    clear hg hw HR Hw
    cases gk with
    | zero => omega
    | succ g1 =>
      by_cases hlt : 1 + j < len
      · obtain ⟨x, hx⟩ : ∃ x, xs[1 + j]? = some x := ⟨_, List.getElem?_eq_getElem (by have := Hl.out; omega)⟩
        have hd : xs.drop (1 + j) = x :: xs.drop (1 + (j + 1)) := by
          obtain ⟨hi, rfl⟩ := List.getElem?_eq_some_iff.1 hx
          exact List.drop_eq_getElem_cons hi
        have hg := Hg.out
        rw [hd, gbeh] at hg
        have hxl := x.toNat_lt
        have Hx := Lib.hid hx
        have Hg2 := Lib.hid hg
        clear hg hx hd Hg
        by_cases h5 : j = 5
        · subst h5
          have hg := Hg2.out
          rw [if_pos rfl] at hg
          have Hg := Lib.hid hg
          clear hg Hg2
          go_wp2_with (first
            | (go_at_call 34; (with_reducible refine (octet_ok Hs.out HW.out Hx.out).mono ?_); rintro e w4 ⟨rfl, h4⟩; have H4 := Lib.hid h4; clear h4))
          exact ⟨rfl, NumPost.of (g := .form) ⟨rfl, H4.out.below⟩ Hg.out⟩
        · have h5b : ((j : Int) == 5) = false := by simp; omega
          have hg := Hg2.out
          rw [if_neg h5] at hg
          have Hg := Lib.hid hg
          clear hg Hg2
          obtain ⟨q, hq⟩ : ∃ q, x.toNat % 128 * 128 ^ j = q := ⟨_, rfl⟩
          obtain ⟨sm, hsm⟩ : ∃ sm, acc + q = sm := ⟨_, rfl⟩
          have hql : q ≤ 34091302912 := by
            have h1 : 128 ^ j ≤ 128 ^ 4 := Nat.pow_le_pow_right (by omega) (by omega)
            have h2 : x.toNat % 128 * 128 ^ j ≤ 127 * 128 ^ 4 := Nat.mul_le_mul (by omega) h1
            omega
          have hp : (2 : Int) ^ (j * 7) = ((128 ^ j : Nat) : Int) := by
            rw [Nat.mul_comm, Int.pow_mul]
            simp
          have e1 : wrap64 ((x.toNat : Int) % 128 * 2 ^ (j * 7)) = (q : Int) := by
            rw [hp, show (x.toNat : Int) % 128 * ((128 ^ j : Nat) : Int) = ((x.toNat % 128 * 128 ^ j : Nat) : Int) by simp, hq]
            exact IntWalk.wrap64_in _ (by omega)
          have e2 : (acc : Int) + (q : Int) = (sm : Int) := by omega
          have hg := Hg.out
          rw [hq, hsm] at hg
          have Hg2 := Lib.hid hg
          have Hsm := Lib.hid hsm
          clear hg Hg hq hsm hp
          by_cases hM : 2147483647 < sm
          · have hg := Hg2.out
            rw [if_pos hM] at hg
            have Hg := Lib.hid hg
            have k1 : (2147483647 : Int) < (sm : Int) := by omega
            clear hg Hg2 hM
            go_wp2_with (first
              | (go_at_call 34; (with_reducible refine (octet_ok Hs.out HW.out Hx.out).mono ?_); rintro e w4 ⟨rfl, h4⟩; have H4 := Lib.hid h4; clear h4))
            exact ⟨rfl, NumPost.of (g := .form) ⟨rfl, H4.out.below⟩ Hg.out⟩
          · have hg := Hg2.out
            rw [if_neg hM] at hg
            have Hg := Lib.hid hg
            have k1 : ¬ (2147483647 : Int) < (sm : Int) := by omega
            clear hg Hg2
            by_cases h128 : x.toNat < 128
            · have hg := Hg.out
              rw [if_pos h128] at hg
              have Hg2 := Lib.hid hg
              have k2 : (x.toNat : Int) < 128 := by omega
              clear hg Hg h128 hM
              go_wp2_with (first
                | (go_at_call 34; (with_reducible refine (octet_ok Hs.out HW.out Hx.out).mono ?_); rintro e w4 ⟨rfl, h4⟩; have H4 := Lib.hid h4; clear h4))
              go_ret
              exact NumPost.of (g := .ok sm (1 + j + 1)) ⟨rfl, H4.out⟩ (by rw [← Hg2.out]; congr 1; omega)
            · have hg := Hg.out
              rw [if_neg h128] at hg
              have Hg2 := Lib.hid hg
              have k2 : ¬ (x.toNat : Int) < 128 := by omega
              clear hg Hg h128
              go_wp2_with (first
                | (go_at_call 34; (with_reducible refine (octet_ok Hs.out HW.out Hx.out).mono ?_); rintro e w4 ⟨rfl, h4⟩; have H4 := Lib.hid h4; clear h4))
              go_roundg g1
              case measure => omega
              case rel => exact ⟨j + 1, sm, by omega, by go_num, rfl, by omega, by omega, Hg2.out, by rw [← Nat.add_assoc]; exact H4.out⟩
      · have hg := Hg.out
        rw [List.drop_eq_nil_of_le (by have := Hl.out; omega), gbeh] at hg
        have Hg2 := Lib.hid hg
        clear hg Hg
        go_wp2_with (first
          | (go_at_call 34; (with_reducible refine (octet_up Hs.out HW.out (by omega)).mono ?_); rintro e w4 ⟨rfl, h4⟩; have H4 := Lib.hid h4; clear h4))
        exact ⟨rfl, NumPost.of (g := .more) ⟨rfl, H4.out⟩ Hg2.out⟩
theorem and_full (x : UInt8) (p : Nat) (hp : p ≤ 8) : Go.bits BinOp.and IntKind.u8 (x.toNat : Int) ((2 ^ p - 1 : Nat) : Int) = ((x.toNat % 2 ^ p : Nat) : Int) := by
  have hx := x.toNat_lt
  have := two_pow_le p hp
  have h2 := Nat.two_pow_pos p
  rw [u8_and_nat _ _ (by omega) (by omega), Nat.and_two_pow_sub_one_eq_mod]
set_option maxRecDepth 100000 in
set_option maxHeartbeats 2000000 in
theorem number_any {w0 w : World} {p : Nat} {A : Option Addr} {len cap : Nat} {xs : List UInt8} (hs : RS w0 A len cap xs) (hw : RW w0 p A len cap 0 w) (m : Nat) (h1 : 1 ≤ m) (h8 : m ≤ 8) (z : Int) (hz : z = (m : Int)) (R0 : G) (hR : getN m xs = R0) :
    Calls Tryd.prog 25 #[.pointer (some ⟨p, 0, none⟩), .int .i64 z] w fun e w' => NumPost w0 p A len cap R0 e w' := by
  subst hz
  have Hs := Lib.hid hs
  have Hw := Lib.hid hw
  have hpl := two_pow_le m h8
  have hpp := Nat.two_pow_pos m
  obtain ⟨F, hF⟩ : ∃ F, 2 ^ m - 1 = F := ⟨_, rfl⟩
  have hF255 : F ≤ 255 := by omega
  have fullF : ∀ w, Calls Tryd.prog 33 #[.int .i64 (m : Int)] w fun e w' => e = .returned (.int .u8 (F : Int)) ∧ w = w' := by
    intro w
    have := fullP_any m h1 h8 w
    rwa [hF] at this
  match xs, hs, hR with
  | [], hs, hR =>
    have h0 : len = 0 := by have := hs.len_; simpa using this.symm
    rw [getN] at hR
    have HR := Lib.hid hR
    have Hfull := Lib.hid fullF
    clear hs hw hR fullF
    go_enter Tryd.func25, Tryd.ntmps25
    go_wp2_with (first
      | (go_at_call 33; (with_reducible refine (Hfull.out _).mono ?_); rintro e w4 ⟨rfl, rfl⟩)
      | (go_at_call 34; (with_reducible refine (octet_up Hs.out Hw.out (by omega)).mono ?_); rintro e w4 ⟨rfl, h4⟩; have H4 := Lib.hid h4; clear h4))
    exact ⟨rfl, NumPost.of (g := .more) ⟨rfl, H4.out⟩ HR.out⟩
  | x :: r, hs, hR =>
    have hl := hs.len_
    have hx : (x :: r)[0]? = some x := rfl
    have ha := and_full x m h8
    obtain ⟨H, hH⟩ : ∃ H, x.toNat % 2 ^ m = H := ⟨_, rfl⟩
    have hHl : H ≤ F := by have := Nat.mod_lt x.toNat hpp; omega
    rw [getN] at hR
    rw [hH, hF] at hR ha
    have HR := Lib.hid hR
    have Hx := Lib.hid hx
    have Hfull := Lib.hid fullF
    have Hl := Lib.hid hl
    clear hs hw hR hx fullF hF hH hl hpl hpp
    by_cases hc : H < F
    · have hR := HR.out
      rw [if_pos hc] at hR
      have HR2 := Lib.hid hR
      have k1 : (H : Int) < (F : Int) := by omega
      clear hR HR hc
      go_enter Tryd.func25, Tryd.ntmps25
      go_wp2_with (first
        | (go_at_call 33; (with_reducible refine (Hfull.out _).mono ?_); rintro e w4 ⟨rfl, rfl⟩)
        | (go_at_call 34; (with_reducible refine (octet_ok Hs.out Hw.out Hx.out).mono ?_); rintro e w4 ⟨rfl, h4⟩; have H4 := Lib.hid h4; clear h4))
      go_ret
      exact NumPost.of (g := .ok H 1) ⟨rfl, H4.out⟩ HR2.out
    · have hR := HR.out
      rw [if_neg hc] at hR
      have hR2 : gbeh 0 F ((x :: r).drop 1) = R0 := hR
      have HR2 := Lib.hid hR2
      clear hR2
      have k1 : ¬ (H : Int) < (F : Int) := by omega
      clear hR HR hc
      rcases R0 with ⟨v, n⟩ | _ | _ | _
      all_goals
        go_enter Tryd.func25, Tryd.ntmps25
        go_wp2_with (first
          | (go_at_call 33; (with_reducible refine (Hfull.out _).mono ?_); rintro e w4 ⟨rfl, rfl⟩)
          | (go_at_call 34; (with_reducible refine (octet_ok Hs.out Hw.out Hx.out).mono ?_); rintro e w4 ⟨rfl, h4⟩; have H4 := Lib.hid h4; clear h4)
          | (go_at_call 35; (with_reducible refine (behind_any Hs.out H4.out F hF255 _ HR2.out).mono ?_); intro e w5 h5; first | (exact h5.elim) | (obtain ⟨rfl, h5⟩ := h5; have H5 := Lib.hid h5; clear h5)))
      · go_ret
        exact ⟨rfl, H5.out⟩
      · exact ⟨rfl, rfl, H5.out⟩
      · exact ⟨rfl, rfl, H5.out⟩
end Go.Proofs.YtdmheinepkeglaaDoor
