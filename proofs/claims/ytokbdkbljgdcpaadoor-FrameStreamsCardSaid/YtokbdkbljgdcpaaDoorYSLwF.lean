/- head9; a parser's answers, named. -/
import Derived.Test.YtokbdkbljgdcpaaDoorY47
import Derived.Test.YtokbdkbljgdcpaaDoorY48
import Derived.Laws.OwnMore
namespace Go.Proofs.YtokbdkbljgdcpaaDoor
open Go.RowKit Go.Own Go.Frm
set_option linter.unusedVariables false
set_option maxRecDepth 100000
section
variable {w w0 : World} {L : List Ob} {p m : Nat}
/-- Next, its answer named -/
theorem next_n {f : Fm} {b : Bool} {c : Nat} {z : Int} {ok : Bool} {st st' : Pst} (s : St (fun _ => False) w0 w (PFo p m st :: L)) (hG : Gl w0) (h : nextP m st = (⟨f, ⟨b, c, z⟩, ok⟩, st')) :
    Calls Tryd.prog 21 #[.pointer (some ⟨p, 0, none⟩)] w fun e w' => ∃ pv lv, e = .returned (.tuple #[.agg #[.int .i64 f.kind, .int .i64 f.stream, .bool f.fin, .bool f.eh, .bool f.ack, .bool f.prio, pv, .int .i64 f.flags, .int .i64 f.pad, .int .i64 f.depend, .bool f.excl, .int .i64 f.weight, .int .u32 (f.code : Int), lv, .int .i64 f.last, .int .i64 f.inc], .agg #[.bool b, .int .u32 (c : Int), .int .i64 z], .bool ok]) ∧ FrOwn w' w.heap.size f pv lv ∧ St (fun _ => False) w0 w' (PFo p m st' :: L) ∧ w.heap.size ≤ w'.heap.size := by
  refine (next_s s hG).mono ?_
  rintro e w' ⟨pv, lv, rfl, ho, hs, hz⟩
  rw [h] at hs ho ⊢
  exact ⟨pv, lv, rfl, ho, hs, hz⟩
theorem feed_own_n {st : Pst} (s : St (fun _ => False) w0 w (PFo p m st :: L)) {base n : Nat} {v : Value} {xs : List Value} (hm : SLo base 5 1 v n xs ∈ L) {B : Option Addr} {nb cb : Nat} {ys : List UInt8} (hv : ∀ a, B = some a → v.ownBlock = some a.block) (hr : Rd w 1 B nb (ys.map BV)) (hnc : nb ≤ cb) (hcb : cb ≤ 9223372036854775807) (q : Nat) (hq : feedN m st nb = q) (st' : Pst) (hst : feedP m st ys = st') :
    Calls Tryd.prog 23 #[.pointer (some ⟨p, 0, none⟩), .slice B nb cb] w fun e w' => e = .returned (.int .i64 (q : Int)) ∧ St (fun _ => False) w0 w' (PFo p m st' :: L) := by
  have h := feed_own s hm hv hr hnc hcb
  rw [hq, hst] at h
  exact h
end
theorem be3 (n : Nat) : be n 3 = [UInt8.ofNat (n / 65536), UInt8.ofNat (n / 256), UInt8.ofNat n] := by
  simp [be, Nat.div_div_eq_div_mul]
theorem be4 (n : Nat) : be n 4 = [UInt8.ofNat (n / 16777216), UInt8.ofNat (n / 65536), UInt8.ofNat (n / 256), UInt8.ofNat n] := by
  simp [be, Nat.div_div_eq_div_mul]
theorem bvn (x : Nat) (y : Int) (h : y = ((x % 256 : Nat) : Int)) : BV (UInt8.ofNat x) = .int .u8 y := by
  subst h
  show Value.int .u8 _ = _
  simp
set_option maxHeartbeats 1000000 in
theorem head9_c (n k fl s : Nat) (hn : n < 16777216) (hk : k < 256) (hf : fl < 256) (hs : s < 2147483648) (w : World) :
    Calls Tryd.prog 28 #[.int .i64 (n : Int), .int .i64 (k : Int), .int .i64 (fl : Int), .int .i64 (s : Int)] w fun e w' => ∃ g, e = .returned (.slice (some ⟨g, 0, none⟩) 9 9) ∧ w'.ownsRow w.heap.size 5 1 (.slice (some ⟨g, 0, none⟩) 9 9) 9 ((headB n k fl s).map BV) ∧ Below w.heap.size w w' := by
  go_enter Tryd.func28, Tryd.ntmps28
  go_wp2
  go_ret
  have e : (headB n k fl s).map BV = [.int .u8 ((n : Int) / 65536), .int .u8 ((n : Int) / 256 % 256), .int .u8 ((n : Int) % 256), .int .u8 (k : Int), .int .u8 (fl : Int), .int .u8 ((s : Int) / 16777216), .int .u8 ((s : Int) / 65536 % 256), .int .u8 ((s : Int) / 256 % 256), .int .u8 ((s : Int) % 256)] := by
    simp only [headB, be3, be4, be1, List.map_cons, List.map_nil, List.cons_append, List.nil_append]
    rw [bvn (n / 65536) ((n : Int) / 65536) (by omega), bvn (n / 256) ((n : Int) / 256 % 256) (by omega), bvn n ((n : Int) % 256) (by omega), bvn k (k : Int) (by omega), bvn fl (fl : Int) (by omega), bvn (s / 16777216) ((s : Int) / 16777216) (by omega), bvn (s / 65536) ((s : Int) / 65536 % 256) (by omega), bvn (s / 256) ((s : Int) / 256 % 256) (by omega), bvn s ((s : Int) % 256) (by omega)]
  refine ⟨w.heap.size, rfl, ?_, (Below.refl _ _).alloc (Nat.le_refl _) _⟩
  rw [e]
  exact World.ownsRow_lit w _ 9 (Nat.le_refl _) (by unfold maxLen; omega) rfl
end Go.Proofs.YtokbdkbljgdcpaaDoor
