/- Stage 11: a scheduler with streams, as the laws make it: put. -/
import Derived.Test.YtbjjphpkpmikjaaKiR
namespace Go.Sch
set_option linter.unusedVariables false
/-- a stream as it came in -/
structure Rw where
  w : Int
  o : Int
  e : Bool
/-- the streams as they lie in the queue at first -/
def qOf (l : List Fw) : List Fl := l.mapIdx fun i f => ⟨2 * i + 1, f.win, f.oct, f.en⟩
theorem qOf_snoc (l : List Fw) (f : Fw) : qOf (l ++ [f]) = qOf l ++ [⟨2 * l.length + 1, f.win, f.oct, f.en⟩] := by simp [qOf]
theorem qOf_length (l : List Fw) : (qOf l).length = l.length := by simp [qOf]
theorem qOf_mem {l : List Fw} {f : Fl} (h : f ∈ qOf l) : ∃ k, f.id = 2 * k + 1 ∧ l[k]? = some ⟨f.win, f.wait, f.en⟩ := by
  obtain ⟨i, hi, rfl⟩ := List.mem_mapIdx.1 h
  exact ⟨i, rfl, by rw [List.getElem?_eq_getElem hi]⟩
theorem qOf_new {l : List Fw} : ∀ f ∈ qOf l, f.id ≠ 2 * l.length + 1 := by
  intro f hf e
  obtain ⟨k, hk, hl⟩ := qOf_mem hf
  have := (List.getElem?_eq_some_iff.1 hl).1
  omega
theorem qOf_at (l : List Fw) (k : Nat) (x : Fw) (h : l[k]? = some x) : (qOf l)[k]? = some ⟨2 * k + 1, x.win, x.oct, x.en⟩ := by
  obtain ⟨hlt, he⟩ := List.getElem?_eq_some_iff.1 h
  rw [List.getElem?_eq_getElem (by rw [qOf_length]; exact hlt)]
  simp [qOf, he]
theorem qOf_nodup (l : List Fw) : ((qOf l).map Fl.id).Nodup := by
  have e : (qOf l).map Fl.id = (List.range l.length).map (fun k => 2 * k + 1) := by
    apply List.ext_getElem?
    intro k
    rw [List.getElem?_map]
    by_cases h : k < l.length
    · rw [qOf_at l k l[k] (List.getElem?_eq_getElem h)]
      simp [h]
    · have h1 : (qOf l)[k]? = none := List.getElem?_eq_none (by rw [qOf_length]; omega)
      rw [h1]
      symm
      rw [Option.map_none, List.getElem?_eq_none_iff]
      simp
      omega
  rw [e]
  rw [List.Nodup, List.pairwise_map]
  exact List.nodup_range.imp (fun h e => h (by omega))
theorem qOf_ties (l : List Fw) : Ties (qOf l) l := ⟨fun f hf => qOf_mem hf, qOf_nodup l⟩
end Go.Sch
namespace Go.Proofs.Ytbjjphpkpmikjaa
open Go.RowKit Go.Own Go.Sch
set_option linter.unusedVariables false
set_option linter.unusedSimpArgs false
set_option maxRecDepth 100000
theorem ofInt64k (n : Nat) (h : n < 18446744073709551616) : (BitVec.ofInt 64 (n : Int)).toNat = n := by
  rw [BitVec.toNat_ofInt]; omega
/-- what is left of a number under a mask -/
theorem and_k (z : Int) (m : Nat) (hm : m < 9223372036854775808) (M : Int) (hM : M = (m : Int)) : 0 ≤ bits .and .i64 z M ∧ bits .and .i64 z M ≤ M := by
  subst hM
  have e : bits .and .i64 z (m : Int) = IntKind.i64.wrap ((BitVec.ofInt 64 z &&& BitVec.ofInt 64 (m : Int)).toNat : Int) := rfl
  have h := @Nat.and_le_right (BitVec.ofInt 64 z).toNat m
  rw [e, BitVec.toNat_and, ofInt64k m (by omega), IntKind.wrap_i64]
  omega
def a20 (z : Int) : Nat := (bits .and .i64 z 1048575).toNat
theorem a20_eq (z : Int) : bits .and .i64 z 1048575 = (a20 z : Int) ∧ a20 z ≤ 1048575 := by
  have := and_k z 1048575 (by decide) 1048575 rfl
  unfold a20
  omega
def cook (r : Rw) : Fw := ⟨(a20 r.w : Int) - 1000, a20 r.o, r.e⟩
def flowsOf (l : List Rw) : List Fw := (l.take 30).map cook
def rcell (r : Rw) : List Value := [.int .i64 r.w, .int .i64 r.o, .bool r.e]
def rcells (l : List Rw) : List Value := l.flatMap rcell
def wcell (f : Fw) : List Value := [.int .i64 f.win, .int .i64 (f.oct : Int), .bool f.en]
def wcells (l : List Fw) : List Value := l.flatMap wcell
theorem wcells_app (a b : List Fw) : wcells (a ++ b) = wcells a ++ wcells b := by simp [wcells]
theorem wcells_length : ∀ l : List Fw, (wcells l).length = l.length * 3
  | [] => rfl
  | f :: l => by
    have : wcells (f :: l) = wcell f ++ wcells l := rfl
    rw [this, List.length_append, wcells_length l, List.length_cons]
    simp [wcell]; omega
theorem rcells_at : ∀ (l : List Rw) (k : Nat) (r : Rw) (j : Nat), l[k]? = some r → j < 3 → (rcells l)[k * 3 + j]? = (rcell r)[j]?
  | [], k, r, j, h, _ => by simp at h
  | x :: l, 0, r, j, h, hj => by
    simp at h
    subst h
    have : rcells (x :: l) = rcell x ++ rcells l := rfl
    rw [this, Nat.zero_mul, Nat.zero_add, List.getElem?_append_left (by simpa [rcell] using hj)]
  | x :: l, k + 1, r, j, h, hj => by
    rw [List.getElem?_cons_succ] at h
    have : rcells (x :: l) = rcell x ++ rcells l := rfl
    have hl : (rcell x).length = 3 := rfl
    rw [this, List.getElem?_append_right (by omega), hl, show (k + 1) * 3 + j - 3 = k * 3 + j by omega]
    exact rcells_at l k r j h hj
theorem wcells_at : ∀ (l : List Fw) (k : Nat) (r : Fw) (j : Nat), l[k]? = some r → j < 3 → (wcells l)[k * 3 + j]? = (wcell r)[j]?
  | [], k, r, j, h, _ => by simp at h
  | x :: l, 0, r, j, h, hj => by
    simp at h
    subst h
    have : wcells (x :: l) = wcell x ++ wcells l := rfl
    rw [this, Nat.zero_mul, Nat.zero_add, List.getElem?_append_left (by simpa [wcell] using hj)]
  | x :: l, k + 1, r, j, h, hj => by
    rw [List.getElem?_cons_succ] at h
    have : wcells (x :: l) = wcell x ++ wcells l := rfl
    have hl : (wcell x).length = 3 := rfl
    rw [this, List.getElem?_append_right (by omega), hl, show (k + 1) * 3 + j - 3 = k * 3 + j by omega]
    exact wcells_at l k r j h hj
theorem flowsOf_length (l : List Rw) : (flowsOf l).length = min 30 l.length := by simp [flowsOf]
theorem flowsOf_at {l : List Rw} {k : Nat} (hk : k < 30) {r : Rw} (h : l[k]? = some r) : (flowsOf l)[k]? = some (cook r) := by
  rw [flowsOf, List.getElem?_map, List.getElem?_take, if_pos hk, h]; rfl
theorem flowsOf_mem {l : List Rw} {f : Fw} (h : f ∈ flowsOf l) : -1000 ≤ f.win ∧ f.win ≤ 1047575 ∧ f.oct ≤ 1048575 := by
  obtain ⟨r, _, rfl⟩ := List.mem_map.1 h
  have h1 := (a20_eq r.w).2
  have h2 := (a20_eq r.o).2
  unfold cook
  simp only
  omega
theorem flowsOf_ok (l : List Rw) (most : Int) : SdOk (qOf (flowsOf l)) 65535 (frV most) := by
  refine ⟨fun f hf => ?_, ?_, by decide, by decide, (frV_ok most).1, (frV_ok most).2⟩
  · obtain ⟨k, hk, hl⟩ := qOf_mem hf
    have hm := flowsOf_mem (List.mem_of_getElem? hl)
    have hlt := (List.getElem?_eq_some_iff.1 hl).1
    rw [flowsOf_length] at hlt
    simp only at hm
    omega
  · rw [qOf_length, flowsOf_length]; omega
theorem infoF11 : (Try.prog.info? 32).map (fun i => (i.zero, i.size, i.bytes)) = some (some (.agg #[.int .i64 0, .int .i64 0, .bool false]), 3, 24) := by kernel_rfl
section
variable {S : Nat → Prop} {w0 w : World} {L : List Ob} {O : Ob} {v : Value} {l : List Fw}
/-- a stream is put behind the others that the law remembers -/
theorem append_f (s : St S w0 w (O :: QO 32 3 v l.length (wcells l) :: L)) (f : Fw) {A : Option Addr} {c : Nat} (hr : Rd w 3 A 1 (wcell f)) (hb : l.length ≤ 1000000) :
    ∃ A' c' w', (Builtin.append_ #[22, 22] 22 #[v, .slice A 1 c]).run Try.prog w = .ok (.slice A' (l.length + 1) c') w' ∧ St S w0 w' (O :: QO 32 3 (.slice A' (l.length + 1) c') (l ++ [f]).length (wcells (l ++ [f])) :: L) := by
  obtain ⟨X, h, _, _, go⟩ := St.focus1 s
  have hone : ∀ u ∈ wcell f, u.oneCell' = true := fun u hu => by
    simp [wcell] at hu
    rcases hu with rfl | rfl | rfl <;> rfl
  obtain ⟨A', c', w', F', hrun, h2, h3, h4⟩ := run_append_qu (ty := 22) (c := c) Try.underlying22 infoF11 rfl (by omega) (by intro u hu; simp [Value.cells] at hu; rcases hu with rfl | rfl | rfl <;> rfl) h hr hone (by omega) (by omega)
  refine ⟨A', c', w', hrun, ?_⟩
  have e : wcells l ++ wcell f = wcells (l ++ [f]) := by rw [wcells_app]; simp [wcells]
  rw [e] at h2
  have := go w' (QO 32 3 (.slice A' (l.length + 1) c') (l ++ [f]).length (wcells (l ++ [f]))) [] (St.changed (framed_QO ..) (by rw [List.length_append]; exact h2) h4 h3)
  rwa [List.append_nil] at this
end
def PutP (w : World) (l : List Rw) (F : Nat) (e : Ending) (w' : World) : Prop := ∃ p A' d, e = .returned (.tuple #[.pointer (some ⟨p, 0, none⟩), .slice A' (flowsOf l).length d]) ∧
  St (fun _ => False) w w' [SO p [] (qOf (flowsOf l)) 65535 F, QO 32 3 (.slice A' (flowsOf l).length d) (flowsOf l).length (wcells (flowsOf l))]
set_option maxHeartbeats 16000000 in
theorem put_c {w : World} {A : Option Addr} {n c : Nat} {l : List Rw} (hr : Rd w 3 A n (rcells l)) (hn : l.length = n) (most : Int) (F : Nat) (hF : frV most = F) :
    Calls Try.prog 9 #[.int .i64 most, .slice A n c] w (PutP w l F) := by
  obtain ⟨N, hN⟩ : ∃ N, (flowsOf l).length = N := ⟨_, rfl⟩
  have hN2 : N = min 30 n := by rw [← hN, flowsOf_length, hn]
  have HF := Lib.hid hF
  have HR := Lib.hid hr
  have HN := Lib.hid hN
  have HN2 := Lib.hid hN2
  have Hn := Lib.hid hn
  clear hF hr hN hn hN2
  go_enter Try.func9, Try.ntmps9
  go_wp2_with (first
    | (go_at_call 13; (with_reducible refine (new_c most F HF.out).mono ?_); rintro e w1 ⟨p, rfl, t1⟩
       have T1 := Lib.hid (St.add t1 (St.made (w := w1) (w' := w1) (F := fun _ => False) (framed_QO 32 3 (.slice none 0 0) 0 []) (.inl ⟨rfl, rfl, rfl, rfl⟩) (fun _ h => h.elim) (Below.refl _ _)))
       clear t1))
  go_loopg [8, 7] N (fun gh i ov wr => ∃ (k : Nat) (A' : Option Addr) (d : Nat) (l' : List Fw), gh + k = N ∧ i = .int .i64 k ∧ ov = .slice A' k d ∧ l'.length = k ∧ Hid ((flowsOf l).take k = l') ∧
    Hid (St (fun _ => False) w wr [SO p [] (qOf l') 65535 F, QO 32 3 (.slice A' k d) l'.length (wcells l')]))
  case atStart => exact ⟨0, none, 0, [], by omega, rfl, rfl, rfl, rfl, T1.out⟩
  case round =>
    obtain ⟨k, A', d, l', hgk, rfl, rfl, hlen, HL, HS⟩ := hrel
    have hN2 := HN2.out
    cases gk with
    | zero =>
      obtain rfl : k = N := by omega
      have hl' : l' = flowsOf l := by rw [← HL.out, List.take_of_length_le (by rw [HN.out]; exact Nat.le_refl _)]
      subst hl'
      rw [hlen] at HS
      have hend : ¬ k < n ∨ (k < n ∧ ¬ k < 30) := by omega
      clear hN2 hgk hlen
      rcases hend with h1 | ⟨h1, h2⟩
      all_goals
        go_wp2
        refine bodyPost_ret (v := .tuple #[.pointer (some ⟨p, 0, none⟩), .slice A' k d]) (by simp [results, Try.results9, go_sem]) rfl ⟨p, A', d, by rw [HN.out], ?_⟩
        rw [HN.out]
        exact HS.out
    | succ g1 =>
      have hkn : k < n := by omega
      have hk30 : k < 30 := by omega
      obtain ⟨r, hr⟩ : ∃ r, l[k]? = some r := ⟨l[k]'(by rw [Hn.out]; exact hkn), List.getElem?_eq_getElem _⟩
      have hrw := HS.out.rd HR.out (fun _ _ h => h)
      obtain ⟨b, o, rfl, hc⟩ := hrw.2 (by omega)
      have at_ : ∀ j u, j < 3 → (rcell r)[j]? = some u → wr.cell? ⟨b, o + k * 3 + j, none⟩ = some u := by
        intro j u hj hu
        rw [Nat.add_assoc]
        exact hc _ _ (by rw [rcells_at l k r j hr hj]; exact hu)
      have c0 := at_ 0 _ (by omega) rfl
      have c1 := at_ 1 _ (by omega) rfl
      have c2 := at_ 2 _ (by omega) rfl
      have gl : b < wr.heap.size := World.block_lt_of_cell? _ _ c0
      rw [Nat.add_zero] at c0
      have hf := flowsOf_at hk30 hr
      obtain ⟨rw_, ro, re⟩ := r
      simp only at c0 c1 c2
      obtain ⟨x, hx⟩ : ∃ x, a20 rw_ = x := ⟨_, rfl⟩
      obtain ⟨y, hy⟩ : ∃ y, a20 ro = y := ⟨_, rfl⟩
      obtain ⟨win, hwin⟩ : ∃ win, (x : Int) - 1000 = win := ⟨_, rfl⟩
      have hx2 := a20_eq rw_
      have hy2 := a20_eq ro
      rw [hx] at hx2
      rw [hy] at hy2
      have m1 := hx2.1
      have m2 := hy2.1
      have m3 : IntKind.i64.wrap ((x : Int) - 1000) = win := (w64 (by omega) (by omega)).trans hwin
      have hck : cook ⟨rw_, ro, re⟩ = ⟨win, y, re⟩ := by unfold cook; rw [hx, hy, hwin]
      rw [hck] at hf
      have htk : Hid ((flowsOf l).take (k + 1) = l' ++ [⟨win, y, re⟩]) := by unfold Hid; rw [List.take_add_one, HL.out, hf]; rfl
      have HB := Lib.hid (show (-1000 ≤ win ∧ win ≤ 1047575) ∧ y ≤ 1048575 from ⟨by omega, hy2.2⟩)
      have HLen := Lib.hid hlen
      have i1 : IntKind.i64.wrap (2 * (k : Int)) = 2 * (k : Int) := w64 (by omega) (by omega)
      have i2 : IntKind.i64.wrap (2 * (k : Int) + 1) = 2 * (k : Int) + 1 := w64 (by omega) (by omega)
      have i3 : IntKind.i64.wrap ((k : Int) + 1) = (k : Int) + 1 := w64 (by omega) (by omega)
      have HK := Lib.hid hk30
      have r0 : wr.heap.size < wr.heap.size + 1 := by omega
      clear hrw hc at_ hr hf hx2 hy2 hck hwin hx hy hlen hN2
      go_upto_region 11 with (fail)
      obtain ⟨r1, hr1⟩ : ∃ r1, wr.heap.size = r1 := ⟨_, rfl⟩
      have t1 : St (fun _ => False) w (wr.alloc (.cells #[.int .i64 win, .int .i64 (y : Int), .bool re] 32)) [SO p [] (qOf l') 65535 F, QO 32 3 (.slice A' k d) l'.length (wcells l'), BLo r1 32 [.int .i64 win, .int .i64 (y : Int), .bool re]] := by
        rw [← hr1]
        exact St.block HS.out 32 [.int .i64 win, .int .i64 (y : Int), .bool re]
      rw [hr1]
      obtain ⟨W1, hW1⟩ : ∃ W1, wr.alloc (.cells #[.int .i64 win, .int .i64 (y : Int), .bool re] 32) = W1 := ⟨_, rfl⟩
      rw [hW1] at t1 ⊢
      have T1 := Lib.hid t1
      have bx := St.blk2 t1
      have b0 := bx.cell 0
      have bl := bx.lt
      simp only [List.getElem?_cons_zero] at b0
      clear c0 c1 c2 gl r0 t1 bx hW1 hr1 m1 m2 m3
      have P1 : Hid ((qOf l').length < 1000) := by unfold Hid; rw [qOf_length, HLen.out]; have := HK.out; omega
      have P2 : Hid ((((2 * k + 1 : Nat)) : Int) = 2 * (k : Int) + 1) := by unfold Hid; omega
      have P3 : Hid (∀ f ∈ qOf l', f.id ≠ 2 * k + 1) := by unfold Hid; have := qOf_new (l := l'); rw [HLen.out] at this; exact this
      have P4 : Hid (1 ≤ 2 * k + 1 ∧ 2 * k + 1 ≤ 2147483647 ∧ -2147483647 ≤ win ∧ win ≤ 2147483647) := by have := HK.out; have := HB.out; unfold Hid; omega
      have P5 : Hid ((qOf l' ++ [(⟨2 * k + 1, win, 0, false⟩ : Fl)]).length ≤ 1000) := by unfold Hid; have := P1.out; rw [List.length_append]; simp; omega
      have P6 : Hid (∀ g ∈ qOf l', (g.id : Int) ≠ 2 * (k : Int) + 1) := fun g hg e => P3.out g hg (by omega)
      have P7 : Hid (0 + y ≤ 2147483647) := by have := HB.out; unfold Hid; omega
      have P8 : Hid (qOf l' ++ (⟨2 * k + 1, win, 0 + y, re⟩ : Fl) :: [] = qOf (l' ++ [⟨win, y, re⟩])) := by unfold Hid; rw [qOf_snoc, HLen.out, Nat.zero_add]
      have P9 : Hid (l'.length ≤ 1000000) := by have := HLen.out; have := HK.out; unfold Hid; omega
      have hapf : Hid (∀ w3, St (fun _ => False) w w3 [SO p [] (qOf (l' ++ [⟨win, y, re⟩])) 65535 F, QO 32 3 (.slice A' k d) l'.length (wcells l'), BLo r1 32 [.int .i64 win, .int .i64 (y : Int), .bool re]] →
          ∃ A4 d4 w4, (Builtin.append_ #[22, 22] 22 #[.slice A' k d, .slice (some ⟨w3.heap.size, 0, none⟩) 1 1]).run Try.prog (w3.alloc (.cells #[.int .i64 win, .int .i64 (y : Int), .bool re] 32)) = .ok (.slice A4 (k + 1) d4) w4 ∧
            St (fun _ => False) w w4 [SO p [] (qOf (l' ++ [⟨win, y, re⟩])) 65535 F, QO 32 3 (.slice A4 (k + 1) d4) (l' ++ [(⟨win, y, re⟩ : Fw)]).length (wcells (l' ++ [⟨win, y, re⟩]))]) := by
        intro w3 h3
        have hrd := Rd.of_blk (n := 1) (size := 3) (Blk.new w3 32 [.int .i64 win, .int .i64 (y : Int), .bool re]) (by simp)
        obtain ⟨A4, d4, w4, hrun, h4⟩ := append_f (h3.alloc (.cells #[.int .i64 win, .int .i64 (y : Int), .bool re] 32)) ⟨win, y, re⟩ (c := 1) hrd P9.out
        rw [HLen.out] at hrun h4
        exact ⟨A4, d4, w4, hrun, St.drop2 h4⟩
      clear HK
      go_wp2_with (first
        | (go_at_call 14; (with_reducible refine (openI T1.out P1.out (2 * k + 1) _ win P2.out P4.out.1 P4.out.2.1 (by have := P4.out; omega) P4.out.2.2.2 P3.out _ rfl).mono ?_); rintro e w2 ⟨rfl, t2⟩
           have T2 := Lib.hid t2
           have bx := St.blk2 t2
           clear b0 bl
           have b0 := bx.cell 0
           have b1 := bx.cell 1
           have b2 := bx.cell 2
           have bl := bx.lt
           simp only [List.getElem?_cons_zero, List.getElem?_cons_succ] at b0 b1 b2
           clear t2 bx)
        | (go_at_call 15; (with_reducible refine (putI (a := qOf l') (f := ⟨2 * k + 1, win, 0, false⟩) (b := []) T2.out P5.out _ rfl P2.out P6.out y _ rfl re rfl P7.out _ P8.out).mono ?_); rintro e w3 ⟨rfl, t3⟩
           have bx := St.blk2 t3
           clear b0 b1 b2 bl
           have b0 := bx.cell 0
           have b1 := bx.cell 1
           have b2 := bx.cell 2
           have bl := bx.lt
           simp only [List.getElem?_cons_zero, List.getElem?_cons_succ] at b0 b1 b2
           obtain ⟨A4, d4, w4, hrun, h4⟩ := hapf.out _ t3
           have HRun := Lib.hid hrun
           have T4 := Lib.hid h4
           clear t3 bx hrun h4)
        | (at_builtin
           refine wpList_app_run rfl (.tmp 57) (.tmp 59) 22 22 rfl _ _ rfl rfl HRun.out ?_))
      go_roundg g1
      case measure => omega
      case rel => exact ⟨k + 1, A4, d4, _, by omega, by go_num, rfl, by rw [List.length_append, HLen.out]; rfl, htk.out, T4.out⟩
end Go.Proofs.Ytbjjphpkpmikjaa
