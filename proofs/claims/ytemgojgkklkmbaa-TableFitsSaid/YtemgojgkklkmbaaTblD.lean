/- The document's table: Find. -/
import Derived.Test.YtemgojgkklkmbaaTblQ
namespace Go.Proofs.Ytemgojgkklkmbaa
open Go.RowKit Go.Own Go.Tbl
set_option linter.unusedVariables false
attribute [local go_sem ↓] Go.wp_at_zero Go.wp_at_succ

theorem place_hit {p : Fld → Bool} : ∀ {l : List Fld} {k : Nat} {f : Fld}, l[k]? = some f → p f = true → (∀ (j : Nat) (g : Fld), j < k → l[j]? = some g → p g = false) → place p l = some k
  | [], k, f, h, _, _ => by simp at h
  | x :: r, 0, f, h, hp, _ => by
    rw [List.getElem?_cons_zero] at h
    obtain rfl := Option.some.inj h
    rw [place, if_pos hp]
  | x :: r, k + 1, f, h, hp, hl => by
    have h0 : p x = false := hl 0 x (by omega) rfl
    rw [place, if_neg (by simp [h0]), place_hit (l := r) (k := k) (by rw [List.getElem?_cons_succ] at h; exact h) hp (fun j g hj hg => hl (j + 1) g (by omega) (by rw [List.getElem?_cons_succ]; exact hg))]
    rfl
theorem place_miss {p : Fld → Bool} : ∀ {l : List Fld}, (∀ (j : Nat) (g : Fld), l[j]? = some g → p g = false) → place p l = none
  | [], _ => rfl
  | x :: r, hl => by
    have h0 : p x = false := hl 0 x rfl
    rw [place, if_neg (by simp [h0]), place_miss (l := r) (fun j g hg => hl (j + 1) g (by rw [List.getElem?_cons_succ]; exact hg))]
    rfl
/-- none of the first k ones -/
def Miss (p : Fld → Bool) (l : List Fld) (k : Nat) : Prop := ∀ (j : Nat) (g : Fld), j < k → l[j]? = some g → p g = false
theorem Miss.zero (p : Fld → Bool) (l : List Fld) : Miss p l 0 := fun j g h => absurd h (Nat.not_lt_zero j)
theorem Miss.step {p : Fld → Bool} {l : List Fld} {k : Nat} {f : Fld} (h : Miss p l k) (hf : l[k]? = some f) (hp : p f = false) : Miss p l (k + 1) := by
  intro j g hj hg
  by_cases e : j = k
  · subst e
    rw [hf] at hg
    obtain rfl := Option.some.inj hg
    exact hp
  · exact h j g (by omega) hg
theorem Miss.all {p : Fld → Bool} {l : List Fld} {k : Nat} (h : Miss p l k) (hk : l.length ≤ k) : place p l = none :=
  place_miss (fun j g hg => h j g (by have := (List.getElem?_eq_some_iff.1 hg).1; omega) hg)
theorem find_same {all : List Fld} {f : Fld} {k : Nat} (h : place (sameB f) all = some k) : findF all f = (k + 1, true) := by rw [findF, h]
theorem find_name {all : List Fld} {f : Fld} {k : Nat} (h0 : place (sameB f) all = none) (h : place (nameB f) all = some k) : findF all f = (k + 1, false) := by rw [findF, h0, h]
theorem find_none {all : List Fld} {f : Fld} (h0 : place (sameB f) all = none) (h : place (nameB f) all = none) : findF all f = (0, false) := by rw [findF, h0, h]
set_option maxRecDepth 100000 in
set_option maxHeartbeats 8000000 in
theorem rFind_any {w : World} {p : Nat} {A : Option Addr} {n c h : Nat} {l : List Fld} (t : RT w p A n c h l) (hsz : szs l ≤ 65536) (f : Fld) (R1 : Nat) (R2 : Bool) (hR : findF (statL ++ l) f = (R1, R2)) :
    Calls Try.prog 24 #[.pointer (some ⟨p, 0, none⟩), .agg #[.string f.n, .string f.v, .bool f.nv]] w fun e w' => e = .returned (.tuple #[.int .i64 (R1 : Int), .bool R2]) ∧ Below w.heap.size w w' := by
  have hn : n ≤ 2048 := by have h1 := len_szs l; have := t.len; omega
  have hlen : (statL ++ l).length = 61 + n := by rw [List.length_append, statL_length, t.len]
  have Ht := Lib.hid t
  have hp := Blk.lt t.at_
  have HR := Lib.hid hR
  have Hlen := Lib.hid hlen
  have hN : ∃ N, 61 + n = N := ⟨_, rfl⟩
  obtain ⟨N, hN⟩ := hN
  have eN : (61 : Int) + (n : Int) = (N : Int) := by omega
  have HN := Lib.hid hN
  have Ht1 : Hid (RT (w.alloc (.cells #[.string f.n, .string f.v, .bool f.nv] 23)) p A n c h l) := t.alloc _
  have Hv1 : Hid (Blk (w.alloc (.cells #[.string f.n, .string f.v, .bool f.nv] 23)) w.heap.size 23 [.string f.n, .string f.v, .bool f.nv]) := Blk.new w 23 [.string f.n, .string f.v, .bool f.nv]
  clear t hsz hR hlen
  go_enter Try.func24, Try.ntmps24
  go_wp2_with (first
    | (go_at_call 10; (with_reducible refine (rStatics_w _).mono ?_); rintro e w2 ⟨g, rfl, ho2, hg2, hb2⟩; have Ht2 := Lib.hid (Ht1.out.below hb2); have Hv2 := Lib.hid (Hv1.out.below hb2 (Blk.lt Hv1.out)); have Ho2 := Lib.hid ho2; have q0 := Ht2.out.at_.cell 0; simp only [List.getElem?_cons_zero] at q0; have HB2 := Lib.hid (((Below.refl _ _).alloc (Nat.le_refl _) _).trans (hb2.mono (by simp))); have hs2 := hb2.size; have Hg2 := Lib.hid hg2; clear ho2 hg2 hb2)
    | (at_builtin
       refine wpList_append_rd rfl (.tmp 10) (.tmp 14) 25 rfl EF (.slice (some ⟨g, 0, none⟩) 61 61) 61 (fcellsL statL) rfl Ho2.out A n c (fcellsL l) rfl Ht2.out.rd (fcells_one _) (by omega) (by unfold maxLen; omega) hs2 ?_
       intro A6 c6 w6 ho6 hf6 hat
       rw [← fcellsL_append, HN.out] at ho6
       have Ho6 := Lib.hid ho6
       have Hv6 := Lib.hid (Hv2.out.fr hf6 (fun e => by have := Hg2.out; simp [Value.ownBlock] at e this; omega))
       have HB6 := Lib.hid (HB2.out.trans (hf6.below (B := w.heap.size) HB2.out.size (fun i _ e => by have := Hg2.out; simp [Value.ownBlock] at e this; omega)))
       have y0 := Hv6.out.cell 0
       have y1 := Hv6.out.cell 1
       have y2 := Hv6.out.cell 2
       simp only [List.getElem?_cons_zero, List.getElem?_cons_succ] at y0 y1 y2
       clear ho6 hf6 hat))
  go_loopg [7] N (fun gh i w' => ∃ (k q : Nat), gh + k = N ∧ i = .int .i64 (k : Int) ∧ Miss (sameB f) (statL ++ l) k ∧ w' = w6.drewN q)
  case atStart => exact ⟨0, 0, by omega, rfl, Miss.zero _ _, rfl⟩
  case round =>
    obtain ⟨k, q, hk, rfl, hmiss, rfl⟩ := hrel
    have HM := Lib.hid hmiss
    clear hmiss
    cases gk with
    | succ g1 =>
      have hkN : k < N := by omega
      obtain ⟨x, hx⟩ : ∃ x, (statL ++ l)[k]? = some x := ⟨_, List.getElem?_eq_getElem (by rw [Hlen.out, HN.out]; exact hkN)⟩
      obtain ⟨bb, oo, ha6, d0, d1, d2⟩ := rd_fld (Rd.of_own Ho6.out) hx
      subst ha6
      have Hx := Lib.hid hx
      have k1 : (k : Int) < (N : Int) := by omega
      obtain ⟨b1, hb1⟩ : ∃ b1, (x.n.toList == f.n.toList) = b1 := ⟨_, rfl⟩
      obtain ⟨b2, hb2⟩ : ∃ b2, (x.v.toList == f.v.toList) = b2 := ⟨_, rfl⟩
      have hs : sameB f x = (b1 && b2) := by rw [sameB, hb1, hb2]
      have Hs := Lib.hid hs
      clear hx hs
      cases b1
      · go_wp2
        go_quiet (fail)
        go_wp2
        go_roundg g1
        case measure => omega
        case rel => exact ⟨k + 1, _, by omega, by go_num, HM.out.step Hx.out Hs.out, rfl⟩
      · cases b2
        · go_wp2
          go_quiet (fail)
          go_wp2
          go_roundg g1
          case measure => omega
          case rel => exact ⟨k + 1, _, by omega, by go_num, HM.out.step Hx.out Hs.out, rfl⟩
        · have hr : findF (statL ++ l) f = (k + 1, true) := find_same (place_hit Hx.out Hs.out HM.out)
          rw [HR.out] at hr
          injection hr with hr1 hr2
          subst hr1 hr2
          go_wp2
          go_quiet (fail)
          go_wp2
          go_ret2
          exact ⟨by go_num, below_drewN HB6.out _⟩
    | zero =>
      obtain rfl : k = N := by omega
      have hnone : place (sameB f) (statL ++ l) = none := HM.out.all (by rw [Hlen.out, HN.out]; exact Nat.le_refl _)
      have Hnone := Lib.hid hnone
      clear hnone
      go_wp2
      go_loopg [8] k (fun gh i w' => ∃ (m q' : Nat), gh + m = k ∧ i = .int .i64 (m : Int) ∧ Miss (nameB f) (statL ++ l) m ∧ w' = w6.drewN q')
      case atStart => exact ⟨0, q, by omega, rfl, Miss.zero _ _, rfl⟩
      case round =>
        clear HM
        obtain ⟨m, q', hm, rfl, hmiss, rfl⟩ := hrel
        have HM := Lib.hid hmiss
        clear hmiss
        cases gk with
        | succ g1 =>
          have hmN : m < k := by omega
          obtain ⟨x, hx⟩ : ∃ x, (statL ++ l)[m]? = some x := ⟨_, List.getElem?_eq_getElem (by rw [Hlen.out, HN.out]; exact hmN)⟩
          obtain ⟨bb, oo, ha6, d0, d1, d2⟩ := rd_fld (Rd.of_own Ho6.out) hx
          subst ha6
          have Hx := Lib.hid hx
          have k1 : (m : Int) < (k : Int) := by omega
          obtain ⟨b1, hb1⟩ : ∃ b1, (x.n.toList == f.n.toList) = b1 := ⟨_, rfl⟩
          have hs : nameB f x = b1 := by rw [nameB, hb1]
          have Hs := Lib.hid hs
          clear hx hs
          cases b1
          · go_wp2
            go_quiet (fail)
            go_wp2
            go_roundg g1
            case measure => omega
            case rel => exact ⟨m + 1, _, by omega, by go_num, HM.out.step Hx.out Hs.out, rfl⟩
          · have hr : findF (statL ++ l) f = (m + 1, false) := find_name Hnone.out (place_hit Hx.out Hs.out HM.out)
            rw [HR.out] at hr
            injection hr with hr1 hr2
            subst hr1 hr2
            go_wp2
            go_quiet (fail)
            go_wp2
            go_ret2
            exact ⟨by go_num, below_drewN HB6.out _⟩
        | zero =>
          obtain rfl : m = k := by omega
          have hr : findF (statL ++ l) f = (0, false) := find_none Hnone.out (HM.out.all (by rw [Hlen.out, HN.out]; exact Nat.le_refl _))
          rw [HR.out] at hr
          injection hr with hr1 hr2
          subst hr1 hr2
          go_wp2
          go_ret2
          exact ⟨rfl, below_drewN HB6.out _⟩
end Go.Proofs.Ytemgojgkklkmbaa
