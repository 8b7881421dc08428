/- same: the program's table and the document's answer have the same. -/
import Derived.Test.YtefjjmhbbcganaaTblE
import Derived.Test.YtefjjmhbbcganaaTblLK
namespace Go.Proofs.Ytefjjmhbbcganaa
open Go.RowKit Go.Own Go.Tbl
set_option linter.unusedVariables false
attribute [local go_sem ↓] Go.wp_at_zero Go.wp_at_succ

/-- both tables, as they are read -/
structure SM (w : World) (p r h : Nat) (L : List Fld) (A : Option Addr) (n c : Nat) : Prop where
  t : ∃ F, PT w p F h L
  r : RT w r A n c h L
section
variable {w w' : World} {p r h n c : Nat} {L : List Fld} {A : Option Addr}
theorem SM.next (s : SM w p r h L A n c) (hb : Below w.heap.size w w') : SM w' p r h L A n c := by
  obtain ⟨F, ht⟩ := s.t
  exact ⟨⟨F, ht.fr (Fr.of_below (S := fun i => w.heap.size ≤ i) hb (fun _ _ h => h)) (fun i hi => by have := ht.lt i hi; omega)⟩, s.r.below hb⟩
theorem SM.alloc (s : SM w p r h L A n c) (o : Obj) : SM (w.alloc o) p r h L A n c := s.next ((Below.refl _ _).alloc (Nat.le_refl _) _)
theorem SM.drewN (s : SM w p r h L A n c) (q : Nat) : SM (w.drewN q) p r h L A n c := s.next (below_drewN (Below.refl _ _) q)
theorem SM.cells (s : SM w p r h L A n c) : w.cell? ⟨r, 0, none⟩ = some (.slice A n c) ∧ w.cell? ⟨r, 1, none⟩ = some (.int .i64 (h : Int)) := ⟨s.r.at_.cell 0, s.r.at_.cell 1⟩
theorem SM.len (s : SM w p r h L A n c) : L.length = n := s.r.len
theorem SM.ok (s : SM w p r h L A n c) : ∀ f ∈ L, fok f ∧ f.nv = false := by obtain ⟨F, ht⟩ := s.t; exact ht.ok
theorem SM.small (s : SM w p r h L A n c) : szs L ≤ 65536 ∧ n ≤ 2048 := by
  obtain ⟨F, ht⟩ := s.t
  have h1 := ht.le
  have h2 := ht.top
  have h3 := len_szs L
  have h4 := s.len
  omega
theorem sLen (s : SM w p r h L A n c) : Calls Try.prog 29 #[.pointer (some ⟨p, 0, none⟩)] w fun e w' => e = .returned (.int .i64 (n : Int)) ∧ w = w' := by
  obtain ⟨F, ht⟩ := s.t
  exact pLen_q ht n s.len
theorem sSize (s : SM w p r h L A n c) (z : Nat) (hz : szs L = z) : Calls Try.prog 30 #[.pointer (some ⟨p, 0, none⟩)] w fun e w' => e = .returned (.int .i64 (z : Int)) ∧ w = w' := by
  obtain ⟨F, ht⟩ := s.t
  exact pTSize_q ht z hz
theorem sMax (s : SM w p r h L A n c) : Calls Try.prog 31 #[.pointer (some ⟨p, 0, none⟩)] w fun e w' => e = .returned (.int .i64 (h : Int)) ∧ w = w' := by
  obtain ⟨F, ht⟩ := s.t
  exact pMax_q ht
theorem sAt (s : SM w p r h L A n c) (i : Int) (hi : i64 i) (a b : ByteArray) (hR : atL (statL ++ L) i = some ⟨a, b, false⟩) : Calls Try.prog 22 #[.pointer (some ⟨p, 0, none⟩), .int .i64 i] w fun e w' => e = .returned (.tuple #[.agg #[.string a, .string b, .bool false], .bool true]) ∧ Below w.heap.size w w' := by
  obtain ⟨F, ht⟩ := s.t
  refine (pAt_c ht i hi).mono ?_
  rintro e w' ⟨rfl, hb⟩
  rw [hR]
  exact ⟨rfl, hb⟩
theorem sAt_no (s : SM w p r h L A n c) (i : Int) (hi : i64 i) (hR : atL (statL ++ L) i = none) : Calls Try.prog 22 #[.pointer (some ⟨p, 0, none⟩), .int .i64 i] w fun e w' => e = .returned (.tuple #[.agg #[.string ⟨#[]⟩, .string ⟨#[]⟩, .bool false], .bool false]) ∧ Below w.heap.size w w' := by
  obtain ⟨F, ht⟩ := s.t
  refine (pAt_c ht i hi).mono ?_
  rintro e w' ⟨rfl, hb⟩
  rw [hR]
  exact ⟨rfl, hb⟩
end
set_option maxRecDepth 100000 in
set_option maxHeartbeats 4000000 in
theorem same_any {w : World} {p r h n c : Nat} {L : List Fld} {A : Option Addr} (s : SM w p r h L A n c) : Calls Try.prog 28 #[.pointer (some ⟨p, 0, none⟩), .pointer (some ⟨r, 0, none⟩)] w fun e w' => e = .returned (.bool true) ∧ Below w.heap.size w w' := by
  obtain ⟨z, hz⟩ : ∃ z, szs L = z := ⟨_, rfl⟩
  have Hz := Lib.hid hz
  obtain ⟨hsm, hn⟩ := s.small
  rw [hz] at hsm
  have Hs := Lib.hid s
  have Hsd : Hid (SM w.drew p r h L A n c) := s.drewN 1
  have hlen := s.len
  have Hlen := Lib.hid hlen
  have hok := s.ok
  have Hok := Lib.hid hok
  have hz2 : szs L ≤ 4611686018427387904 := by omega
  have hncm := Nat.le_trans s.r.nc s.r.cm
  obtain ⟨c0, c1⟩ := s.cells
  have c0' : w.drew.cell? ⟨r, 0, none⟩ = some (.slice A n c) := c0
  have c1' : w.drew.cell? ⟨r, 1, none⟩ = some (.int .i64 (h : Int)) := c1
  have hz3 : z ≤ 4611686018427387904 := by omega
  clear s hz hlen hok hz2
  go_enter Try.func28, Try.ntmps28
  go_wp2
  go_region_held (fun w' => w'.cell? ⟨r, 0, none⟩ = some (.slice A n c) ∧ w'.cell? ⟨r, 1, none⟩ = some (.int .i64 (h : Int)))
    (first | exact ⟨c0', c1'⟩ | exact ⟨d0, d1⟩)
    (first
    | (go_at_call 29; (with_reducible refine (sLen Hsd.out).mono ?_); rintro e w2 ⟨rfl, rfl⟩)
    | (go_at_call 30; (with_reducible refine (sSize Hsd.out z Hz.out).mono ?_); rintro e w2 ⟨rfl, rfl⟩)
    | (go_at_call 39; (with_reducible refine (rTSize_any Hsd.out.r z Hz.out hz3).mono ?_); rintro e w3 ⟨rfl, b3⟩
       have S3 := Lib.hid (Hsd.out.next b3)
       have B3 : Hid (Below w.heap.size w w3) := ⟨b3.os, b3.tape, b3.output, b3.size, b3.block⟩
       obtain ⟨d0, d1⟩ := S3.out.cells
       clear b3)
    | (go_at_call 31; (with_reducible refine (sMax S3.out).mono ?_); rintro e w4 ⟨rfl, rfl⟩))
  all_goals
    clear c0 c1 c0' c1' d0 d1
    go_wp2
    go_loopg [5, 6, 7] n (fun gh vk x6 x7 w' => ∃ kk : Nat, gh + kk = n ∧ vk = .int .i64 (kk : Int) ∧ SM w' p r h L A n c ∧ Below w.heap.size w w')
    case atStart => exact ⟨0, by omega, rfl, S3.out, B3.out⟩
    case round =>
      obtain ⟨kk, hkk, rfl, hs, hb⟩ := hrel
      have HS := Lib.hid hs
      have HB := Lib.hid hb
      obtain ⟨d0, d1⟩ := hs.cells
      clear hs hb
      cases gk with
      | succ g1 =>
        have hkn : kk < n := by omega
        obtain ⟨y, hy⟩ : ∃ y, L[kk]? = some y := ⟨_, List.getElem?_eq_getElem (by rw [Hlen.out]; exact hkn)⟩
        have hat := at_entry Hok.out hy
        have Hat := Lib.hid hat
        have hynv := (Hok.out y (List.mem_of_getElem? hy)).2
        have Hynv := Lib.hid hynv
        have Hy := Lib.hid hy
        have hji : i64 (62 + (kk : Int)) := by unfold i64; omega
        have k3 : decide (kk < n) = true := decide_eq_true hkn
        have k5 : (kk : Int) < (n : Int) := by omega
        clear hat hynv hy
        go_wp2_with (first
          | (go_at_call 22; (with_reducible refine (sAt HS.out (62 + (kk : Int)) hji y.n y.v Hat.out).mono ?_); rintro e w8 ⟨rfl, b8⟩
             have HS8 := Lib.hid ((HS.out.next b8).alloc (.cells #[.string y.n, .string y.v, .bool false] 23))
             have b9 := HB.out.trans (b8.mono HB.out.size)
             have HB8 := Lib.hid (b9.alloc b9.size (.cells #[.string y.n, .string y.v, .bool false] 23))
             clear b8 b9))
        clear d0 d1
        obtain ⟨b2, o2, ee, d0, d1, d2⟩ := rd_fld HS8.out.r.rd Hy.out
        cases ee
        rw [Hynv.out] at d2
        have X8 := Blk.new w8 23 [.string y.n, .string y.v, .bool false]
        have x0 := X8.cell 0
        have x1 := X8.cell 1
        have x2 := X8.cell 2
        simp only [List.getElem?_cons_zero, List.getElem?_cons_succ] at x0 x1 x2
        obtain ⟨r0, _⟩ := HS8.out.cells
        clear X8
        generalize w8.heap.size = g8 at x0 x1 x2 ⊢
        generalize w8.alloc (.cells #[.string y.n, .string y.v, .bool false] 23) = w9 at HS8 HB8 x0 x1 x2 d0 d1 d2 r0 ⊢
        go_quiet (fail)
        go_wp2
        go_roundg g1
        case measure => omega
        case rel => exact ⟨kk + 1, by omega, by go_num, HS8.out.drewN _, below_drewN HB8.out _⟩
      | zero =>
        obtain rfl : kk = n := by omega
        have hno : atL (statL ++ L) (62 + (kk : Int)) = none := by unfold atL; rw [if_pos (by rw [List.length_append, statL_length, Hlen.out]; omega)]
        have Hno := Lib.hid hno
        have hji : i64 (62 + (kk : Int)) := by unfold i64; omega
        clear hno
        go_wp2_with (first
          | (go_at_call 22; (with_reducible refine (sAt_no HS.out (62 + (kk : Int)) hji Hno.out).mono ?_); rintro e w8 ⟨rfl, b8⟩
             have b9 := Lib.hid (HB.out.trans (b8.mono HB.out.size))
             clear b8))
        go_ret
        exact ⟨rfl, b9.out.alloc b9.out.size _⟩
end Go.Proofs.Ytefjjmhbbcganaa
