/- HpackBack, the walk: whatever the steps, true. -/
import Derived.Test.YtinieljgcenemaaDoorOp5
namespace Go.Proofs.YtinieljgcenemaaDoor
open Go.RowKit Go.Own Go.Tbl Go.Huf Go.Hin
set_option linter.unusedVariables false
set_option maxRecDepth 100000
attribute [local go_sem ↓] Go.wp_at_zero Go.wp_at_succ

theorem szs_leB {M : Nat} : ∀ (fs : List Fld), (∀ f ∈ fs, f.n.size ≤ M ∧ f.v.size ≤ M) → szs fs ≤ fs.length * (2 * M + 32)
  | [], _ => by simp [szs]
  | f :: r, h => by
    have h1 := h f (List.mem_cons_self ..)
    have h2 := szs_leB r (fun g hg => h g (List.mem_cons_of_mem _ hg))
    have h3 : sz f = f.n.size + f.v.size + 32 := rfl
    rw [szs, List.length_cons, Nat.add_mul]
    omega
/-- what is told has an end -/
def PdLe (pd : Pend) : Prop := ∀ a b, pd = some (a, b) → a ≤ 65536 ∧ b ≤ 65536
theorem PdLe.tell {pd : Pend} (h : PdLe pd) (n : Nat) (hn : n ≤ 65536) : PdLe (tell n pd) := by
  intro a b e
  cases pd with
  | none =>
    have e : some (n, n) = some (a, b) := e
    injection e with e
    injection e with e1 e2
    omega
  | some z =>
    obtain ⟨x, y⟩ := z
    have h1 := h x y rfl
    have e : some (min x n, n) = some (a, b) := e
    injection e with e
    injection e with e1 e2
    omega
theorem PdLe.none : PdLe none := fun a b e => by cases e
/-- a block that is written is read, whatever both were told -/
theorem block_told {h lim : Nat} {l fs : List Fld} {pd : Pend} (ok : Ok statL h l) (hp : PendOk lim h pd) (hl : PdLe pd) (hs : ∀ f ∈ fs, f.n.size ≤ 400 ∧ f.v.size ≤ 400) (hf : fs.length ≤ 20) : ∃ X h' l', blockE statL h l pd fs = (X, h', l') ∧ blockD statL lim h l X = some (fs, h', l') ∧ Ok statL h' l' ∧ X.length ≤ 1048576 ∧ h' ≤ lim := by
  refine ⟨_, _, _, rfl, ?_, blockE_ok hl ok, ?_, ?_⟩
  · exact blockD_blockE ok (fun f hf => by have := hs f hf; omega) hp
  · have h1 := blockE_len (M := 400) (by omega) hl ok hs
    have h2 : (blockE statL h l pd fs).1.length ≤ 1048576 := by omega
    exact h2
  · cases pd with
    | none => exact hp
    | some z =>
      obtain ⟨a, b⟩ := z
      obtain ⟨h1, h2, h3⟩ := hp
      show (updsE h l (some (a, b))).2.1 ≤ lim
      rw [updsE]
      split <;> (dsimp only; omega)
set_option maxHeartbeats 8000000 in
theorem lawBack {w : World} (m : Int) (hm : i64 m) {A1 : Option Addr} {n1 c1 : Nat} {os : List Op5} (ho : Ops5In w A1 n1 c1 os) (hC : Cnt w) :
    Calls Tryd.prog 5 #[.int .i64 m, .slice A1 n1 c1] w fun e w' => e = .returned (.bool true) ∧ Below w.heap.size w w' := by
  obtain ⟨h0, hh⟩ : ∃ h, clampI m = h := ⟨_, rfl⟩
  have hh2 : h0 ≤ 65536 := hh ▸ clampI_le m
  have hOk := ok_new h0 hh2
  have hncm : n1 ≤ 9223372036854775807 := Nat.le_trans ho.nc ho.cm
  have Ho := Lib.hid ho
  have HC := Lib.hid hC
  have Hm := Lib.hid hm
  have Hh := Lib.hid hh
  have HOk := Lib.hid hOk
  clear ho hC hm hh hOk
  go_enter Tryd.func5, Tryd.ntmps5
  go_wp2_with (first
    | (go_at_call 12; (with_reducible refine (shown5 _ HC.out).mono ?_); rintro e w1 ⟨rfl, hb1⟩
       have S1 : Hid (St NoS w w1 []) := (St.nil NoS w).next hb1
       clear hb1)
    | (go_at_call 13; (with_reducible refine (lNewE S1.out m Hm.out h0 Hh.out).mono ?_); rintro e w2 ⟨p, rfl, s2⟩
       have S2 : Hid (St NoS w w2 [PEo p h0 [] none]) := s2
       clear s2)
    | (go_at_call 25; (with_reducible refine (lNewD S2.out m Hm.out 1099511627776 h0 Hh.out).mono ?_); rintro e w3 ⟨d, rfl, s3⟩
       have S3 : Hid (St NoS w w3 [PEo p h0 [] none, PDo d h0 1099511627776 (some (h0, []))]) := s3
       clear s3))
  go_loopg [8] (min n1 30) (fun gh i w' => ∃ (k hk lim : Nat) (lk : List Fld) (pd : Pend), gh + k = min n1 30 ∧ i = .int .i64 (k : Int) ∧ Ok statL hk lk ∧ PendOk lim hk pd ∧ PdLe pd ∧ lim ≤ 65536 ∧ St NoS w w' [PEo p hk lk pd, PDo d lim 1099511627776 (some (hk, lk))])
  case atStart => exact ⟨0, h0, h0, [], none, by omega, rfl, HOk.out, Nat.le_refl h0, PdLe.none, hh2, S3.out⟩
  case round =>
    obtain ⟨k, hk, lim, lk, pd, hgk, rfl, hok, hpd, hle, hlim, s⟩ := hrel
    cases gk with
    | succ g1 =>
      have hkn : k < n1 := by omega
      have hk30 : k < 30 := by omega
      obtain ⟨o, hf⟩ : ∃ o, os[k]? = some o := ⟨_, List.getElem?_eq_getElem (by rw [Ho.out.len]; exact hkn)⟩
      obtain ⟨bb, oo, hA, e0, e1, e2, e3⟩ := rd_op5 Ho.out.rd hf
      have d0 := s.fr.cell e0 (fun h => h)
      have d1 := s.fr.cell e1 (fun h => h)
      have d2 := s.fr.cell e2 (fun h => h)
      have E1 := Lib.hid e1
      clear e0 e1 e2 e3
      have hOp := Ho.out.ok o (List.mem_of_getElem? hf)
      have HOp := Lib.hid hOp
      have k1 : (k : Int) < (n1 : Int) := by omega
      have k2 : (k : Int) < 30 := by omega
      have S4 := Lib.hid s
      have Hok := Lib.hid hok
      have Hpd := Lib.hid hpd
      have Hle := Lib.hid hle
      have hbl := World.block_lt_of_cell? _ _ d0
      cases hA
      clear s hf hok hpd hle hOp
      by_cases hkd : o.kind = 1
      · have kb : (o.kind == 1) = true := by simp [hkd]
        obtain ⟨nn, hnn⟩ : ∃ nn, clampI o.n = nn := ⟨_, rfl⟩
        have hnn2 : nn ≤ 65536 := hnn ▸ clampI_le o.n
        have Hnn := Lib.hid hnn
        clear hkd hnn
        go_wp2_with (first
          | (go_at_call 15; (with_reducible refine (lSetMaxE0 S4.out o.n HOp.out.n nn Hnn.out).mono ?_); rintro e w5 ⟨rfl, s5⟩
             have S5 := Lib.hid s5
             have g1' := s5.fr.cell E1.out (fun h => h)
             clear s5)
          | (go_at_call 27; (with_reducible refine (lSetMaxD1 S5.out o.n HOp.out.n nn Hnn.out).mono ?_); rintro e w6 ⟨rfl, s6⟩
             have S6 := Lib.hid s6
             clear s6))
        go_roundg g1
        case measure => omega
        case rel => exact ⟨k + 1, hk, nn, lk, tell nn pd, by omega, by go_num, Hok.out, Hpd.out.tell nn hnn2, Hle.out.tell nn hnn2, hnn2, S6.out⟩
      · have kb : (o.kind == 1) = false := by simp [hkd]
        have hsz := smallL_sz o.fs
        have hln := smallL_len o.fs
        obtain ⟨fs, hfs⟩ : ∃ fs, smallL o.fs = fs := ⟨_, rfl⟩
        rw [hfs] at hsz hln
        obtain ⟨X, h', l', eX, hd, hok', b1, hlim'⟩ := block_told Hok.out Hpd.out Hle.out hsz hln
        have hsl : szs fs ≤ 16640 := by
          have := szs_leB fs hsz
          omega
        have hR : decR lim 1099511627776 (some (hk, lk)) X = (fs, 0, some (h', l')) := by
          simp only [decR, hd]
          rw [if_neg (by omega)]
        obtain ⟨N1, hN1⟩ : ∃ N1, X.length = N1 := ⟨_, rfl⟩
        rw [hN1] at b1
        obtain ⟨z, hz⟩ : ∃ z, szs l' = z := ⟨_, rfl⟩
        have hzh : z ≤ h' := hz ▸ hok'.le
        have Hfs := Lib.hid hfs
        have EX := Lib.hid eX
        have HR := Lib.hid hR
        have HN1 := Lib.hid hN1
        have HZ := Lib.hid hz
        have Hok' := Lib.hid hok'
        have Hbig : Hid (∀ f ∈ fs, f.n.size ≤ 16777216 ∧ f.v.size ≤ 16777216) := fun f hf => by have := hsz f hf; omega
        have kz : ¬ (h' : Int) < (z : Int) := by omega
        have kzb : decide (h' < z) = false := decide_eq_false (by omega)
        clear hkd hsz hfs eX hd hok' hR hN1 hz
        go_wp2_with (first
          | (go_at_call 17; (with_reducible refine (lSmall S4.out HOp.out.l.rd HOp.out.l.len (Nat.le_trans HOp.out.l.nc HOp.out.l.cm) HOp.out.l.ok).mono ?_); rintro e w5 ⟨A5, m5, c5, rfl, hm5, s5⟩
             have s6 : St NoS w w5 [PEo p hk lk pd, PDo d lim 1099511627776 (some (hk, lk)), FSo w.heap.size A5 c5 m5 (smallL o.fs)] := s5
             rw [Hfs.out] at s6 hm5
             have hm5l : m5 ≤ 20 := by omega
             have M5 := Lib.hid hm5
             have S5 := Lib.hid s6
             clear s5 s6 hm5)
          | (go_at_call 29; (with_reducible refine (lDecode1 S6.out HC.out (List.Mem.tail _ (List.Mem.tail _ (List.Mem.head _))) (by omega) fs 0 _ HR.out m5 M5.out).mono ?_); rintro e w7 ⟨A7, c7, rfl, s7⟩
             have S7 : Hid (St NoS w w7 [PEo p h' l' none, PDo d lim 1099511627776 (some (h', l')), FSo w.heap.size A5 c5 m5 fs, FSo w.heap.size A7 c7 m5 fs]) := s7.drop3
             clear s7)
          | (go_at_call 18; (with_reducible refine (lEncode0 S5.out HC.out (List.Mem.tail _ (List.Mem.head _)) M5.out (by omega) Hbig.out X h' l' EX.out N1 HN1.out (by omega)).mono ?_); rintro e w6 ⟨A6, c6, rfl, s6⟩
             have S6 := Lib.hid s6
             clear s6)
          | (go_at_call 19; (with_reducible refine (r5Same_eq (Rd.of_own S7.out.own3) (Rd.of_own S7.out.own2) M5.out (by omega)).mono ?_); rintro e w8 ⟨rfl, hb⟩
             have S8 : Hid (St NoS w w8 [PEo p h' l' none, PDo d lim 1099511627776 (some (h', l'))]) := ((S7.out.next hb).drop3).drop2
             clear hb))
        clear S4 S5 S6 S7 HR EX HN1
        go_quiet (first
          | (go_at_call 21; exact Calls.quiet_of_same (lSizeE0 (S8.out.drewN _) z HZ.out))
          | (go_at_call 21; exact Calls.quiet_of_same (lSizeD1 (S8.out.drewN _) z HZ.out))
          | (go_at_call 23; exact Calls.quiet_of_same (lMaxE0 (S8.out.drewN _)))
          | (go_at_call 23; exact Calls.quiet_of_same (lMaxD1 (S8.out.drewN _))))
        have S9 := Lib.hid (S8.out.drewN nq)
        clear S8
        try simp only [Exit.then]
        try refine ‹∀ (a : Act) (w : World), Code.wp Tryd.prog (Code.cond _ _ _) _ a w → _› _ _ ?_
        try simp [Act.put, List.getElem_toArray]
        go_wp2
        go_roundg g1
        case measure => omega
        case rel => exact ⟨k + 1, h', lim, l', none, by omega, by go_num, Hok'.out, hlim', PdLe.none, hlim, S9.out⟩
    | zero =>
      have S4 := Lib.hid s
      have hc : (¬ (k : Int) < (n1 : Int)) ∨ ((k : Int) < (n1 : Int) ∧ ¬ (k : Int) < 30) := by omega
      clear s
      rcases hc with hc | ⟨hc, hc2⟩
      all_goals
        go_wp2
        go_ret
        exact ⟨rfl, S4.out.below⟩
end Go.Proofs.YtinieljgcenemaaDoor
