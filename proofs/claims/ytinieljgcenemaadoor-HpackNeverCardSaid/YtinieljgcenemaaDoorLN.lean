/- HpackNever, the walk: whatever the fields, true. -/
import Derived.Test.YtinieljgcenemaaDoorG8
namespace Go.Proofs.YtinieljgcenemaaDoor
open Go.RowKit Go.Own Go.Tbl Go.Huf Go.Hin
set_option linter.unusedVariables false
set_option maxRecDepth 100000
attribute [local go_sem ↓] Go.wp_at_zero Go.wp_at_succ

/-- never to stand in a table -/
def nev (f : Fld) : Fld := ⟨f.n, f.v, true⟩
theorem fcellsL_set_nev (fs : List Fld) : ∀ (k : Nat) (f : Fld), fs[k]? = some f → (fcellsL fs).set (k * 3 + 2) (.bool true) = fcellsL (fs.set k (nev f)) := by
  induction fs with
  | nil => intro k f h; simp at h
  | cons g r ih =>
    intro k f h
    cases k with
    | zero =>
      rw [List.getElem?_cons_zero] at h
      obtain rfl := Option.some.inj h
      simp [fcellsL, fcells, nev]
    | succ k =>
      rw [List.getElem?_cons_succ] at h
      rw [List.set_cons_succ, fcellsL, fcellsL, ← ih k f h, List.set_append_right _ _ (by simp [fcells]; omega)]
      congr 2
      simp [fcells]
      omega
/-- the first k are so -/
def nevs (k : Nat) (fs : List Fld) : List Fld := (fs.take k).map nev ++ fs.drop k
theorem nevs_len (k : Nat) (fs : List Fld) : (nevs k fs).length = fs.length := by
  simp [nevs]
  omega
theorem nevs_at {k : Nat} {fs : List Fld} {f : Fld} (h : fs[k]? = some f) : (nevs k fs)[k]? = some f ∧ (nevs k fs).set k (nev f) = nevs (k + 1) fs := by
  obtain ⟨hlt, he⟩ := List.getElem?_eq_some_iff.1 h
  have hl : ((fs.take k).map nev).length = k := by simp; omega
  have hd : fs.drop k = f :: fs.drop (k + 1) := by rw [List.drop_eq_getElem_cons hlt, he]
  constructor
  · rw [nevs, List.getElem?_append_right (by omega), hl, hd, Nat.sub_self]
    rfl
  · rw [nevs, hd, List.set_append_right _ _ (by omega), hl, Nat.sub_self, List.set_cons_zero, nevs, List.take_add_one, h]
    simp
theorem nevs_all (fs : List Fld) : nevs fs.length fs = fs.map nev := by simp [nevs]
theorem nev_never {fs : List Fld} : ∀ f ∈ fs.map nev, f.nv = true := by
  intro f hf
  obtain ⟨g, _, rfl⟩ := List.mem_map.1 hf
  rfl
theorem nev_sz {fs : List Fld} {M : Nat} (h : ∀ f ∈ fs, f.n.size ≤ M ∧ f.v.size ≤ M) : ∀ f ∈ fs.map nev, f.n.size ≤ M ∧ f.v.size ≤ M := by
  intro f hf
  obtain ⟨g, hg, rfl⟩ := List.mem_map.1 hf
  exact h g hg
/-- a cell of a slice of the law's own is set -/
theorem st_slot {S : Nat → Prop} {w0 w : World} {L1 L2 : List Ob} {base n c : Nat} {A : Option Addr} {fs fs' : List Fld} {b o i : Nat} {u : Value} (s : St S w0 w (L1 ++ FSo base A c n fs :: L2)) (hA : A = some ⟨b, o, none⟩) (hi : i < (fcellsL fs).length) (hu : u.oneCell' = true) (he : (fcellsL fs).set i u = fcellsL fs') :
    St S w0 (w.setCell ⟨b, o + i, none⟩ u) (L1 ++ FSo base A c n fs' :: L2) := by
  obtain ⟨F, ⟨ho, hF⟩, hO, _, go⟩ := s.focus L1 _ L2
  obtain ⟨A', c', e1, hnc, hcm, _, hoff⟩ := own_shape ho
  cases e1
  obtain ⟨h0, _⟩ := hoff _ hA
  have h0 : o = 0 := h0
  subst h0
  subst hA
  have ho2 := ho
  rcases ho.2 with ⟨h1, _⟩ | ⟨g, cap, cur, h1, hb, hg, h2, h3, h4, h5⟩
  · simp at h1
  · simp only [Value.slice.injEq, Option.some.injEq, Addr.mk.injEq, and_true, true_and] at h1
    obtain ⟨rfl, rfl⟩ := h1
    have hl := ho.1
    have hfit : n * 3 ≤ cur.toList.length := by
      rw [show cur.toList.length = c * 3 by simpa using h4]
      exact Nat.mul_le_mul_right _ h2
    have hb2 : Blk w b 38 cur.toList := by simpa [Blk] using hg
    have hb3 := hb2.set_ i u
    rw [Nat.zero_add]
    have hown : (w.setCell ⟨b, i, none⟩ u).ownsRow base 38 3 (.slice (some ⟨b, 0, none⟩) n c) n (fcellsL fs') := by
      refine ⟨by rw [← he, List.length_set]; exact hl, .inr ⟨b, c, (cur.toList.set i u).toArray, rfl, hb, hb3, h2, h3, by simpa using h4, ?_⟩⟩
      rw [← he, ← h5]
      show List.take (n * 3) (cur.toList.set i u) = (List.take (n * 3) cur.toList).set i u
      rw [List.take_set]
    have := go (w.setCell ⟨b, i, none⟩ u) (FSo base (some ⟨b, 0, none⟩) c n fs') [] (St.changed (framed_SLo ..) ⟨hown, rfl⟩ (fun j hj => .inl (by rw [hF]; exact hj)) ((Fr.refl F w).setCell (p := ⟨b, i, none⟩) (.inl (by rw [hF]; rfl)) u))
    rwa [List.append_nil] at this
theorem own_frozen {w : World} {base : Nat} {e : TypeId} {size n c : Nat} {A : Option Addr} {xs : List Value} {b o : Nat} (h : w.ownsRow base e size (.slice A n c) n xs) (hA : A = some ⟨b, o, none⟩) (i : Nat) : w.frozen? ⟨b, i, none⟩ = false := by
  subst hA
  rcases h.2 with ⟨h1, _⟩ | ⟨g, cap, cur, h1, _, hg, _⟩
  · simp at h1
  · simp only [Value.slice.injEq, Option.some.injEq, Addr.mk.injEq, and_true] at h1
    obtain ⟨⟨rfl, _⟩, _⟩ := h1
    have hb2 : Blk w b e cur.toList := by simpa [Blk] using hg
    exact hb2.frozen i
theorem szs_le {M : Nat} : ∀ (fs : List Fld), (∀ f ∈ fs, f.n.size ≤ M ∧ f.v.size ≤ M) → szs fs ≤ fs.length * (2 * M + 32)
  | [], _ => by simp [szs]
  | f :: r, h => by
    have h1 := h f (List.mem_cons_self ..)
    have h2 := szs_le r (fun g hg => h g (List.mem_cons_of_mem _ hg))
    have h3 : sz f = f.n.size + f.v.size + 32 := rfl
    rw [szs, List.length_cons, Nat.add_mul]
    omega
set_option maxHeartbeats 8000000 in
theorem lawNever {w : World} (m : Int) (hm : i64 m) {A1 : Option Addr} {n1 c1 : Nat} {la : List Fld} (ha : FldsIn w A1 n1 c1 la) (hC : Cnt w) :
    Calls Tryd.prog 7 #[.int .i64 m, .slice A1 n1 c1] w fun e w' => e = .returned (.bool true) ∧ Below w.heap.size w w' := by
  obtain ⟨h, hh⟩ : ∃ h, clampI m = h := ⟨_, rfl⟩
  have hh2 : h ≤ 65536 := hh ▸ clampI_le m
  have hOk := ok_new h hh2
  obtain ⟨fs, hfs⟩ : ∃ fs, smallL la = fs := ⟨_, rfl⟩
  have hsz := smallL_sz la
  have hln := smallL_len la
  rw [hfs] at hsz hln
  obtain ⟨gs, hgs⟩ : ∃ gs, fs.map nev = gs := ⟨_, rfl⟩
  have gsz : ∀ f ∈ gs, f.n.size ≤ 400 ∧ f.v.size ≤ 400 := hgs ▸ nev_sz hsz
  have gnv : ∀ f ∈ gs, f.nv = true := hgs ▸ nev_never
  have gln : gs.length ≤ 20 := by rw [← hgs, List.length_map]; exact hln
  obtain ⟨X, hX⟩ : ∃ X, (manyE statL h [] gs).1 = X := ⟨_, rfl⟩
  have hl1 : (manyE statL h [] gs).2 = [] := manyE_never gs [] gnv
  have e1 : blockE statL h [] none gs = (X, h, []) := by rw [blockE, updsE]; dsimp only; rw [hX, hl1, List.nil_append]
  have b1 : X.length ≤ 1048576 := by
    have := manyE_len (M := 400) (by omega) gs [] hOk gsz
    rw [hX] at this
    omega
  have hd : blockD statL h h [] X = some (gs, h, []) := by
    have := blockD_blockE (limit := h) (p := none) (fs := gs) hOk (fun f hf => by have := gsz f hf; omega) (Nat.le_refl h)
    rw [e1] at this
    exact this
  have hsl : szs gs ≤ 16640 := by
    have := szs_le gs gsz
    omega
  have hR : decR h 1099511627776 (some (h, [])) X = (gs, 0, some (h, [])) := by
    simp only [decR, hd]
    rw [if_neg (by omega)]
  obtain ⟨N1, hN1⟩ : ∃ N1, X.length = N1 := ⟨_, rfl⟩
  rw [hN1] at b1
  obtain ⟨TX, hTX⟩ : ∃ T, ofB X = T := ⟨_, rfl⟩
  have gbig : ∀ f ∈ gs, f.n.size ≤ 16777216 ∧ f.v.size ≤ 16777216 := fun f hf => by have := gsz f hf; omega
  have Ha := Lib.hid ha
  have HC := Lib.hid hC
  have Hm := Lib.hid hm
  have Hh := Lib.hid hh
  have Hfs := Lib.hid hfs
  have Hgs := Lib.hid hgs
  have E1 := Lib.hid e1
  have HR := Lib.hid hR
  have HN1 := Lib.hid hN1
  have HTX := Lib.hid hTX
  have Hbig := Lib.hid gbig
  have hz0 : Hid (szs ([] : List Fld) = 0) := rfl
  clear ha hC hm hh hfs e1 hR hN1 hTX gbig hX hl1 hd hOk gsz gnv hsz hgs
  go_enter Tryd.func7, Tryd.ntmps7
  go_wp2_with (first
    | (go_at_call 12; (with_reducible refine (shown5 _ HC.out).mono ?_); rintro e w1 ⟨rfl, hb1⟩
       have S1 : Hid (St NoS w w1 []) := (St.nil NoS w).next hb1
       clear hb1)
    | (go_at_call 13; (with_reducible refine (lNewE S1.out m Hm.out h Hh.out).mono ?_); rintro e w2 ⟨p, rfl, s2⟩
       have S2 : Hid (St NoS w w2 [PEo p h [] none]) := s2
       clear s2)
    | (go_at_call 25; (with_reducible refine (lNewD S2.out m Hm.out 1099511627776 h Hh.out).mono ?_); rintro e w3 ⟨d, rfl, s3⟩
       have S3 : Hid (St NoS w w3 [PEo p h [] none, PDo d h 1099511627776 (some (h, []))]) := s3
       clear s3)
    | (go_at_call 17; (with_reducible refine (lSmall S3.out Ha.out.rd Ha.out.len (Nat.le_trans Ha.out.nc Ha.out.cm) Ha.out.ok).mono ?_); rintro e w4 ⟨A4, m4, c4, rfl, hm4, s4⟩
       have s5 : St NoS w w4 [PEo p h [] none, PDo d h 1099511627776 (some (h, [])), FSo w.heap.size A4 c4 m4 (smallL la)] := s4
       rw [Hfs.out] at s5 hm4
       have hm4l : m4 ≤ 20 := by omega
       have M4 := Lib.hid hm4
       have S4 := Lib.hid s5
       clear s4 s5 hm4))
  go_loopg [8] m4 (fun gh i w' => ∃ k : Nat, gh + k = m4 ∧ i = .int .i64 (k : Int) ∧ St NoS w w' [PEo p h [] none, PDo d h 1099511627776 (some (h, [])), FSo w.heap.size A4 c4 m4 (nevs k fs)])
  case atStart => exact ⟨0, by omega, rfl, by simpa [nevs] using S4.out⟩
  case round =>
    obtain ⟨k, hk, rfl, s⟩ := hrel
    cases gk with
    | succ g1 =>
      have hkn : k < m4 := by omega
      obtain ⟨f, hf⟩ : ∃ f, fs[k]? = some f := ⟨_, List.getElem?_eq_getElem (by rw [M4.out]; exact hkn)⟩
      obtain ⟨hf2, hset⟩ := nevs_at hf
      obtain ⟨bb, oo, hA, d0, d1, d2⟩ := rd_fld (Rd.of_own s.own2) hf2
      have hlt : k * 3 + 2 < (fcellsL (nevs k fs)).length := by rw [fcellsL_length, nevs_len, M4.out]; omega
      have s6 := st_slot (L1 := [PEo p h [] none, PDo d h 1099511627776 (some (h, []))]) (L2 := []) s hA hlt (u := .bool true) rfl ((fcellsL_set_nev _ _ _ hf2).trans (by rw [hset]))
      have hfz : wr.frozen? ⟨bb, oo + k * 3 + 2, none⟩ = false := own_frozen s.own2 hA _
      have S6 := Lib.hid s6
      have k1 : (k : Int) < (m4 : Int) := by omega
      cases hA
      clear s s6 hf hf2 hset hlt
      go_wp2
      go_roundg g1
      case measure => omega
      case rel => exact ⟨k + 1, by omega, by go_num, by have := S6.out; rwa [← Nat.add_assoc] at this⟩
    | zero =>
      obtain rfl : k = m4 := by omega
      have S5 : Hid (St NoS w wr [PEo p h [] none, PDo d h 1099511627776 (some (h, [])), FSo w.heap.size A4 c4 k gs]) := by
        have := s
        rw [← M4.out, nevs_all, Hgs.out, M4.out] at this
        exact this
      have M5 : Hid (gs.length = k) := by rw [← Hgs.out, List.length_map]; exact M4.out
      clear s S4
      go_wp2_with (first
        | (go_at_call 29; (with_reducible refine (lDecode1 S8.out HC.out (List.Mem.tail _ (List.Mem.tail _ (List.Mem.tail _ (List.Mem.head _)))) (by omega) gs 0 _ HR.out k M5.out).mono ?_); rintro e w9 ⟨A9, c9, rfl, s9⟩
           have S9 : Hid (St NoS w w9 [PEo p h [] none, PDo d h 1099511627776 (some (h, [])), FSo w.heap.size A4 c4 k gs, BSo w.heap.size A6 c6 N1 X, BSo w.heap.size A7 c7 N1 X, FSo w.heap.size A8 c8 k gs, FSo w.heap.size A9 c9 k gs]) := s9
           clear s9)
        | (go_at_call 29; (with_reducible refine (lDecode1 S7.out HC.out (List.Mem.tail _ (List.Mem.tail _ (List.Mem.head _))) (by omega) gs 0 _ HR.out k M5.out).mono ?_); rintro e w8 ⟨A8, c8, rfl, s8⟩
           have S8 : Hid (St NoS w w8 [PEo p h [] none, PDo d h 1099511627776 (some (h, [])), FSo w.heap.size A4 c4 k gs, BSo w.heap.size A6 c6 N1 X, BSo w.heap.size A7 c7 N1 X, FSo w.heap.size A8 c8 k gs]) := s8
           clear s8)
        | (go_at_call 18; (with_reducible refine (lEncode0 S6.out HC.out (List.Mem.tail _ (List.Mem.head _)) M5.out (by omega) Hbig.out X h [] E1.out N1 HN1.out (by omega)).mono ?_); rintro e w7 ⟨A7, c7, rfl, s7⟩
           have S7 : Hid (St NoS w w7 [PEo p h [] none, PDo d h 1099511627776 (some (h, [])), FSo w.heap.size A4 c4 k gs, BSo w.heap.size A6 c6 N1 X, BSo w.heap.size A7 c7 N1 X]) := s7
           clear s7)
        | (go_at_call 18; (with_reducible refine (lEncode0 S5.out HC.out (List.Mem.tail _ (List.Mem.head _)) M5.out (by omega) Hbig.out X h [] E1.out N1 HN1.out (by omega)).mono ?_); rintro e w6 ⟨A6, c6, rfl, s6⟩
           have S6 : Hid (St NoS w w6 [PEo p h [] none, PDo d h 1099511627776 (some (h, [])), FSo w.heap.size A4 c4 k gs, BSo w.heap.size A6 c6 N1 X]) := s6
           clear s6)
        | (go_at_call 19; (with_reducible refine (r5Same_eq (Rd.of_own Sa.out.own6) (Rd.of_own Sa.out.own2) M5.out (by omega)).mono ?_); rintro e wb ⟨rfl, hb⟩
           have Sb := Lib.hid (Sa.out.next hb)
           have q1 := cv5 (w0 := w) (Sb.out.own3) TX HTX.out
           have q2 := cv5 (w0 := w) (Sb.out.own4) TX HTX.out
           clear hb)
        | (go_at_call 19; (with_reducible refine (r5Same_eq (Rd.of_own S9.out.own5) (Rd.of_own S9.out.own2) M5.out (by omega)).mono ?_); rintro e wa ⟨rfl, hb⟩
           have Sa := Lib.hid (S9.out.next hb)
           clear hb)
        | (go_at_call 21; (with_reducible refine (lSizeE0 Sb.out 0 hz0.out).mono ?_); rintro e wc ⟨rfl, rfl⟩)
        | (go_at_call 21; (with_reducible refine (lSizeD1 Sb.out 0 hz0.out).mono ?_); rintro e wc ⟨rfl, rfl⟩))
      go_ret
      exact ⟨rfl, Sb.out.below⟩
end Go.Proofs.YtinieljgcenemaaDoor
