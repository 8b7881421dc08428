/- Stage 10: Trailers, Size, Forward; the laws' few, of; the document's Same. -/
import Derived.Test.YtilabahcngjflaaDoorJiL
import Derived.Test.YtilabahcngjflaaDoorJiB
namespace Go.Proofs.YtilabahcngjflaaDoor
open Go.RowKit Go.Own Go.Tbl Go.Fie
set_option linter.unusedVariables false
set_option linter.unusedSimpArgs false
set_option maxRecDepth 100000
abbrev NoS : Nat → Prop := fun _ => False
set_option maxHeartbeats 4000000 in
theorem trailers_c {w : World} {A : Option Addr} {n c : Nat} {l : List Fld} (hr : Rd w 3 A n (fcellsL l)) (hok : ∀ f ∈ l, fok f) (hn : n ≤ 9223372036854775807) :
    Calls Tryd.prog 16 #[.slice A n c] w fun e w' => e = .returned (.bool (trailers l)) ∧ Below w.heap.size w w' := by
  have hmf : ∀ (fn : Fn) (first cap : Array Value) (w : World), (Instr.makeFunc fn first cap).run Tryd.prog w = .ok (.func fn first cap) w := fun _ _ _ _ => rfl
  have hb3 : Below w.heap.size w (w.alloc (.cells #[.bool false] 4)) := (Below.refl _ _).alloc (Nat.le_refl _) _
  have hy0 : Blk (w.alloc (.cells #[.bool false] 4)) w.heap.size 4 [.bool false] := Blk.new w 4 [.bool false]
  have hl := look_c (ns := []) (c := c) (cn := 0) (An := none) (m := 0) (hr.below hb3) hok hn (Rd.nil _ _ _) (by omega)
  have HL := Lib.hid hl
  have HY0 := Lib.hid hy0
  have HB0 := Lib.hid hb3
  clear hb3 hy0 hl hr
  cases hR : lookF [] true none0 l with
  | none =>
    have hnone : trailers l = false := by unfold trailers; rw [hR]; rfl
    rw [hR] at HL
    rw [hnone]
    go_enter_defers Tryd.func16, Tryd.ntmps16
    go_wp2_with (first
      | (go_at_call 23; (with_reducible refine HL.out.mono ?_); rintro e w4 ⟨hb, rfl⟩; have HB := Lib.hid (HB0.out.trans (hb.mono HB0.out.size)); have HY1 := Lib.hid (HY0.out.below hb HY0.out.lt); clear hb))
    have HY := Lib.hid (And.intro (HY1.out.cell 0) (HY1.out.frozen 0))
    simp only [List.getElem?_cons_zero] at HY
    refine leaves_cons (f := 28) (args := #[.pointer (some ⟨w.heap.size, 0, none⟩)]) (by simp) (by simp [go_sem]) ?_
    refine (catchT_up ⟨w.heap.size, 0, none⟩ false _ HY.out.1 HY.out.2).mono ?_
    rintro e u' w'' ⟨rfl, rfl, hc6, hf⟩
    have hend : Below w.heap.size w w'' := HB.out.trans (hf.below HB.out.size (fun i _ e => by simp at e; omega))
    simp [Leaves, settle, results, Tryd.results16, go_sem, hc6]
    exact hend
  | some g =>
    have hsome : trailers l = true := by unfold trailers; rw [hR]; rfl
    rw [hR] at HL
    rw [hsome]
    go_enter_defers Tryd.func16, Tryd.ntmps16
    go_wp2_with (first
      | (go_at_call 23; (with_reducible refine HL.out.mono ?_); rintro e w4 ⟨hb, b, k, rfl, hms⟩; have HB := Lib.hid (HB0.out.trans (hb.mono HB0.out.size)); have hy2 := HY0.out.below hb HY0.out.lt
         have y0 := hy2.cell 0
         have fy := hy2.frozen 0
         simp only [List.getElem?_cons_zero] at y0
         have HY1 := Lib.hid hy2
         clear hb hms hy2))
    have hy6 : Blk (w4.setCell ⟨w.heap.size, 0, none⟩ (.bool true)) w.heap.size 4 [.bool true] := HY1.out.set_ 0 (.bool true)
    have hB6 : Below w.heap.size w (w4.setCell ⟨w.heap.size, 0, none⟩ (.bool true)) := Below.setCell HB.out (Nat.le_refl _) _
    generalize w4.setCell ⟨w.heap.size, 0, none⟩ (.bool true) = w7 at hy6 hB6 ⊢
    have HB7 := Lib.hid hB6
    have HY := Lib.hid (And.intro (hy6.cell 0) (hy6.frozen 0))
    simp only [List.getElem?_cons_zero] at HY
    clear hy6 hB6 HB HY1 y0 fy
    refine leaves_cons (f := 28) (args := #[.pointer (some ⟨w.heap.size, 0, none⟩)]) (by simp) (by simp [go_sem]) ?_
    refine (catchT_idle ⟨w.heap.size, 0, none⟩ true _ HY.out.1 HY.out.2).mono ?_
    rintro e u' w'' ⟨rfl, rfl, hc6, hf⟩
    have hend : Below w.heap.size w w'' := HB7.out.trans (hf.below HB7.out.size (fun i _ e => by simp at e; omega))
    simp [Leaves, settle, results, Tryd.results16, go_sem, hc6]
    exact hend
theorem szs_take_succ : ∀ (l : List Fld) (k : Nat) (f : Fld), l[k]? = some f → szs (l.take (k + 1)) = szs (l.take k) + sz f
  | [], k, f, h => by simp at h
  | g :: r, 0, f, h => by
    rw [List.getElem?_cons_zero] at h
    obtain rfl := Option.some.inj h
    simp [szs]
  | g :: r, k + 1, f, h => by
    rw [List.getElem?_cons_succ] at h
    rw [List.take_succ_cons, List.take_succ_cons, szs, szs, szs_take_succ r k f h]
    omega
set_option maxHeartbeats 2000000 in
theorem size_c {w : World} {A : Option Addr} {n c : Nat} {l : List Fld} (hr : Rd w 3 A n (fcellsL l)) (hn : n ≤ 9223372036854775807) (S : Nat) (hS : szs l = S) (hb : S ≤ 4611686018427387904) :
    Calls Tryd.prog 17 #[.slice A n c] w fun e w' => e = .returned (.int .i64 (S : Int)) ∧ Below w.heap.size w w' := by
  have hl : l.length = n := by have := hr.1; rw [fcellsL_length] at this; omega
  have Hr := Lib.hid hr
  have HS := Lib.hid hS
  have Hl := Lib.hid hl
  clear hr hS hl
  go_enter Tryd.func17, Tryd.ntmps17
  go_wp2
  go_loopg [8, 3] n (fun gh i s w' => ∃ k, gh + k = n ∧ i = .int .i64 (k : Int) ∧ s = .int .i64 ((szs (l.take k) : Nat) : Int) ∧ Below w.heap.size w w')
  case atStart => exact ⟨0, by omega, rfl, rfl, Below.refl _ _⟩
  case round =>
    obtain ⟨k, hk, rfl, rfl, hbw⟩ := hrel
    have Hb := Lib.hid hbw
    have hmono := szs_take_mono l k n (by omega)
    rw [show l.take n = l from List.take_of_length_le (by rw [Hl.out]; exact Nat.le_refl _), HS.out] at hmono
    obtain ⟨q, hq⟩ : ∃ q, szs (l.take k) = q := ⟨_, rfl⟩
    rw [hq] at hmono ⊢
    have Hq := Lib.hid hq
    clear hq
    cases gk with
    | zero =>
      obtain rfl : k = n := by omega
      have e1 : (q : Int) = (S : Int) := by
        have h1 := Hq.out
        rw [List.take_of_length_le (by rw [Hl.out]; exact Nat.le_refl _), HS.out] at h1
        omega
      clear hbw
      go_wp2
      go_ret
      exact ⟨by rw [← e1]; rfl, Hb.out⟩
    | succ g1 =>
      have hlt : k < n := by omega
      obtain ⟨f, hf⟩ : ∃ f, l[k]? = some f := ⟨_, List.getElem?_eq_getElem (by rw [Hl.out]; exact hlt)⟩
      obtain ⟨b, o, rfl, d0, d1, d2⟩ := rd_fld (Hr.out.below hbw) hf
      have hs1 := szs_take_succ l k f hf
      rw [Hq.out] at hs1
      have hm2 := szs_take_mono l (k + 1) n (by omega)
      rw [show l.take n = l from List.take_of_length_le (by rw [Hl.out]; exact Nat.le_refl _), HS.out, hs1] at hm2
      obtain ⟨N, V, nv⟩ := f
      simp only at d0 d1 d2
      obtain ⟨a, ha⟩ : ∃ a, N.size = a := ⟨_, rfl⟩
      obtain ⟨v, hv⟩ : ∃ v, V.size = v := ⟨_, rfl⟩
      have hsz : sz ⟨N, V, nv⟩ = a + v + 32 := by unfold sz; rw [ha, hv]
      rw [hsz] at hs1 hm2
      have Hs1 := Lib.hid hs1
      have k1 : (k : Int) < (n : Int) := by omega
      clear hf hs1 hsz hbw
      go_wp2
      go_roundg g1
      case measure => omega
      case rel => exact ⟨k + 1, by omega, by go_num, by rw [Hs1.out]; go_num, Hb.out.alloc Hb.out.size _⟩
theorem rd_one {w : World} {g : Nat} {f : Fld} (h : Blk w g 34 [.string f.n, .string f.v, .bool f.nv]) : Rd w 3 (some ⟨g, 0, none⟩) 1 (fcellsL [f]) := by
  have := Rd.of_blk (n := 1) (size := 3) h (by simp)
  simpa [fcellsL, fcells] using this
/-- fields of the call's own -/
abbrev FSo (B : Nat) (A : Option Addr) (c m : Nat) (l : List Fld) : Ob := SLo B 34 3 (.slice A m c) m (fcellsL l)
theorem st_nilF (w : World) : St NoS w w [FSo w.heap.size none 0 0 []] :=
  (St.nil _ _).add (w' := w) (M := [SLo w.heap.size 34 3 (.slice none 0 0) 0 []]) ⟨⟨_, ⟨_, _, framed_SLo .., ⟨World.ownsRow_nil _ _ _ _, rfl⟩, rfl, fun _ _ h => h, rfl⟩, fun i hi => by rcases hi with hi | hi; simp [Value.ownBlock] at hi; exact hi.elim⟩, Fr.refl _ _⟩
theorem fwd_snoc (l : List Fld) (f : Fld) : fwd (l ++ [f]) = fwd l ++ (if stays f.n then [] else [f]) := by
  unfold fwd
  rw [List.filter_append]
  cases h : stays f.n <;> simp [List.filter_cons, h]
set_option maxHeartbeats 4000000 in
theorem forward_c {w : World} {A : Option Addr} {n c : Nat} {l : List Fld} (hr : Rd w 3 A n (fcellsL l)) (hn : n ≤ 1000000) :
    Calls Tryd.prog 12 #[.slice A n c] w fun e w' => ∃ A' c' m, e = .returned (.slice A' m c') ∧ (fwd l).length = m ∧ St NoS w w' [FSo w.heap.size A' c' m (fwd l)] := by
  have hl : l.length = n := by have := hr.1; rw [fcellsL_length] at this; omega
  have Hr := Lib.hid hr
  have Hl := Lib.hid hl
  clear hr hl
  go_enter Tryd.func12, Tryd.ntmps12
  go_wp2
  go_loopg [8, 3] n (fun gh i u w' => ∃ (k j : Nat) (A' : Option Addr) (c' : Nat), gh + k = n ∧ j ≤ k ∧ i = .int .i64 (k : Int) ∧ u = .slice A' j c' ∧ (fwd (l.take k)).length = j ∧ St NoS w w' [FSo w.heap.size A' c' j (fwd (l.take k))])
  case atStart =>
    refine ⟨0, 0, none, 0, by omega, by omega, rfl, rfl, rfl, ?_⟩
    exact st_nilF w
  case round =>
    obtain ⟨k, j, A', c', hk, hjk, rfl, rfl, hjl, s⟩ := hrel
    have HJ := Lib.hid hjl
    clear hjl
    cases gk with
    | zero =>
      obtain rfl : k = n := by omega
      have S1 := Lib.hid s
      have HT : Hid (l.take k = l) := List.take_of_length_le (by rw [Hl.out]; exact Nat.le_refl _)
      clear s
      go_wp2
      go_ret
      refine ⟨A', c', j, rfl, by rw [← HJ.out, HT.out], ?_⟩
      have := S1.out
      rwa [HT.out] at this
    | succ g1 =>
      have hlt : k < n := by omega
      obtain ⟨f, hf⟩ : ∃ f, l[k]? = some f := ⟨_, List.getElem?_eq_getElem (by rw [Hl.out]; exact hlt)⟩
      obtain ⟨bb, oo, hA, d0, d1, d2⟩ := rd_fld (s.rd Hr.out (fun a ha h => h)) hf
      have k1 : (k : Int) < (n : Int) := by omega
      have htk : Hid (l.take (k + 1) = l.take k ++ [f]) := by
        rw [List.take_add_one, hf]
        exact rfl
      have hfs := fwd_snoc (l.take k) f
      rw [← htk.out] at hfs
      have S1 := Lib.hid s
      obtain ⟨N, V, nv⟩ := f
      simp only at d0 d1 d2 hfs
      cases hA
      clear s hf
      cases hst : stays N
      · rw [hst] at hfs
        have HF : Hid (fwd (l.take (k + 1)) = fwd (l.take k) ++ [⟨N, V, nv⟩]) := hfs
        have HST := Lib.hid hst
        have S2 : Hid (St NoS w ((wr.alloc (.cells #[.string N, .string V, .bool nv] 34)).alloc (.cells #[.string N, .string V, .bool nv] 34)) [FSo w.heap.size A' c' j (fwd (l.take k))]) := (S1.out.alloc _).alloc _
        have X2 : Hid (Blk ((wr.alloc (.cells #[.string N, .string V, .bool nv] 34)).alloc (.cells #[.string N, .string V, .bool nv] 34)) (wr.heap.size + 1) 34 [.string N, .string V, .bool nv]) := by
          have h := Blk.new (wr.alloc (.cells #[.string N, .string V, .bool nv] 34)) 34 [.string N, .string V, .bool nv]
          have e : (wr.alloc (.cells #[.string N, .string V, .bool nv] 34)).heap.size = wr.heap.size + 1 := by simp
          rw [← e]
          exact h
        have HC : Hid (∀ w2, Calls Tryd.prog 20 #[.string N] w2 fun e w' => e = .returned (.bool false) ∧ w' = w2) := fun w2 => by have := stays_c N w2; rwa [hst] at this
        clear S1 hst hfs
        go_wp2_with (first
          | (go_at_call 20; (with_reducible refine (HC.out _).mono ?_); rintro e w4 ⟨rfl, hw⟩; subst hw)
          | (at_builtin
             refine wpList_append_rd rfl (.tmp 16) (.tmp 18) 22 rfl EF (.slice A' j c') j (fcellsL (fwd (l.take k))) rfl S2.out.own0 (some ⟨wr.heap.size + 1, 0, none⟩) 1 1 (fcellsL [⟨N, V, nv⟩]) rfl (rd_one (f := ⟨N, V, nv⟩) X2.out) (fcells_one _) (by omega) (by unfold maxLen; omega) S2.out.size ?_
             intro A7 c7 w7 ho7 hf7 h27
             rw [← fcellsL_append, ← HF.out] at ho7
             have S7 := Lib.hid (S2.out.appended0 ho7 hf7 h27)
             clear ho7 hf7 h27))
        go_roundg g1
        case measure => omega
        case rel => exact ⟨k + 1, j + 1, A7, c7, by omega, by omega, by go_num, rfl, by rw [HF.out, List.length_append, HJ.out]; rfl, S7.out⟩
      · rw [hst] at hfs
        have HF : Hid (fwd (l.take (k + 1)) = fwd (l.take k)) := by rw [hfs, if_pos rfl, List.append_nil]; exact rfl
        have HC : Hid (∀ w2, Calls Tryd.prog 20 #[.string N] w2 fun e w' => e = .returned (.bool true) ∧ w' = w2) := fun w2 => by have := stays_c N w2; rwa [hst] at this
        clear hst hfs
        go_wp2_with (first
          | (go_at_call 20; (with_reducible refine (HC.out _).mono ?_); rintro e w4 ⟨rfl, hw⟩; subst hw))
        go_roundg g1
        case measure => omega
        case rel => exact ⟨k + 1, j, A', c', by omega, by omega, by go_num, rfl, by rw [HF.out]; exact HJ.out, by rw [HF.out]; exact S1.out.alloc _⟩
/-! the laws' own few and of -/
def clip (f : Fld) : Fld := ⟨f.n.extract 0 (min f.n.size 2000), f.v.extract 0 (min f.v.size 2000), f.nv⟩
def fewL (M : Nat) (l : List Fld) : List Fld := (l.take M).map clip
theorem clip_sz (f : Fld) : (clip f).n.size ≤ 2000 ∧ (clip f).v.size ≤ 2000 := by
  constructor
  · show (f.n.extract 0 (min f.n.size 2000)).size ≤ _
    rw [ByteArray.size_extract]; omega
  · show (f.v.extract 0 (min f.v.size 2000)).size ≤ _
    rw [ByteArray.size_extract]; omega
theorem few_sz {M : Nat} {l : List Fld} : ∀ f ∈ fewL M l, f.n.size ≤ 2000 ∧ f.v.size ≤ 2000 := by
  intro f hf
  obtain ⟨g, _, rfl⟩ := List.mem_map.1 hf
  exact clip_sz g
theorem few_ok {M : Nat} {l : List Fld} : ∀ f ∈ fewL M l, fok f := by
  intro f hf
  have := few_sz f hf
  exact ⟨by omega, by omega⟩
theorem few_len (M : Nat) (l : List Fld) : (fewL M l).length ≤ M := by
  rw [fewL, List.length_map, List.length_take]
  omega
set_option maxHeartbeats 4000000 in
theorem few_c {w : World} {A : Option Addr} {n c : Nat} {l : List Fld} (hr : Rd w 3 A n (fcellsL l)) (hn : n ≤ 9223372036854775807) (hok : ∀ f ∈ l, fok f) (M : Nat) (hM : M ≤ 1000) (z : Int) (hz : z = (M : Int)) :
    Calls Tryd.prog 11 #[.slice A n c, .int .i64 z] w fun e w' => ∃ A' c' m, e = .returned (.slice A' m c') ∧ (fewL M l).length = m ∧ St NoS w w' [FSo w.heap.size A' c' m (fewL M l)] := by
  subst hz
  have hlen : l.length = n := by have := hr.1; rw [fcellsL_length] at this; omega
  have Hr := Lib.hid hr
  have Hl := Lib.hid hlen
  have Hok := Lib.hid hok
  clear hr hlen hok
  go_enter Tryd.func11, Tryd.ntmps11
  go_wp2
  go_loopg [6, 5] (min n M) (fun gh i u w' => ∃ (k : Nat) (A' : Option Addr) (c' : Nat), gh + k = min n M ∧ i = .int .i64 (k : Int) ∧ u = .slice A' k c' ∧ St NoS w w' [FSo w.heap.size A' c' k ((l.take k).map clip)])
  case atStart => exact ⟨0, none, 0, by omega, rfl, rfl, st_nilF w⟩
  case round =>
    obtain ⟨k, A', c', hk, rfl, rfl, s⟩ := hrel
    cases gk with
    | succ g1 =>
      have hkn : k < n := by omega
      have hk20 : k < M := by omega
      obtain ⟨f, hf⟩ : ∃ f, l[k]? = some f := ⟨_, List.getElem?_eq_getElem (by rw [Hl.out]; exact hkn)⟩
      obtain ⟨bb, oo, hA, d0, d1, d2⟩ := rd_fld (s.rd Hr.out (fun a ha h => h)) hf
      have hbl := World.block_lt_of_cell? _ _ d0
      obtain ⟨hf1, hf2⟩ := Hok.out f (List.mem_of_getElem? hf)
      have k1 : (k : Int) < (n : Int) := by omega
      have k2 : (k : Int) < (M : Int) := by omega
      have S1 := Lib.hid s
      obtain ⟨fn, fv, fnv⟩ := f
      obtain ⟨a, ha⟩ : ∃ a, fn.size = a := ⟨_, rfl⟩
      obtain ⟨b, hb⟩ : ∃ b, fv.size = b := ⟨_, rfl⟩
      simp only at hf1 hf2 d0 d1 d2
      rw [ha] at hf1
      rw [hb] at hf2
      cases hA
      clear s
      obtain ⟨ma, hma⟩ : ∃ ma, min a 2000 = ma := ⟨_, rfl⟩
      obtain ⟨mb, hmb⟩ : ∃ mb, min b 2000 = mb := ⟨_, rfl⟩
      have ema : min (a : Int) 2000 = (ma : Int) := by omega
      have emb : min (b : Int) 2000 = (mb : Int) := by omega
      have la : ma ≤ a := by omega
      have lb : mb ≤ b := by omega
      obtain ⟨x, hx⟩ : ∃ x, fn.extract 0 ma = x := ⟨_, rfl⟩
      obtain ⟨y, hy⟩ : ∃ y, fv.extract 0 mb = y := ⟨_, rfl⟩
      have hsm : Hid (clip ⟨fn, fv, fnv⟩ = ⟨x, y, fnv⟩) := by rw [clip, ← hx, ← hy, ← hma, ← hmb, ← ha, ← hb]; exact rfl
      have htk : Hid (l.take (k + 1) = l.take k ++ [⟨fn, fv, fnv⟩]) := by
        rw [List.take_add_one, hf]
        exact rfl
      have S2 : Hid (St NoS w ((wr.alloc (.cells #[.string x, .string y, .bool fnv] 34)).alloc (.cells #[.string x, .string y, .bool fnv] 34)) [FSo w.heap.size A' c' k ((l.take k).map clip)]) := (S1.out.alloc _).alloc _
      have X2 : Hid (Blk ((wr.alloc (.cells #[.string x, .string y, .bool fnv] 34)).alloc (.cells #[.string x, .string y, .bool fnv] 34)) (wr.heap.size + 1) 34 [.string x, .string y, .bool fnv]) := by
        have h := Blk.new (wr.alloc (.cells #[.string x, .string y, .bool fnv] 34)) 34 [.string x, .string y, .bool fnv]
        have e : (wr.alloc (.cells #[.string x, .string y, .bool fnv] 34)).heap.size = wr.heap.size + 1 := by simp
        rw [← e]
        exact h
      clear S1 hf hma hmb
      go_wp2_with (first
        | (at_builtin
           refine wpList_append_rd rfl (.tmp 39) (.tmp 41) 22 rfl EF (.slice A' k c') k (fcellsL ((l.take k).map clip)) rfl S2.out.own0 (some ⟨wr.heap.size + 1, 0, none⟩) 1 1 (fcellsL [⟨x, y, fnv⟩]) rfl (rd_one (f := ⟨x, y, fnv⟩) X2.out) (fcells_one _) (by omega) (by unfold maxLen; omega) S2.out.size ?_
           intro A7 c7 w7 ho7 hf7 h27
           rw [← fcellsL_append, ← hsm.out, ← List.map_singleton (f := clip), ← List.map_append, ← htk.out] at ho7
           have S7 := Lib.hid (S2.out.appended0 ho7 hf7 h27)
           clear ho7 hf7 h27))
      go_roundg g1
      case measure => omega
      case rel => exact ⟨k + 1, A7, c7, by omega, by go_num, rfl, S7.out⟩
    | zero =>
      have S1 := Lib.hid s
      have hsl : Hid ((l.take k).map clip = fewL M l) := by
        rw [fewL]
        have : l.take k = l.take M := by
          rcases Nat.lt_or_ge n M with h | h
          · rw [List.take_of_length_le (by rw [Hl.out]; omega), List.take_of_length_le (by rw [Hl.out]; omega)]
          · rw [show k = M by omega]
        rw [this]
        exact rfl
      have hlen : Hid ((fewL M l).length = k) := by
        rw [← hsl.out, List.length_map, List.length_take, Hl.out]
        exact (show min k n = k by omega)
      have hc : (¬ (k : Int) < (n : Int)) ∨ ((k : Int) < (n : Int) ∧ ¬ (k : Int) < (M : Int)) := by omega
      clear s
      rcases hc with hc | ⟨hc, hc2⟩
      all_goals
        go_wp2
        go_ret
        refine ⟨A', c', k, rfl, hlen.out, ?_⟩
        rw [← hsl.out]
        exact S1.out
/-- two by two -/
def mkF (p : ByteArray × ByteArray) : Fld := ⟨p.1, p.2, false⟩
def flat : List (ByteArray × ByteArray) → List ByteArray
  | [] => []
  | p :: r => p.1 :: p.2 :: flat r
theorem flat_len (l : List (ByteArray × ByteArray)) : (flat l).length = 2 * l.length := by
  induction l with
  | nil => rfl
  | cons p r ih => simp [flat, ih]; omega
theorem flat_at {l : List (ByteArray × ByteArray)} {k : Nat} {p : ByteArray × ByteArray} (h : l[k]? = some p) : (flat l)[2 * k]? = some p.1 ∧ (flat l)[2 * k + 1]? = some p.2 := by
  induction l generalizing k with
  | nil => simp at h
  | cons q r ih =>
    cases k with
    | zero =>
      rw [List.getElem?_cons_zero] at h
      obtain rfl := Option.some.inj h
      simp [flat]
    | succ k =>
      rw [List.getElem?_cons_succ] at h
      obtain ⟨h1, h2⟩ := ih h
      exact ⟨by rw [show 2 * (k + 1) = 2 * k + 1 + 1 by omega, flat, List.getElem?_cons_succ, List.getElem?_cons_succ]; exact h1, by rw [show 2 * (k + 1) + 1 = 2 * k + 1 + 1 + 1 by omega, flat, List.getElem?_cons_succ, List.getElem?_cons_succ]; exact h2⟩
set_option maxHeartbeats 4000000 in
theorem of_c {w : World} {A : Option Addr} {m c : Nat} (l : List (ByteArray × ByteArray)) (hr : Rd w 1 A m ((flat l).map Value.string)) (hn : m ≤ 1000) :
    Calls Tryd.prog 18 #[.slice A m c] w fun e w' => ∃ A' c', e = .returned (.slice A' l.length c') ∧ St NoS w w' [FSo w.heap.size A' c' l.length (l.map mkF)] := by
  have hlen : m = 2 * l.length := by have := hr.1; rw [List.length_map, flat_len] at this; omega
  obtain ⟨n, hl⟩ : ∃ n, l.length = n := ⟨_, rfl⟩
  rw [hl] at hlen ⊢
  have Hr := Lib.hid hr
  have Hl := Lib.hid hl
  have Hm := Lib.hid hlen
  clear hr hl hlen
  go_enter Tryd.func18, Tryd.ntmps18
  go_wp2
  go_loopg [4, 3] n (fun gh i u w' => ∃ (k : Nat) (A' : Option Addr) (c' : Nat), gh + k = n ∧ i = .int .i64 ((2 * k : Nat) : Int) ∧ u = .slice A' k c' ∧ St NoS w w' [FSo w.heap.size A' c' k ((l.take k).map mkF)])
  case atStart => exact ⟨0, none, 0, by omega, rfl, rfl, st_nilF w⟩
  case round =>
    obtain ⟨k, A', c', hk, rfl, rfl, s⟩ := hrel
    obtain ⟨k2, hk2⟩ : ∃ k2, 2 * k = k2 := ⟨_, rfl⟩
    rw [hk2]
    cases gk with
    | succ g1 =>
      have hkn : k < n := by omega
      obtain ⟨p, hf⟩ : ∃ p, l[k]? = some p := ⟨_, List.getElem?_eq_getElem (by rw [Hl.out]; exact hkn)⟩
      obtain ⟨f1, f2⟩ := flat_at hf
      have hrr := s.rd Hr.out (fun a ha h => h)
      have hlen := Hm.out
      obtain ⟨bb, oo, hA, hcell⟩ := hrr.2 (by omega)
      have d0 : wr.cell? ⟨bb, oo + k2, none⟩ = some (.string p.1) := hcell k2 _ (by rw [List.getElem?_map, ← hk2, f1]; rfl)
      have d1 : wr.cell? ⟨bb, oo + (k2 + 1), none⟩ = some (.string p.2) := hcell (k2 + 1) _ (by rw [List.getElem?_map, ← hk2, f2]; rfl)
      have k1 : (k2 : Int) + 1 < (m : Int) := by omega
      have k3 : (k2 : Int) < (m : Int) := by omega
      have k4 : k2 + 2 ≤ 1000 := by omega
      have k5 : k ≤ 1000 := by omega
      obtain ⟨x, y⟩ := p
      simp only at d0 d1
      cases hA
      have htk : Hid (l.take (k + 1) = l.take k ++ [(x, y)]) := by
        rw [List.take_add_one, hf]
        exact rfl
      have S1 := Lib.hid s
      have S2 : Hid (St NoS w ((wr.alloc (.cells #[.string x, .string y, .bool false] 34)).drew) [FSo w.heap.size A' c' k ((l.take k).map mkF)]) := (S1.out.alloc _).drew
      have X2 : Hid (Blk ((wr.alloc (.cells #[.string x, .string y, .bool false] 34)).drew) wr.heap.size 34 [.string x, .string y, .bool false]) := (Blk.new wr 34 [.string x, .string y, .bool false]).drew
      obtain ⟨k6, hk6⟩ : ∃ k6, k2 + 1 = k6 := ⟨_, rfl⟩
      have hw6 : IntKind.i64.wrap ((k2 : Int) + 1) = (k6 : Int) := by
        have : (k2 : Int) + 1 = (k6 : Int) := by omega
        rw [this]
        simp [IntKind.wrap, IntKind.signed, IntKind.bits]
        omega
      rw [hk6] at d1
      have k7 : (k6 : Int) < (m : Int) := by omega
      have e0 : wr.drew.cell? ⟨bb, oo + k2, none⟩ = some (.string x) := d0
      have e1 : wr.drew.cell? ⟨bb, oo + k6, none⟩ = some (.string y) := d1
      clear hk6
      clear hcell hrr s f1 f2 hf hlen
      have HK2 := Lib.hid hk2
      have HKn : Hid (k < n) := hkn
      clear hk2
      go_upto_region 5 with (fail)
      go_region_law (first
        | (refine step_append_rd rfl (.tmp 12) (.tmp 23) 22 rfl EF (.slice A' k c') k (fcellsL ((l.take k).map mkF)) rfl S2.out.own0 (some ⟨wr.heap.size, 0, none⟩) 1 1 (fcellsL [mkF (x, y)]) rfl (rd_one (f := mkF (x, y)) X2.out) (fcells_one _) (by omega) (by unfold maxLen; omega) S2.out.size ?_
           intro A7 c7 w7 ho7 hf7 h27
           rw [← fcellsL_append, ← List.map_singleton (f := mkF), ← List.map_append, ← htk.out] at ho7
           have S7 := Lib.hid (S2.out.appended0 ho7 hf7 h27)
           clear ho7 hf7 h27))
      all_goals
        go_wp2
        go_roundg g1
        case measure => omega
        case rel => exact ⟨k + 1, A7, c7, by omega, by have := HK2.out; first | go_num | (congr 1; omega), rfl, S7.out⟩
    | zero =>
      obtain rfl : k = n := by omega
      have S1 := Lib.hid s
      have HT : Hid ((l.take k).map mkF = l.map mkF) := by rw [List.take_of_length_le (by rw [Hl.out]; exact Nat.le_refl _)]; exact rfl
      clear s
      have hlen := Hm.out
      have k1 : ¬ ((k2 : Int) + 1 < (m : Int)) := by omega
      have k4 : k2 ≤ 1000 := by omega
      clear hlen
      go_wp2
      go_ret
      refine ⟨A', c', rfl, ?_⟩
      rw [← HT.out]
      exact S1.out
end Go.Proofs.YtilabahcngjflaaDoor
