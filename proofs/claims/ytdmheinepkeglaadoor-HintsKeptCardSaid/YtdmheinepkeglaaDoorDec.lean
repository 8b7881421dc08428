/- The contract of huffman's Decode. -/
import Derived.Test.YtdmheinepkeglaaDoorWalk
namespace Go.Proofs.YtdmheinepkeglaaDoor
open Go.RowKit Go.Own Go.Huf
set_option linter.unusedVariables false

/-- what Decode answers -/
def resV : R → Value
  | .ok t => .tuple #[.string ⟨t.toArray⟩, .int .i64 0]
  | .form => .tuple #[.string ⟨#[]⟩, .int .i64 3]
  | .long => .tuple #[.string ⟨#[]⟩, .int .i64 4]
/-- the world of Decode -/
structure DN (w : World) (p g : Nat) (A : Option Addr) (k c : Nat) (acc : List UInt8) (n v : Nat) (w' : World) : Prop where
  below : Below w.heap.size w w'
  cnt : Cnt w'
  at_ : WAt w' p n v
  ple : w.heap.size ≤ p
  sym : Blk w' g 78 symCells
  gne : g ≠ p
  own : w'.ownsRow w.heap.size 5 1 (.slice A k c) k (acc.map BV)
theorem DN.ne {w : World} {p g : Nat} {A : Option Addr} {k c : Nat} {acc : List UInt8} {n v : Nat} {w' : World} (h : DN w p g A k c acc n v w') (hC : Cnt w) : p ≠ 0 := by
  have := hC.pos
  have := h.ple
  omega
theorem DN.drewN {w : World} {p g : Nat} {A : Option Addr} {k c : Nat} {acc : List UInt8} {n v : Nat} {w' : World} (h : DN w p g A k c acc n v w') (q : Nat) : DN w p g A k c acc n v (w'.drewN q) :=
  ⟨below_drewN h.below q, h.cnt.drewN q, h.at_.drewN q, h.ple, h.sym.drewN q, h.gne, h.own⟩
theorem DN.step {w : World} {p g : Nat} {A : Option Addr} {k c : Nat} {acc : List UInt8} {n v n' v' : Nat} {w' w4 : World} (h : DN w p g A k c acc n v w') (ha : WAt w4 p n' v') (hf : Fr (· = p) w' w4) (hp : p ≠ 0) : DN w p g A k c acc n' v' w4 :=
  ⟨h.below.trans (hf.below h.below.size (fun i _ e => e ▸ h.ple)), h.cnt.fr hf (fun e => hp e.symm), ha, h.ple, h.sym.fr hf h.gne, h.gne, own_fr h.own hf (fun b hb e => own_ne_blk h.own h.at_ (by decide) (e ▸ hb))⟩
theorem DN.alloc {w : World} {p g : Nat} {A : Option Addr} {k c : Nat} {acc : List UInt8} {n v : Nat} {w' : World} (h : DN w p g A k c acc n v w') (o : Obj) : DN w p g A k c acc n v (w'.alloc o) :=
  ⟨h.below.alloc h.below.size o, h.cnt.fr ((Fr.refl (fun _ => False) _).alloc o) (fun h => h), h.at_.alloc o, h.ple, h.sym.alloc o, h.gne, own_alloc h.own o⟩
theorem DN.put {w : World} {p g : Nat} {A A' : Option Addr} {k c c' : Nat} {acc : List UInt8} {n v : Nat} {w' w4 : World} {y : UInt8} (h : DN w p g A k c acc n v w')
    (ho : w4.ownsRow w.heap.size 5 1 (.slice A' (k + 1) c') (k + 1) (acc.map BV ++ [BV y])) (hf : Fr (fun i => some i = (Value.slice A k c).ownBlock) w' w4) (hC : Cnt w) : DN w p g A' (k + 1) c' (acc ++ [y]) n v w4 := by
  have hge : ∀ i, some i = (Value.slice A k c).ownBlock → w.heap.size ≤ i := fun i e => (h.own.lt i e.symm).1
  exact ⟨h.below.trans (hf.below h.below.size (fun i _ e => hge i e)), h.cnt.fr hf (fun e => by have := hge _ e; have := hC.pos; omega), h.at_.fr hf (fun e => own_ne_blk h.own h.at_ (by decide) e.symm), h.ple, h.sym.fr hf (fun e => own_ne_blk h.own h.sym (by decide) e.symm), h.gne, by simpa using ho⟩
theorem DN.reset {w : World} {p g : Nat} {A : Option Addr} {k c : Nat} {acc : List UInt8} {n v : Nat} {w' : World} (h : DN w p g A k c acc n v w') (hp : p ≠ 0) :
    DN w p g A k c acc 0 0 ((((w'.setCell ⟨p, 0, none⟩ (.int .i64 0)).setCell ⟨p, 1, none⟩ (.int .u32 0)).setCell ⟨p, 2, none⟩ (.int .u32 0)).setCell ⟨p, 3, none⟩ (.int .i64 0)) := by
  refine h.step ?_ ((((((Fr.refl (· = p) w').setCell (p := ⟨p, 0, none⟩) (.inl rfl) _).setCell (p := ⟨p, 1, none⟩) (.inl rfl) _).setCell (p := ⟨p, 2, none⟩) (.inl rfl) _).setCell (p := ⟨p, 3, none⟩) (.inl rfl) _)) hp
  exact (((h.at_.set_ 0 (.int .i64 0)).set_ 1 (.int .u32 0)).set_ 2 (.int .u32 0)).set_ 3 (.int .i64 0)
theorem own_nil (w : World) (base : Nat) (e : TypeId) (size : Nat) : w.ownsRow base e size (.slice none 0 0) 0 [] := ⟨by simp, .inl ⟨rfl, rfl⟩⟩
theorem and_bit (x : UInt8) (j : Nat) : Go.bits BinOp.and IntKind.u8 ((x.toNat : Int) / 2 ^ j) 1 = (((x.toNat / 2 ^ j % 2 == 1).toNat : Nat) : Int) := by
  have e : ((x.toNat : Int) / 2 ^ j) = ((x.toNat / 2 ^ j : Nat) : Int) := by simp
  have hx := x.toNat_lt
  have hle : x.toNat / 2 ^ j ≤ x.toNat := Nat.div_le_self _ _
  rw [e, show (1 : Int) = ((1 : Nat) : Int) from rfl, u8_and_nat _ _ (by omega) (by omega), Nat.and_one_is_mod, bit_toNat]

set_option maxRecDepth 100000 in
set_option maxHeartbeats 4000000 in
theorem Decode_any {w : World} {A : Option Addr} {len cap : Nat} {xs : List UInt8} (hr : Rd w 1 A len (xs.map BV)) (hC : Cnt w) (hlc : len ≤ cap) (hcap : cap ≤ 9223372036854775807) (hlen : len ≤ 536870912) (most : Int) :
    Calls Tryd.prog 37 #[.slice A len cap, .int .i64 most] w fun e w' => e = .returned (resV (dec (bits8 xs) most)) ∧ Below w.heap.size w w' := by
  have hzs := zero_syms.1
  have hxl : xs.length = len := by simpa using hr.1
  obtain ⟨R0, hR0⟩ : ∃ R0, dec (bits8 xs) most = R0 := ⟨_, rfl⟩
  rw [hR0]
  have HR0 := Lib.hid hR0
  have Hr := Lib.hid hr
  have Hxl := Lib.hid hxl
  have HC := Lib.hid hC
  clear hR0 hr hxl hC
  go_enter Tryd.func37, Tryd.ntmps37
  go_wp2_with (first
    | (go_at_call 44; (with_reducible refine (syms_any _).mono ?_); rintro e w1 ⟨rfl, hb1⟩; have Hb1 := Lib.hid hb1; clear hb1)
    | (refine wpList_store_syms rfl _ _ rfl rfl rfl ?_))
  clear hzs
  go_loopg [16, 7] len (fun gh i tx w' => ∃ (k : Nat) (A2 : Option Addr) (n2 c2 : Nat) (acc : List UInt8) (n v : Nat), gh + k = len ∧ i = .int .i64 k ∧ tx = .slice A2 n2 c2 ∧ n2 ≤ 8 * k ∧ WS n v ∧
    decP most (bits8 (xs.drop k)) n v acc = R0 ∧ DN w (w1.heap.size + 1) w1.heap.size A2 n2 c2 acc n v w')
  case atStart =>
    refine ⟨0, _, _, _, [], 0, 0, by omega, rfl, rfl, by omega, WS.zero, HR0.out, ?_⟩
    have hs := Hb1.out.size
    refine ⟨(Hb1.out.alloc hs _).alloc (by simp; omega) _, (HC.out.below Hb1.out).fr (((Fr.refl (fun _ => False) _).alloc _).alloc _) (fun h => h), ?_, by omega, ?_, by omega, own_nil _ _ _ _⟩
    · have := Blk.new (w1.alloc (.cells symCells.toArray 78)) 81 [.int .i64 0, .int .u32 0, .int .u32 0, .int .i64 0]
      simpa [WAt, frst, strt] using this
    · exact (Blk.new w1 78 symCells).alloc _
  case round =>
    obtain ⟨k, A2, n2, c2, acc, n, v, hk, rfl, rfl, hn2, hws, hdec, hw⟩ := hrel
    have Hws := Lib.hid hws
    have Hdec := Lib.hid hdec
    have HW := Lib.hid hw
    clear hws hdec hw
    cases gk with
    | succ g1 =>
      have hlt : k < len := by omega
      obtain ⟨b, o, u, rfl, hu, hcu⟩ := Hr.out.at_ hlt
      have hkx : k < xs.length := by have := Hxl.out; omega
      obtain ⟨x, hx⟩ : ∃ x : UInt8, xs[k] = x := ⟨_, rfl⟩
      have hux : u = .int .u8 (x.toNat : Int) := by
        rw [List.getElem?_map, List.getElem?_eq_getElem hkx, hx] at hu
        exact (Option.some.inj hu).symm
      subst hux
      have hcell := (HW.out.below.cell (p := ⟨b, o + k, none⟩) (World.block_lt_of_cell? w _ hcu)).trans hcu
      have hdx : bits8 (xs.drop k) = bitsN 8 x.toNat ++ bits8 (xs.drop (k + 1)) := by rw [List.drop_eq_getElem_cons hkx, bits8_cons, hx]
      have Hdx := Lib.hid hdx
      clear hu hcu hx hdx
      go_wp2
      go_loopg [20, 7] 8 (fun gh i tx w' => ∃ (j : Nat) (A2 : Option Addr) (n2 c2 : Nat) (acc : List UInt8) (n v : Nat), gh + j = 8 ∧ i = .int .i64 j ∧ tx = .slice A2 n2 c2 ∧ n2 ≤ 8 * k + j ∧ WS n v ∧
        decP most (bitsN (8 - j) x.toNat ++ bits8 (xs.drop (k + 1))) n v acc = R0 ∧ DN w (w1.heap.size + 1) w1.heap.size A2 n2 c2 acc n v w')
      case atStart => exact ⟨0, A2, n2, c2, acc, n, v, by omega, rfl, rfl, by omega, Hws.out, by rw [← Hdec.out, Hdx.out], HW.out⟩
      case round =>
        clear HW Hdec Hws hcell Hdx
        obtain ⟨j, A3, n3, c3, acc, n, v, hj, rfl, rfl, hn3, hws, hdec, hw⟩ := hrel
        have Hdec := Lib.hid hdec
        have HW := Lib.hid hw
        have hne := hw.ne HC.out
        clear hdec hw
        cases gk with
        | succ g2 =>
          have hj8 : j < 8 := by omega
          obtain ⟨bt, hbt⟩ : ∃ bt : Bool, (x.toNat / 2 ^ (7 - j) % 2 == 1) = bt := ⟨_, rfl⟩
          have hand := and_bit x (7 - j)
          rw [hbt] at hand
          have hbits : bitsN (8 - j) x.toNat = bt :: bitsN (8 - (j + 1)) x.toNat := by
            rw [show 8 - j = (7 - j) + 1 by omega, bitsN_cons, hbt, show 8 - (j + 1) = 7 - j by omega]
          have hd := Hdec.out
          rw [hbits, List.cons_append, decP] at hd
          have Hd := Lib.hid hd
          obtain ⟨cc, hcc⟩ : ∃ cc, isC (n + 1) (2 * v + bt.toNat) = cc := ⟨_, rfl⟩
          have Hcc := Lib.hid hcc
          have Hws := Lib.hid hws
          clear hbt hbits hd Hdec hcc hws
          cases cc with
          | false =>
            have hnc : ¬ 2 * v + bt.toNat < frst (n + 1) + cnt (n + 1) := by simpa [isC] using Hcc.out
            have hd := Hd.out
            rw [if_neg hnc] at hd
            have Hd2 := Lib.hid hd
            have Hn := Lib.hid (Hws.out.next hnc)
            clear hd hnc
            go_wp2_with (first
              | (go_at_call 45; (with_reducible refine (step_any _ n v bt false _ HW.out.at_ Hws.out HW.out.cnt hne Hcc.out).mono ?_); rintro e w4 ⟨rfl, hb4, hf4⟩; have H4 := Lib.hid (HW.out.step hb4 hf4 hne); clear hb4 hf4))
            go_roundg g2
            case measure => omega
            case rel => exact ⟨j + 1, A3, n3, c3, acc, _, _, by omega, by go_num, rfl, by omega, Hn.out, Hd2.out, H4.out⟩
          | true =>
            have hc : 2 * v + bt.toNat < frst (n + 1) + cnt (n + 1) := by simpa [isC] using Hcc.out
            have hsy := Hws.out.sym hc
            have hle := Hws.out.le bt
            have hn29 := Hws.out.1
            obtain ⟨q, hq⟩ : ∃ q, strt (n + 1) + (2 * v + bt.toNat - frst (n + 1)) = q := ⟨_, rfl⟩
            obtain ⟨s, hs⟩ : ∃ s, sym q = s := ⟨_, rfl⟩
            have hd := Hd.out
            rw [if_pos hc, hq, hs] at hd
            rw [hq, hs] at hsy
            have hs256 := hsy.2.1
            have hq257 := hsy.2.2
            have Hq := Lib.hid hq
            have Hs := Lib.hid hs
            have Hd2 := Lib.hid hd
            have Hc := Lib.hid hc
            have hnl : acc.length = n3 := by have := HW.out.own.1; simpa using this
            have Hnl := Lib.hid hnl
            have Hle := Lib.hid hle
            clear hd hc hsy hq hs hnl hle Hd
            have hq0 : (0 : Int) ≤ (q : Int) := by omega
            have hq1 : (q : Int) < 257 := by omega
            by_cases h256 : s = 256
            · subst h256
              have hd := Hd2.out
              rw [if_pos rfl] at hd
              have Hd3 := Lib.hid hd
              clear hd
              go_wp2_with (first
                | (go_at_call 45; (with_reducible refine (step_any _ n v bt true _ HW.out.at_ Hws.out HW.out.cnt hne Hcc.out).mono ?_); rintro e w4 ⟨rfl, hb4, hf4⟩; have H4 := Lib.hid (HW.out.step hb4 hf4 hne); have hcs := (H4.out.sym.cell q).trans (symCells_at q hq257); rw [Hs.out] at hcs; clear hb4 hf4)
                | (go_at_call 46; (with_reducible refine (place_any _ (n + 1) (2 * v + bt.toNat) q _ H4.out.at_ (by omega) Hle.out Hc.out Hq.out).mono ?_); rintro e w' ⟨rfl, qq, rfl⟩))
              go_ret2
              exact ⟨by rw [← Hd3.out]; rfl, below_drewN H4.out.below _⟩
            · have hsl : s < 256 := by omega
              have hsb : ((s : Int) == 256) = false := by simp; omega
              have hd := Hd2.out
              rw [if_neg h256, Hnl.out] at hd
              have Hd3 := Lib.hid hd
              clear hd h256
              by_cases hm : most ≤ (n3 : Int)
              · have hd := Hd3.out
                rw [if_pos hm] at hd
                have Hd4 := Lib.hid hd
                clear hd
                go_wp2_with (first
                  | (go_at_call 45; (with_reducible refine (step_any _ n v bt true _ HW.out.at_ Hws.out HW.out.cnt hne Hcc.out).mono ?_); rintro e w4 ⟨rfl, hb4, hf4⟩; have H4 := Lib.hid (HW.out.step hb4 hf4 hne); have hcs := (H4.out.sym.cell q).trans (symCells_at q hq257); rw [Hs.out] at hcs; clear hb4 hf4)
                  | (go_at_call 46; (with_reducible refine (place_any _ (n + 1) (2 * v + bt.toNat) q _ H4.out.at_ (by omega) Hle.out Hc.out Hq.out).mono ?_); rintro e w' ⟨rfl, qq, rfl⟩))
                go_ret2
                exact ⟨by rw [← Hd4.out]; rfl, below_drewN H4.out.below _⟩
              · have hd := Hd3.out
                rw [if_neg hm] at hd
                have Hd4 := Lib.hid hd
                clear hd
                go_wp2_with (first
                  | (go_at_call 45; (with_reducible refine (step_any _ n v bt true _ HW.out.at_ Hws.out HW.out.cnt hne Hcc.out).mono ?_); rintro e w4 ⟨rfl, hb4, hf4⟩; have H4 := Lib.hid (HW.out.step hb4 hf4 hne); have hcs := (H4.out.sym.cell q).trans (symCells_at q hq257); rw [Hs.out] at hcs; clear hb4 hf4)
                  | (go_at_call 46; (with_reducible refine (place_any _ (n + 1) (2 * v + bt.toNat) q _ H4.out.at_ (by omega) Hle.out Hc.out Hq.out).mono ?_); rintro e w' ⟨rfl, qq, rfl⟩; have H5 := Lib.hid ((H4.out.drewN qq).alloc (.cells #[.int .u8 (s : Int)] 5)))
                  | (at_builtin
                     refine wpList_append_rd rfl (.tmp 39) (.tmp 42) 23 rfl E31 (.slice A3 n3 c3) n3 (acc.map BV) rfl H5.out.own (some ⟨w4.heap.size, 0, none⟩) 1 1 _ rfl (rd_lit1 (w4.drewN qq) 5 _) (one_lit1 _ _) (by omega) (by unfold maxLen; omega) (by have := H5.out.below.size; exact this) ?_
                     intro A' c' w6 ho hf ho2
                     have hy : Value.int .u8 (s : Int) = BV (UInt8.ofNat s) := by rw [BV, ofNat_toNat _ hsl]
                     rw [hy] at ho
                     have H6 := Lib.hid (H5.out.put ho hf HC.out)
                     have c0 := H6.out.at_.cell 0
                     have c1 := H6.out.at_.cell 1
                     have c2 := H6.out.at_.cell 2
                     have c3 := H6.out.at_.cell 3
                     simp only [List.getElem?_cons_zero, List.getElem?_cons_succ] at c0 c1 c2 c3
                     have f0 := H6.out.at_.frozen 0
                     have f1 := H6.out.at_.frozen 1
                     have f2 := H6.out.at_.frozen 2
                     have f3 := H6.out.at_.frozen 3
                     clear ho hf ho2 hy))
                go_roundg g2
                case measure => omega
                case rel => exact ⟨j + 1, A', n3 + 1, c', _, 0, 0, by omega, by go_num, rfl, by omega, WS.zero, Hd4.out, H6.out.reset hne⟩
        | zero =>
          obtain rfl : j = 8 := by omega
          go_wp2
          go_roundg g1
          case measure => omega
          case rel => exact ⟨k + 1, A3, n3, c3, acc, n, v, by omega, by go_num, rfl, by omega, hws, Hdec.out, HW.out⟩
    | zero =>
      obtain rfl : k = len := by omega
      have hd := Hdec.out
      rw [List.drop_eq_nil_of_le (by have := Hxl.out; omega), show bits8 [] = [] from rfl, decP] at hd
      have hn29 := Hws.out.1
      have hv := Hws.out.2.2
      have hf := frst_bd n (by omega)
      have hv2 : v < 4294967296 := by omega
      have hcv : ∀ q, (convert 23 9 (.slice A2 n2 c2)).run Tryd.prog (wr.drewN q) = .ok (.string ⟨acc.toArray⟩) (wr.drewN q) := fun q => run_conv_bytes (P := Tryd.prog) Tryd.underlying23 Tryd.underlying5 Tryd.underlying9 (Rd.of_own (HW.out.drewN q).own)
      by_cases hp : n < 8 ∧ v + 1 = 2 ^ n
      · rw [if_pos hp] at hd
        have Hd := Lib.hid hd
        have Hp := Lib.hid (show decide (n < 8 ∧ v + 1 = 2 ^ n) = true from decide_eq_true hp)
        clear hd hp hv hf
        go_wp2_with (first
          | (go_at_call 47; (with_reducible refine (pad_any _ n v true _ HW.out.at_ (by omega) hv2 Hp.out).mono ?_); rintro e w' ⟨rfl, qq, rfl⟩))
        go_ret2
        exact ⟨by rw [← Hd.out]; rfl, below_drewN HW.out.below _⟩
      · rw [if_neg hp] at hd
        have Hd := Lib.hid hd
        have Hp := Lib.hid (show decide (n < 8 ∧ v + 1 = 2 ^ n) = false from decide_eq_false hp)
        clear hd hp hv hf hcv
        go_wp2_with (first
          | (go_at_call 47; (with_reducible refine (pad_any _ n v false _ HW.out.at_ (by omega) hv2 Hp.out).mono ?_); rintro e w' ⟨rfl, qq, rfl⟩))
        go_ret2
        exact ⟨by rw [← Hd.out]; rfl, below_drewN HW.out.below _⟩
end Go.Proofs.YtdmheinepkeglaaDoor
