/- The laws' walks: calls, over more things. -/
import Derived.Test.YtinieljgcenemaaDoorG8
namespace Go.Proofs.YtinieljgcenemaaDoor
open Go.RowKit Go.Own Go.Tbl Go.Huf Go.Hin
set_option linter.unusedVariables false
set_option maxRecDepth 100000

section
variable {w0 w : World} {L2 : List Ob} {O0 O1 O2 O3 O4 O5 : Ob} {p h lim : Nat} {l fs : List Fld} {pd : Pend} {list : Int} {A0 : Option Addr} {n0 c0 : Nat} {base : Nat} {xs : List UInt8} {st : Option (Nat × List Fld)}
theorem lEncode4 (s : St NoS w0 w (O0 :: O1 :: O2 :: O3 :: PEo p h l pd :: L2)) (hC : Cnt w0) (hO : FSo base A0 c0 n0 fs ∈ [O0, O1, O2, O3] ++ L2) (hlen : fs.length = n0) (hn0 : n0 ≤ 1073741824) (hfs : ∀ f ∈ fs, f.n.size ≤ 16777216 ∧ f.v.size ≤ 16777216) (Lb : List UInt8) (h' : Nat) (l' : List Fld) (hE : blockE statL h l pd fs = (Lb, h', l')) (N : Nat) (hN : Lb.length = N) (hN2 : N ≤ 1073741824) :
    Calls Tryd.prog 18 #[.pointer (some ⟨p, 0, none⟩), .slice A0 n0 c0] w fun e w' => ∃ A c, e = .returned (.slice A N c) ∧ St NoS w0 w' (O0 :: O1 :: O2 :: O3 :: PEo p h' l' none :: (L2 ++ [BSo w0.heap.size A c N Lb])) := lEncode (L1 := [O0, O1, O2, O3]) s hC hO hlen hn0 hfs Lb h' l' hE N hN hN2
theorem lDecode4 (s : St NoS w0 w (O0 :: O1 :: O2 :: O3 :: PDo p lim list st :: L2)) (hC : Cnt w0) (hO : BSo base A0 c0 n0 xs ∈ [O0, O1, O2, O3] ++ L2) (hlen : n0 ≤ 1048576) (fs : List Fld) (er : Int) (st' : Option (Nat × List Fld)) (hR : decR lim list st xs = (fs, er, st')) (m : Nat) (hm : fs.length = m) :
    Calls Tryd.prog 29 #[.pointer (some ⟨p, 0, none⟩), .slice A0 n0 c0] w fun e w' => ∃ A c, e = .returned (.tuple #[.slice A m c, .int .i64 er]) ∧ St NoS w0 w' (O0 :: O1 :: O2 :: O3 :: PDo p lim list st' :: (L2 ++ [FSo w0.heap.size A c m fs])) := by
  refine (lDecode (L1 := [O0, O1, O2, O3]) s hC hO hlen _ hR).mono ?_
  rintro e w' ⟨A, n, c, rfl, hn, s'⟩
  obtain rfl : n = m := hn.symm.trans hm
  exact ⟨A, c, rfl, s'⟩
theorem lDecodeIn4 (s : St NoS w0 w (O0 :: O1 :: O2 :: O3 :: PDo p lim list st :: L2)) (hC : Cnt w0) (hr : Rd w0 1 A0 n0 (xs.map BV)) (hnc : n0 ≤ c0) (hcm : c0 ≤ 9223372036854775807) (hlen : n0 ≤ 1048576) (fs : List Fld) (er : Int) (st' : Option (Nat × List Fld)) (hR : decR lim list st xs = (fs, er, st')) (m : Nat) (hm : fs.length = m) :
    Calls Tryd.prog 29 #[.pointer (some ⟨p, 0, none⟩), .slice A0 n0 c0] w fun e w' => ∃ A c, e = .returned (.tuple #[.slice A m c, .int .i64 er]) ∧ St NoS w0 w' (O0 :: O1 :: O2 :: O3 :: PDo p lim list st' :: (L2 ++ [FSo w0.heap.size A c m fs])) := by
  refine (lDecodeIn (L1 := [O0, O1, O2, O3]) s hC hr hnc hcm hlen _ hR).mono ?_
  rintro e w' ⟨A, n, c, rfl, hn, s'⟩
  obtain rfl : n = m := hn.symm.trans hm
  exact ⟨A, c, rfl, s'⟩
theorem lDecodeLit4 (s : St NoS w0 w (O0 :: O1 :: O2 :: O3 :: PDo p lim list st :: L2)) (hC : Cnt w0) (zs : List UInt8) (n : Nat) (hn : zs.length = n) (hm : n ≤ 1000) (cs : Array Value) (hcs : cs = (zs.map BV).toArray) (fz : Nat × Nat) (fs : List Fld) (er : Int) (st' : Option (Nat × List Fld)) (hR : decR lim list st zs = (fs, er, st')) (m : Nat) (hmm : fs.length = m) :
    Calls Tryd.prog 29 #[.pointer (some ⟨p, 0, none⟩), .slice (some ⟨w.heap.size, 0, none⟩) n n] (w.alloc (.cells cs 5 fz)) fun e w' => ∃ A c, e = .returned (.tuple #[.slice A m c, .int .i64 er]) ∧ St NoS w0 w' (O0 :: O1 :: O2 :: O3 :: PDo p lim list st' :: (L2 ++ [FSo w0.heap.size A c m fs])) := lDecodeLit (L1 := [O0, O1, O2, O3]) s hC zs n hn hm cs hcs fz fs er st' hR m hmm
theorem lSetMaxE4 (s : St NoS w0 w (O0 :: O1 :: O2 :: O3 :: PEo p h l pd :: L2)) (x : Int) (hx : i64 x) (n : Nat) (hn : clampI x = n) : Calls Tryd.prog 15 #[.pointer (some ⟨p, 0, none⟩), .int .i64 x] w fun e w' => e = .returned (.tuple #[]) ∧ St NoS w0 w' (O0 :: O1 :: O2 :: O3 :: PEo p h l (tell n pd) :: L2) := lSetMaxE (L1 := [O0, O1, O2, O3]) s x hx n hn
theorem lSetMaxD4 (s : St NoS w0 w (O0 :: O1 :: O2 :: O3 :: PDo p lim list st :: L2)) (x : Int) (hx : i64 x) (n : Nat) (hn : clampI x = n) : Calls Tryd.prog 27 #[.pointer (some ⟨p, 0, none⟩), .int .i64 x] w fun e w' => e = .returned (.tuple #[]) ∧ St NoS w0 w' (O0 :: O1 :: O2 :: O3 :: PDo p n list st :: L2) := lSetMaxD (L1 := [O0, O1, O2, O3]) s x hx n hn
theorem lSizeE4 (s : St NoS w0 w (O0 :: O1 :: O2 :: O3 :: PEo p h l pd :: L2)) (z : Nat) (hz : szs l = z) : Calls Tryd.prog 21 #[.pointer (some ⟨p, 0, none⟩)] w fun e w' => e = .returned (.int .i64 (z : Int)) ∧ w' = w := lSizeE (L1 := [O0, O1, O2, O3]) s z hz
theorem lMaxE4 (s : St NoS w0 w (O0 :: O1 :: O2 :: O3 :: PEo p h l pd :: L2)) : Calls Tryd.prog 23 #[.pointer (some ⟨p, 0, none⟩)] w fun e w' => e = .returned (.int .i64 (h : Int)) ∧ w' = w := lMaxE (L1 := [O0, O1, O2, O3]) s
theorem lSizeD4 (s : St NoS w0 w (O0 :: O1 :: O2 :: O3 :: PDo p lim list (some (h, l)) :: L2)) (z : Nat) (hz : szs l = z) : Calls Tryd.prog 21 #[.pointer (some ⟨p, 0, none⟩)] w fun e w' => e = .returned (.int .i64 (z : Int)) ∧ w' = w := lSizeD (L1 := [O0, O1, O2, O3]) s z hz
theorem lMaxD4 (s : St NoS w0 w (O0 :: O1 :: O2 :: O3 :: PDo p lim list (some (h, l)) :: L2)) : Calls Tryd.prog 23 #[.pointer (some ⟨p, 0, none⟩)] w fun e w' => e = .returned (.int .i64 (h : Int)) ∧ w' = w := lMaxD (L1 := [O0, O1, O2, O3]) s
theorem lEncode5 (s : St NoS w0 w (O0 :: O1 :: O2 :: O3 :: O4 :: PEo p h l pd :: L2)) (hC : Cnt w0) (hO : FSo base A0 c0 n0 fs ∈ [O0, O1, O2, O3, O4] ++ L2) (hlen : fs.length = n0) (hn0 : n0 ≤ 1073741824) (hfs : ∀ f ∈ fs, f.n.size ≤ 16777216 ∧ f.v.size ≤ 16777216) (Lb : List UInt8) (h' : Nat) (l' : List Fld) (hE : blockE statL h l pd fs = (Lb, h', l')) (N : Nat) (hN : Lb.length = N) (hN2 : N ≤ 1073741824) :
    Calls Tryd.prog 18 #[.pointer (some ⟨p, 0, none⟩), .slice A0 n0 c0] w fun e w' => ∃ A c, e = .returned (.slice A N c) ∧ St NoS w0 w' (O0 :: O1 :: O2 :: O3 :: O4 :: PEo p h' l' none :: (L2 ++ [BSo w0.heap.size A c N Lb])) := lEncode (L1 := [O0, O1, O2, O3, O4]) s hC hO hlen hn0 hfs Lb h' l' hE N hN hN2
theorem lDecode5 (s : St NoS w0 w (O0 :: O1 :: O2 :: O3 :: O4 :: PDo p lim list st :: L2)) (hC : Cnt w0) (hO : BSo base A0 c0 n0 xs ∈ [O0, O1, O2, O3, O4] ++ L2) (hlen : n0 ≤ 1048576) (fs : List Fld) (er : Int) (st' : Option (Nat × List Fld)) (hR : decR lim list st xs = (fs, er, st')) (m : Nat) (hm : fs.length = m) :
    Calls Tryd.prog 29 #[.pointer (some ⟨p, 0, none⟩), .slice A0 n0 c0] w fun e w' => ∃ A c, e = .returned (.tuple #[.slice A m c, .int .i64 er]) ∧ St NoS w0 w' (O0 :: O1 :: O2 :: O3 :: O4 :: PDo p lim list st' :: (L2 ++ [FSo w0.heap.size A c m fs])) := by
  refine (lDecode (L1 := [O0, O1, O2, O3, O4]) s hC hO hlen _ hR).mono ?_
  rintro e w' ⟨A, n, c, rfl, hn, s'⟩
  obtain rfl : n = m := hn.symm.trans hm
  exact ⟨A, c, rfl, s'⟩
theorem lDecodeIn5 (s : St NoS w0 w (O0 :: O1 :: O2 :: O3 :: O4 :: PDo p lim list st :: L2)) (hC : Cnt w0) (hr : Rd w0 1 A0 n0 (xs.map BV)) (hnc : n0 ≤ c0) (hcm : c0 ≤ 9223372036854775807) (hlen : n0 ≤ 1048576) (fs : List Fld) (er : Int) (st' : Option (Nat × List Fld)) (hR : decR lim list st xs = (fs, er, st')) (m : Nat) (hm : fs.length = m) :
    Calls Tryd.prog 29 #[.pointer (some ⟨p, 0, none⟩), .slice A0 n0 c0] w fun e w' => ∃ A c, e = .returned (.tuple #[.slice A m c, .int .i64 er]) ∧ St NoS w0 w' (O0 :: O1 :: O2 :: O3 :: O4 :: PDo p lim list st' :: (L2 ++ [FSo w0.heap.size A c m fs])) := by
  refine (lDecodeIn (L1 := [O0, O1, O2, O3, O4]) s hC hr hnc hcm hlen _ hR).mono ?_
  rintro e w' ⟨A, n, c, rfl, hn, s'⟩
  obtain rfl : n = m := hn.symm.trans hm
  exact ⟨A, c, rfl, s'⟩
theorem lDecodeLit5 (s : St NoS w0 w (O0 :: O1 :: O2 :: O3 :: O4 :: PDo p lim list st :: L2)) (hC : Cnt w0) (zs : List UInt8) (n : Nat) (hn : zs.length = n) (hm : n ≤ 1000) (cs : Array Value) (hcs : cs = (zs.map BV).toArray) (fz : Nat × Nat) (fs : List Fld) (er : Int) (st' : Option (Nat × List Fld)) (hR : decR lim list st zs = (fs, er, st')) (m : Nat) (hmm : fs.length = m) :
    Calls Tryd.prog 29 #[.pointer (some ⟨p, 0, none⟩), .slice (some ⟨w.heap.size, 0, none⟩) n n] (w.alloc (.cells cs 5 fz)) fun e w' => ∃ A c, e = .returned (.tuple #[.slice A m c, .int .i64 er]) ∧ St NoS w0 w' (O0 :: O1 :: O2 :: O3 :: O4 :: PDo p lim list st' :: (L2 ++ [FSo w0.heap.size A c m fs])) := lDecodeLit (L1 := [O0, O1, O2, O3, O4]) s hC zs n hn hm cs hcs fz fs er st' hR m hmm
theorem lSetMaxE5 (s : St NoS w0 w (O0 :: O1 :: O2 :: O3 :: O4 :: PEo p h l pd :: L2)) (x : Int) (hx : i64 x) (n : Nat) (hn : clampI x = n) : Calls Tryd.prog 15 #[.pointer (some ⟨p, 0, none⟩), .int .i64 x] w fun e w' => e = .returned (.tuple #[]) ∧ St NoS w0 w' (O0 :: O1 :: O2 :: O3 :: O4 :: PEo p h l (tell n pd) :: L2) := lSetMaxE (L1 := [O0, O1, O2, O3, O4]) s x hx n hn
theorem lSetMaxD5 (s : St NoS w0 w (O0 :: O1 :: O2 :: O3 :: O4 :: PDo p lim list st :: L2)) (x : Int) (hx : i64 x) (n : Nat) (hn : clampI x = n) : Calls Tryd.prog 27 #[.pointer (some ⟨p, 0, none⟩), .int .i64 x] w fun e w' => e = .returned (.tuple #[]) ∧ St NoS w0 w' (O0 :: O1 :: O2 :: O3 :: O4 :: PDo p n list st :: L2) := lSetMaxD (L1 := [O0, O1, O2, O3, O4]) s x hx n hn
theorem lSizeE5 (s : St NoS w0 w (O0 :: O1 :: O2 :: O3 :: O4 :: PEo p h l pd :: L2)) (z : Nat) (hz : szs l = z) : Calls Tryd.prog 21 #[.pointer (some ⟨p, 0, none⟩)] w fun e w' => e = .returned (.int .i64 (z : Int)) ∧ w' = w := lSizeE (L1 := [O0, O1, O2, O3, O4]) s z hz
theorem lMaxE5 (s : St NoS w0 w (O0 :: O1 :: O2 :: O3 :: O4 :: PEo p h l pd :: L2)) : Calls Tryd.prog 23 #[.pointer (some ⟨p, 0, none⟩)] w fun e w' => e = .returned (.int .i64 (h : Int)) ∧ w' = w := lMaxE (L1 := [O0, O1, O2, O3, O4]) s
theorem lSizeD5 (s : St NoS w0 w (O0 :: O1 :: O2 :: O3 :: O4 :: PDo p lim list (some (h, l)) :: L2)) (z : Nat) (hz : szs l = z) : Calls Tryd.prog 21 #[.pointer (some ⟨p, 0, none⟩)] w fun e w' => e = .returned (.int .i64 (z : Int)) ∧ w' = w := lSizeD (L1 := [O0, O1, O2, O3, O4]) s z hz
theorem lMaxD5 (s : St NoS w0 w (O0 :: O1 :: O2 :: O3 :: O4 :: PDo p lim list (some (h, l)) :: L2)) : Calls Tryd.prog 23 #[.pointer (some ⟨p, 0, none⟩)] w fun e w' => e = .returned (.int .i64 (h : Int)) ∧ w' = w := lMaxD (L1 := [O0, O1, O2, O3, O4]) s
end
section
variable {w0 w : World} {L L1 L2 : List Ob} {p h : Nat} {l : List Fld} {pd : Pend}
/-- Encode of nothing -/
theorem lEncodeNil (s : St NoS w0 w (L1 ++ PEo p h l pd :: L2)) (hC : Cnt w0) (Lb : List UInt8) (h' : Nat) (l' : List Fld) (hE : blockE statL h l pd [] = (Lb, h', l')) (N : Nat) (hN : Lb.length = N) (hN2 : N ≤ 1073741824) :
    Calls Tryd.prog 18 #[.pointer (some ⟨p, 0, none⟩), .slice none 0 0] w fun e w' => ∃ A c, e = .returned (.slice A N c) ∧ St NoS w0 w' (L1 ++ PEo p h' l' none :: (L2 ++ [BSo w0.heap.size A c N Lb])) := by
  obtain ⟨F, t, _, hF, go⟩ := s.focus L1 _ L2
  have hsz := s.size
  refine (eEncode_c t (cnt_st hC s) (no_counts hC hF) (fs := []) (Rd.nil _ _ _) rfl (by omega) (fun a ha => by cases ha) (fun f hf => by cases hf) Lb h' l' hE N hN hN2).mono ?_
  rintro e w' ⟨A, c, rfl, s'⟩
  exact ⟨A, c, rfl, go _ _ _ (s'.floor [PEo p h' l' none] [] hsz)⟩
theorem lEncodeNil0 (s : St NoS w0 w (PEo p h l pd :: L2)) (hC : Cnt w0) (Lb : List UInt8) (h' : Nat) (l' : List Fld) (hE : blockE statL h l pd [] = (Lb, h', l')) (N : Nat) (hN : Lb.length = N) (hN2 : N ≤ 1073741824) :
    Calls Tryd.prog 18 #[.pointer (some ⟨p, 0, none⟩), .slice none 0 0] w fun e w' => ∃ A c, e = .returned (.slice A N c) ∧ St NoS w0 w' (PEo p h' l' none :: (L2 ++ [BSo w0.heap.size A c N Lb])) := lEncodeNil (L1 := []) s hC Lb h' l' hE N hN hN2
end
theorem and_16 (m : Int) : ∃ k : Nat, Go.bits BinOp.and IntKind.i64 m 65535 = (k : Int) ∧ k ≤ 65535 := by
  refine ⟨(BitVec.ofInt 64 m &&& BitVec.ofInt 64 65535).toNat, ?_, ?_⟩
  · show IntKind.i64.wrap (((BitVec.ofInt 64 m &&& BitVec.ofInt 64 65535).toNat : Nat) : Int) = _
    have h : (BitVec.ofInt 64 m &&& BitVec.ofInt 64 65535).toNat ≤ 65535 := by
      rw [BitVec.toNat_and]
      exact Nat.and_le_right
    rw [IntKind.wrap_i64]
    omega
  · rw [BitVec.toNat_and]
    exact Nat.and_le_right
end Go.Proofs.YtinieljgcenemaaDoor
