/- The contract of huffman's Encode. -/
import Derived.Test.YtdmheinepkeglaaDoorEnc
import Derived.Deep.DeepCutAuto
namespace Go.Proofs.YtdmheinepkeglaaDoor
open Go.RowKit Go.Own Go.Huf
set_option linter.unusedVariables false

theorem E31 : Elt Tryd.prog 23 5 (.int .u8 0) 1 1 := ⟨Tryd.underlying23, by
  refine ⟨_, rfl, ?_, ?_, ?_⟩ <;> kernel_rfl, rfl, by decide⟩
theorem run_make_cap {L C : Nat} (hC : (L + 7) / 8 = C) (hb : L ≤ 503316480) (w : World) : (Instr.makeSlice 23 (.int .i64 0) (.int .i64 (((L : Int) + 7) / 8))).run Tryd.prog w = .ok (.slice (some ⟨w.heap.size, 0, none⟩) 0 C) (w.alloc (.cells (zeros (.int .u8 0) C).toArray 5)) := by
  have e : ((L : Int) + 7) / 8 = (C : Int) := by omega
  obtain ⟨ht, ⟨i, hi, hz0, hsize, hby⟩, hzs, hsz⟩ := E31
  have hr := run_make (P := Tryd.prog) w 23 5 i (.int .u8 0) ht hi hz0 .i64 .i64 0 C (by omega) (by omega) (by rw [hby]; omega) (by omega)
  simp only [Int.toNat_natCast, hsize, Nat.mul_one, Int.toNat_zero] at hr
  rw [e, hr]
  congr 3
  apply Array.toList_inj.1
  rw [show (Value.int IntKind.u8 0).cells = #[.int .u8 0] from rfl, toList_madeCells_one]
  rfl
/-- the state of the writer: xs are out, r waits (the last bits of wt) -/
structure EW (bs : List Bool) (xs : List UInt8) (wt bits : Nat) : Prop where
  r : ∃ r : List Bool, bits8 xs ++ r = bs ∧ r.length = bits ∧ wt % 2 ^ bits = numB r
  lt : wt < 18446744073709551616

theorem numB_append (a : List Bool) : ∀ b, numB (a ++ b) = numB a * 2 ^ b.length + numB b := by
  refine snoc_ind (by simp [numB]) (fun l x ih => ?_)
  rw [← List.append_assoc, numB_snoc, ih, numB_snoc, List.length_append, List.length_singleton, Nat.pow_succ, Nat.mul_add]
  have : numB a * (2 ^ l.length * 2) = 2 * (numB a * 2 ^ l.length) := by rw [← Nat.mul_assoc, Nat.mul_comm]
  omega
theorem mul_mod_pow (a m b : Nat) : (a * 2 ^ m) % 2 ^ (b + m) = (a % 2 ^ b) * 2 ^ m := by
  rw [Nat.pow_add, Nat.mul_mod_mul_right]
theorem or_new (wt v m : Nat) (hm : m ≤ 30) (hv : v < 2 ^ m) (hwt : wt < 18446744073709551616) :
    Go.bits BinOp.or IntKind.u64 (IntKind.u64.wrap ((wt : Int) * 2 ^ m)) (v : Int) = ((wt * 2 ^ m % 18446744073709551616 + v : Nat) : Int) ∧ wt * 2 ^ m % 18446744073709551616 + v < 18446744073709551616 := by
  have e1 : IntKind.u64.wrap ((wt : Int) * 2 ^ m) = ((wt * 2 ^ m % 18446744073709551616 : Nat) : Int) := by
    rw [IntKind.wrap_u64]
    have : ((wt : Int) * 2 ^ m) = ((wt * 2 ^ m : Nat) : Int) := by simp
    rw [this]; omega
  have h64 : (18446744073709551616 : Nat) = 2 ^ (64 - m + m) := by rw [show 64 - m + m = 64 by omega]
  have e2 : wt * 2 ^ m % 18446744073709551616 = (wt % 2 ^ (64 - m)) * 2 ^ m := by rw [h64, mul_mod_pow]
  have hlt : (wt % 2 ^ (64 - m)) * 2 ^ m + v < 18446744073709551616 := by
    have h1 : wt % 2 ^ (64 - m) < 2 ^ (64 - m) := Nat.mod_lt _ (Nat.two_pow_pos _)
    have h2 : (wt % 2 ^ (64 - m) + 1) * 2 ^ m ≤ 2 ^ (64 - m) * 2 ^ m := Nat.mul_le_mul_right _ h1
    rw [← Nat.pow_add, show 64 - m + m = 64 by omega, Nat.add_mul] at h2
    omega
  have h30 : (2 : Nat) ^ m ≤ 2 ^ 30 := Nat.pow_le_pow_right (by omega) hm
  refine ⟨?_, by rw [e2]; exact hlt⟩
  rw [e1, u64_or_nat _ _ (Nat.mod_lt _ (by omega)) (by omega), e2, Nat.mul_comm, ← Nat.two_pow_add_eq_or_of_lt hv]
theorem EW.push {bs : List Bool} {xs : List UInt8} {wt bits m v : Nat} (h : EW bs xs wt bits) (hb : bits ≤ 30) (hm : m ≤ 30) (hv : v < 2 ^ m) : EW (bs ++ bitsN m v) xs (wt * 2 ^ m % 18446744073709551616 + v) (bits + m) := by
  obtain ⟨⟨r, h1, h2, h3⟩, h4⟩ := h
  refine ⟨⟨r ++ bitsN m v, by rw [← h1, List.append_assoc], by simp [h2, bitsN_length], ?_⟩, (or_new wt v m hm hv h4).2⟩
  rw [numB_append, bitsN_length, numB_bitsN, Nat.mod_eq_of_lt hv, ← h3]
  have e : wt * 2 ^ m % 18446744073709551616 % 2 ^ (bits + m) = wt % 2 ^ bits * 2 ^ m := by
    rw [← mul_mod_pow, show (18446744073709551616 : Nat) = 2 ^ (bits + m) * 2 ^ (64 - (bits + m)) by rw [← Nat.pow_add, show bits + m + (64 - (bits + m)) = 64 by omega], Nat.mod_mul_right_mod]
  have hlt : wt % 2 ^ bits * 2 ^ m + v < 2 ^ (bits + m) := by
    have h1 : wt % 2 ^ bits < 2 ^ bits := Nat.mod_lt _ (Nat.two_pow_pos _)
    have h2 : (wt % 2 ^ bits + 1) * 2 ^ m ≤ 2 ^ bits * 2 ^ m := Nat.mul_le_mul_right _ h1
    rw [← Nat.pow_add, Nat.add_mul] at h2
    omega
  rw [Nat.add_mod, e, Nat.mod_eq_of_lt (show v < 2 ^ (bits + m) by omega), Nat.mod_eq_of_lt hlt]
theorem EW.emit {bs : List Bool} {xs : List UInt8} {wt bits : Nat} (h : EW bs xs wt bits) (hb : 8 ≤ bits) : EW bs (xs ++ [UInt8.ofNat (wt / 2 ^ (bits - 8) % 256)]) wt (bits - 8) := by
  obtain ⟨⟨r, h1, h2, h3⟩, h4⟩ := h
  have hs : numB r = numB (r.take 8) * 2 ^ (bits - 8) + numB (r.drop 8) := by
    have := numB_append (r.take 8) (r.drop 8)
    rwa [List.take_append_drop, List.length_drop, h2] at this
  have ht := numB_lt (r.take 8)
  have hd := numB_lt (r.drop 8)
  rw [List.length_take, h2, Nat.min_eq_left hb] at ht
  rw [List.length_drop, h2] at hd
  have hp : 2 ^ bits = 2 ^ (bits - 8) * 256 := by rw [show (256 : Nat) = 2 ^ 8 from rfl, ← Nat.pow_add]; congr 1; omega
  rw [hs, hp, Nat.mod_mul] at h3
  have hpos := Nat.two_pow_pos (bits - 8)
  have hm : wt % 2 ^ (bits - 8) < 2 ^ (bits - 8) := Nat.mod_lt _ hpos
  have e1 : wt % 2 ^ (bits - 8) = numB (r.drop 8) := by
    have := congrArg (· % 2 ^ (bits - 8)) h3
    simp only [Nat.add_mul_mod_self_left, Nat.mod_mod] at this
    rwa [Nat.add_comm, Nat.add_mul_mod_self_right, Nat.mod_eq_of_lt hd] at this
  have e2 : wt / 2 ^ (bits - 8) % 256 = numB (r.take 8) := by
    rw [e1, Nat.mul_comm, Nat.add_comm] at h3
    exact Nat.eq_of_mul_eq_mul_right hpos (Nat.add_right_cancel h3)
  refine ⟨⟨r.drop 8, ?_, by simp [h2], e1⟩, h4⟩
  rw [bits8_append, e2, ← h1, List.append_assoc]
  congr 1
  rw [bits8_cons, show bits8 [] = [] from rfl, List.append_nil, ofNat_toNat _ (by omega)]
  have := bitsN_numB (r.take 8)
  rw [List.length_take, h2, Nat.min_eq_left hb] at this
  rw [this, List.take_append_drop]
/-- the last octet -/
theorem EW.last {bs : List Bool} {xs : List UInt8} {wt bits : Nat} (h : EW bs xs wt bits) (hb : bits < 8) : Pk bs (xs ++ [UInt8.ofNat ((wt % 2 ^ bits) * 2 ^ (8 - bits) + (2 ^ (8 - bits) - 1))]) ∨ bits = 0 := by
  rcases Nat.eq_zero_or_pos bits with h0 | h0
  · exact .inr h0
  obtain ⟨⟨r, h1, h2, h3⟩, h4⟩ := h
  refine .inl ⟨8 - bits, by omega, ?_⟩
  have hn : numB (r ++ List.replicate (8 - bits) true) = (wt % 2 ^ bits) * 2 ^ (8 - bits) + (2 ^ (8 - bits) - 1) := by
    rw [numB_append, List.length_replicate, h3]
    congr 1
    have := (numB_ones (List.replicate (8 - bits) true)).2 (fun b hb => (List.mem_replicate.1 hb).2)
    rw [List.length_replicate] at this
    omega
  have hl : (r ++ List.replicate (8 - bits) true).length = 8 := by simp [h2]; omega
  have hlt := numB_lt (r ++ List.replicate (8 - bits) true)
  have hb := bitsN_numB (r ++ List.replicate (8 - bits) true)
  rw [hl, hn] at hb
  rw [hl, hn] at hlt
  rw [bits8_append, bits8_cons, show bits8 [] = [] from rfl, List.append_nil, ofNat_toNat _ (by omega), hb, ← List.append_assoc, h1]
theorem EW.done {bs : List Bool} {xs : List UInt8} {wt bits : Nat} (h : EW bs xs wt bits) (hb : bits = 0) : Pk bs xs := by
  obtain ⟨⟨r, h1, h2, h3⟩, h4⟩ := h
  obtain rfl := List.eq_nil_of_length_eq_zero (h2.trans hb)
  exact ⟨0, by omega, by simpa using h1⟩

theorem last_new (wt bits : Nat) (h0 : 0 < bits) (hb : bits < 8) (hwt : wt < 18446744073709551616) :
    Go.bits BinOp.or IntKind.u64 (IntKind.u64.wrap ((wt : Int) * 2 ^ (8 - bits))) (IntKind.u64.wrap (IntKind.u64.wrap (2 ^ (8 - bits)) - 1)) % 256 = (((wt % 2 ^ bits) * 2 ^ (8 - bits) + (2 ^ (8 - bits) - 1) : Nat) : Int) := by
  have h256 : 2 ^ bits * 2 ^ (8 - bits) = 256 := by rw [← Nat.pow_add, show bits + (8 - bits) = 8 by omega]
  have hp := Nat.two_pow_pos (8 - bits)
  have hle : 2 ^ (8 - bits) ≤ 2 ^ 8 := Nat.pow_le_pow_right (by omega) (by omega)
  have e1 : IntKind.u64.wrap (IntKind.u64.wrap (2 ^ (8 - bits)) - 1) = ((2 ^ (8 - bits) - 1 : Nat) : Int) := by
    have : ((2 : Int) ^ (8 - bits)) = ((2 ^ (8 - bits) : Nat) : Int) := by simp
    rw [this, IntKind.wrap_u64, IntKind.wrap_u64]; omega
  rw [e1, (or_new wt _ (8 - bits) (by omega) (by omega) hwt).1]
  have hm := mul_mod_pow wt (8 - bits) bits
  rw [show bits + (8 - bits) = 8 by omega] at hm
  have h1 : wt % 2 ^ bits < 2 ^ bits := Nat.mod_lt _ (Nat.two_pow_pos _)
  have h2 : (wt % 2 ^ bits + 1) * 2 ^ (8 - bits) ≤ 2 ^ bits * 2 ^ (8 - bits) := Nat.mul_le_mul_right _ h1
  rw [h256, Nat.add_mul] at h2
  omega
theorem own_alloc {w : World} {base : Nat} {e : TypeId} {size : Nat} {v : Value} {n : Nat} {xs : List Value} (h : w.ownsRow base e size v n xs) (o : Obj) : (w.alloc o).ownsRow base e size v n xs :=
  own_fr (S := fun _ => False) h ((Fr.refl _ _).alloc o) (fun _ _ h => h)
theorem own_base {w : World} {b B : Nat} {e : TypeId} {size : Nat} {v : Value} {n : Nat} {xs : List Value} (h : w.ownsRow b e size v n xs) (hB : ∀ g, v.ownBlock = some g → B ≤ g) : w.ownsRow B e size v n xs := by
  refine ⟨h.1, ?_⟩
  rcases h.2 with h' | ⟨g, cap, cur, rfl, hb, rest⟩
  · exact .inl h'
  · exact .inr ⟨g, cap, cur, rfl, hB g rfl, rest⟩
theorem rd_lit1 (w : World) (t : TypeId) (v : Value) : Rd (w.alloc (.cells #[v] t)) 1 (some ⟨w.heap.size, 0, none⟩) 1 [v] :=
  Rd.of_blk (n := 1) (size := 1) (Blk.new w t [v]) (by simp)
theorem one_lit1 (k : IntKind) (z : Int) : ∀ u ∈ [Value.int k z], u.oneCell' = true := by
  intro u hu
  simp at hu
  subst hu
  rfl

/-- the world of Encode -/
structure EN (w : World) (g : Nat) (bs : List Bool) (A : Option Addr) (n c : Nat) (xs : List UInt8) (wt bits : Nat) (w' : World) : Prop where
  below : Below w.heap.size w w'
  blk : Blk w' g 71 codeCells
  own : w'.ownsRow w.heap.size 5 1 (.slice A n c) n (xs.map BV)
  ew : EW bs xs wt bits
theorem EN.len {w : World} {g : Nat} {bs : List Bool} {A : Option Addr} {n c : Nat} {xs : List UInt8} {wt bits : Nat} {w' : World} (h : EN w g bs A n c xs wt bits w') : 8 * n + bits = bs.length := by
  obtain ⟨r, h1, h2, _⟩ := h.ew.r
  have := congrArg List.length h1
  rw [List.length_append, bits8_length, h2] at this
  have h3 := h.own.1
  simp at h3
  omega
theorem EN.alloc {w : World} {g : Nat} {bs : List Bool} {A : Option Addr} {n c : Nat} {xs : List UInt8} {wt bits : Nat} {w' : World} (h : EN w g bs A n c xs wt bits w') (o : Obj) (q : Nat) : EN w g bs A n c xs wt bits ((w'.alloc o).drewN q) :=
  ⟨below_drewN (h.below.alloc h.below.size o) q, (h.blk.alloc o).drewN q, own_alloc h.own o, h.ew⟩
/-- behind an octet more -/
theorem EN.next {w : World} {g : Nat} {bs : List Bool} {A A' : Option Addr} {n c c' : Nat} {xs : List UInt8} {wt bits wt3 bits3 : Nat} {w' w4 : World} {y : UInt8} {o : Obj} (h : EN w g bs A n c xs wt bits w')
    (ho : w4.ownsRow w.heap.size 5 1 (.slice A' (n + 1) c') (n + 1) (xs.map BV ++ [BV y])) (hf : Fr (fun i => some i = (Value.slice A n c).ownBlock) (w'.alloc o) w4) (he : EW bs (xs ++ [y]) wt3 bits3) : EN w g bs A' (n + 1) c' (xs ++ [y]) wt3 bits3 w4 := by
  have hne := own_ne_blk h.own h.blk (by decide)
  have hf' : Fr (fun i => some i = (Value.slice A n c).ownBlock) w' w4 := ((Fr.refl _ _).alloc o).trans hf (fun i _ h => h)
  exact ⟨h.below.trans (hf'.below h.below.size (fun i _ e => (h.own.lt i e.symm).1)), h.blk.fr hf' (fun e => hne e.symm), by simpa using ho, he⟩

set_option maxRecDepth 100000 in
set_option maxHeartbeats 2000000 in
theorem Encode_any (s : ByteArray) (w : World) (hC : Cnt w) (hs : s.size ≤ 16777216) :
    Calls Tryd.prog 30 #[.string s] w fun e w' => ∃ A n c xs, e = .returned (.slice A n c) ∧ w'.ownsRow w.heap.size 5 1 (.slice A n c) n (xs.map BV) ∧ Pk (enc s.data.toList) xs ∧ Below w.heap.size w w' := by
  have hz := zero_codes.1
  have hle := enc_le s.data.toList
  have hsl : s.data.toList.length = s.size := by simp
  rw [hsl] at hle
  obtain ⟨L, hL⟩ : ∃ L, (enc s.data.toList).length = L := ⟨_, rfl⟩
  rw [hL] at hle
  have HL := Lib.hid hL

  clear hL hsl
  obtain ⟨C, hCC⟩ : ∃ C, (L + 7) / 8 = C := ⟨_, rfl⟩
  have hmk := run_make_cap hCC (by omega)
  have HCC := Lib.hid hCC
  clear hCC
  go_enter Tryd.func30, Tryd.ntmps30
  go_wp2_with (first
    | (go_at_call 41; (with_reducible refine (codes_any _ hC).mono ?_); rintro e w1 ⟨rfl, hb1⟩; have Hb1 := Lib.hid hb1; clear hb1)
    | (refine wpList_store_codes rfl _ _ rfl _ rfl (outP 0) codeL (outP_length 0) codeL_length rfl (Blk.new _ _ _) ?_; intro w2 hb2 hf2; have HB2 := Lib.hid hb2; have Hf2 := Lib.hid hf2; clear hb2 hf2)
    | (go_at_call 42; (with_reducible refine (size_any s _ _ HB2.out (by omega)).mono ?_); rintro e w' ⟨rfl, q, rfl⟩; rw [HL.out]))
  clear hz hmk
  go_loopg [17, 5, 6, 4] s.size (fun gh i wt bt o w' => ∃ (k : Nat) (A : Option Addr) (n c : Nat) (xs : List UInt8) (wt' bits : Nat), gh + k = s.size ∧ i = .int .i64 k ∧ wt = .int .u64 wt' ∧ bt = .int .i64 bits ∧ o = .slice A n c ∧ bits < 8 ∧
    EN w w1.heap.size (enc (s.data.toList.take k)) A n c xs wt' bits w')
  case atStart =>
    refine ⟨0, _, _, _, [], 0, 0, by omega, rfl, rfl, rfl, rfl, by omega, ?_⟩
    have s1 := Hb1.out.size
    have hb2 : Below w.heap.size w w2 := Hb1.out.trans (((Below.refl _ _).alloc s1 _).trans (Hf2.out.below (by simp; omega) (fun i _ e => by omega)))
    have s2 := hb2.size
    have hB : Blk ((w2.drewN q).alloc (.cells (zeros (.int .u8 0) C).toArray 5)) w2.heap.size 5 (zeros (.int .u8 0) C) := Blk.new (w2.drewN q) _ _
    have how := own_of_blk (size := 1) (n := 0) (cap := C) hB (by simp [zeros_length]) (by omega) (by have := HCC.out; unfold maxLen; omega)
    refine ⟨below_drewN hb2 q |>.alloc (by simpa using s2) _, ((HB2.out.drewN q).alloc _), ?_, ⟨[], rfl, rfl, by simp [numB]⟩, by omega⟩
    have h := own_base (B := w.heap.size) how (fun g hg => by simp [Value.ownBlock] at hg; omega)
    simpa using h
  case round =>
    obtain ⟨k, A, n, c, xs, wt', bits, hk, rfl, rfl, rfl, rfl, hb8, hw⟩ := hrel
    have HW := Lib.hid hw
    have hlen := hw.len
    have hle2 := enc_le (s.data.toList.take k)
    have hkl : (s.data.toList.take k).length ≤ k := List.length_take_le _ _
    have hwt := hw.ew.lt
    have hnb : n ≤ 4 * s.size := by omega
    clear hw hlen hle2 hkl
    cases gk with
    | succ g1 =>
      have hlt : k < s.size := by omega
      obtain ⟨x, hx⟩ : ∃ x : UInt8, s[k] = x := ⟨_, rfl⟩
      have he := enc_take s k hlt
      rw [hx] at he
      have He := Lib.hid he
      have hcd := code_bd x
      have hc0 := (blk_code HW.out.blk x).1
      have hc1 := (blk_code HW.out.blk x).2
      obtain ⟨m, hm⟩ : ∃ m, (code x.toNat).2 = m := ⟨_, rfl⟩
      obtain ⟨v, hv⟩ : ∃ v, (code x.toNat).1 = v := ⟨_, rfl⟩
      rw [hm, hv] at hcd
      rw [hm] at hc1
      rw [hv] at hc0
      have Hv := Lib.hid hv
      have Hm := Lib.hid hm
      have h30 : (2 : Nat) ^ m ≤ 2 ^ 30 := Nat.pow_le_pow_right (by omega) hcd.2.1
      have hv30 : v < 1073741824 := by omega
      have hm1 := hcd.1
      have hm2 := hcd.2.1
      have Hcd := Lib.hid hcd
      have hxl := x.toNat_lt
      have hx1 : (0 : Int) ≤ (x.toNat : Int) := by omega
      have hx2 : (x.toNat : Int) < 257 := by omega
      obtain ⟨wt2, hw2⟩ : ∃ wt2, wt' * 2 ^ m % 18446744073709551616 + v = wt2 := ⟨_, rfl⟩
      have hor := or_new wt' v m hm2 hcd.2.2 hwt
      rw [hw2] at hor
      have hw2lt := hor.2
      have hor := hor.1
      have Hw2 := Lib.hid hw2
      have hm0 : (0 : Int) ≤ (m : Int) := by omega
      clear he hm hv hcd h30 hw2
      go_wp2_with fail
      go_quiet (fail)
      clear hor hwt
      go_wp2
      go_loopg [6, 4] ((bits + m) / 8) (fun gh bt o w' => ∃ (b2 : Nat) (A2 : Option Addr) (n2 c2 : Nat) (xs2 : List UInt8), b2 / 8 = gh ∧ b2 ≤ 37 ∧ bt = .int .i64 b2 ∧ o = .slice A2 n2 c2 ∧ n2 ≤ n + 5 - gh ∧
        EN w w1.heap.size (enc (s.data.toList.take (k + 1))) A2 n2 c2 xs2 wt2 b2 w')
      case atStart =>
        refine ⟨bits + m, A, n, c, xs, rfl, by omega, by go_num, rfl, by omega, ?_⟩
        have h := HW.out.alloc (.cells #[.int .u32 v, .int .i64 m] 70) nq
        have h2 := HW.out.ew.push (m := m) (v := v) (by omega) hm2 Hcd.out.2.2
        rw [Hw2.out] at h2
        rw [He.out, cbits, Hm.out, Hv.out]
        exact ⟨h.below, h.blk, h.own, h2⟩
      case round =>
        obtain ⟨b2, A2, n2, c2, xs2, hgb, hb37, rfl, rfl, hn2, hw2⟩ := hrel
        have HW2 := Lib.hid hw2
        clear hw2
        cases gk with
        | succ g2 =>
          have hb28 : 8 ≤ b2 := by omega
          have hown := own_alloc HW2.out.own (.cells #[.int .u8 ((wt2 : Int) / 2 ^ (b2 - 8) % 256)] 5)
          have Hown := Lib.hid hown
          clear hown
          go_wp2_with (first
            | (at_builtin
               refine wpList_append_rd rfl (.tmp 41) (.tmp 46) 23 rfl E31 (.slice A2 n2 c2) n2 (xs2.map BV) rfl Hown.out (some ⟨wr.heap.size, 0, none⟩) 1 1 _ rfl (rd_lit1 wr 5 _) (one_lit1 _ _) (by omega) (by unfold maxLen; omega) (by have := HW2.out.below.size; simp; omega) ?_
               intro A' c' w4 ho hf ho2
               have Ho := Lib.hid ho
               have Hf := Lib.hid hf
               clear ho hf ho2))
          go_roundg g2
          case measure => omega
          case rel =>
            have hy : Value.int .u8 ((wt2 : Int) / 2 ^ (b2 - 8) % 256) = BV (UInt8.ofNat (wt2 / 2 ^ (b2 - 8) % 256)) := by
              rw [BV, ofNat_toNat _ (by omega)]; simp
            have ho := Ho.out
            rw [hy] at ho
            exact ⟨b2 - 8, A', n2 + 1, c', _, by omega, by omega, by go_num, rfl, by omega, HW2.out.next ho Hf.out (HW2.out.ew.emit hb28)⟩
        | zero =>
          have hb28 : b2 < 8 := by omega
          go_wp2
          go_roundg g1
          case measure => omega
          case rel => exact ⟨k + 1, A2, n2, c2, xs2, wt2, b2, by omega, by go_num, rfl, rfl, rfl, hb28, HW2.out⟩
    | zero =>
      obtain rfl : k = s.size := by omega
      have HL2 : Hid (s.data.toList.take s.size = s.data.toList) := List.take_of_length_le (by simp)
      rw [HL2.out] at HW
      by_cases hb0 : bits = 0
      · have hb1 : ¬ (0 < bits) := by omega
        go_wp2
        go_ret
        exact ⟨A, n, c, xs, rfl, HW.out.own, HW.out.ew.done hb0, HW.out.below⟩
      · have hb1 : 0 < bits := by omega
        have hlast := last_new wt' bits hb1 hb8 hwt
        have hpk := (HW.out.ew.last hb8).resolve_right (by omega)
        have hlt : (wt' % 2 ^ bits) * 2 ^ (8 - bits) + (2 ^ (8 - bits) - 1) < 256 := by
          have h256 : 2 ^ bits * 2 ^ (8 - bits) = 256 := by rw [← Nat.pow_add, show bits + (8 - bits) = 8 by omega]
          have h1 : wt' % 2 ^ bits < 2 ^ bits := Nat.mod_lt _ (Nat.two_pow_pos _)
          have h2 : (wt' % 2 ^ bits + 1) * 2 ^ (8 - bits) ≤ 2 ^ bits * 2 ^ (8 - bits) := Nat.mul_le_mul_right _ h1
          have hp := Nat.two_pow_pos (8 - bits)
          rw [h256, Nat.add_mul] at h2
          omega
        obtain ⟨y, hy⟩ : ∃ y : Nat, (wt' % 2 ^ bits) * 2 ^ (8 - bits) + (2 ^ (8 - bits) - 1) = y := ⟨_, rfl⟩
        rw [hy] at hlast hpk hlt
        have Hpk := Lib.hid hpk
        have hown := own_alloc HW.out.own (.cells #[.int .u8 (y : Int)] 5)
        have Hown := Lib.hid hown
        clear hown hb0 hy hpk
        go_wp2_with (first
          | (at_builtin
             refine wpList_append_rd rfl (.tmp 56) (.tmp 63) 23 rfl E31 (.slice A n c) n (xs.map BV) rfl Hown.out (some ⟨wr.heap.size, 0, none⟩) 1 1 _ rfl (rd_lit1 wr 5 _) (one_lit1 _ _) (by omega) (by unfold maxLen; omega) (by have := HW.out.below.size; simp; omega) ?_
             intro A' c' w4 ho hf ho2
             have Ho := Lib.hid ho
             have Hf := Lib.hid hf
             clear ho hf ho2))
        go_ret
        have hy : Value.int .u8 (y : Int) = BV (UInt8.ofNat y) := by
          rw [BV, ofNat_toNat _ hlt]
        have ho := Ho.out
        rw [hy] at ho
        have hf' := ((Fr.refl _ _).alloc _).trans Hf.out (fun i _ h => h)
        exact ⟨A', n + 1, c', _, rfl, by simpa using ho, Hpk.out, HW.out.below.trans (hf'.below HW.out.below.size (fun i _ e => (HW.out.own.lt i e.symm).1))⟩
end Go.Proofs.YtdmheinepkeglaaDoor
