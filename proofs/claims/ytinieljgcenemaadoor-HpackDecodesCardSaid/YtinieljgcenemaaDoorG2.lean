/- The contract of huffman's Encode · The contracts of huffman's walk: step, place, isPadding · The contract of huffman's Decode · Encode and Size with their numbers of octets said; a literal's octets · Decode of what Encode tells; sizes · What ends a law's walk, and what begins one · Texts of header blocks in octets: plain mathematics · Tables of fields: plain mathematics; nothing of the program · Header blocks (hpack): plain mathematics: what a field and a list of fields are written as, what octets are read as, and that what was written is read as it was. Nothing of the program · Header blocks (hpack): plain mathematics: lists of fields, updates, whole blocks. Nothing of the program · Header blocks (hpack): plain mathematics: what was just written (E1), less room (E2), how long what is read may be. Nothing of the program · Header blocks (hpack): plain mathematics: what a block that was read leaves; what was told as a list of calls. Nothing of the program -/
import Derived.Test.YtinieljgcenemaaDoorG1
import Derived.Deep.DeepCutAuto
namespace Go.Proofs.YtinieljgcenemaaDoor
open Go.RowKit Go.Own Go.Huf
set_option linter.unusedVariables false

set_option maxRecDepth 100000 in
theorem E31 : Elt Tryd.prog 29 5 (.int .u8 0) 1 1 := ⟨Tryd.underlying29, by
  refine ⟨_, rfl, ?_, ?_, ?_⟩ <;> kernel_rfl, rfl, by decide⟩
set_option maxRecDepth 100000 in
theorem run_make_cap {L C : Nat} (hC : (L + 7) / 8 = C) (hb : L ≤ 503316480) (w : World) : (Instr.makeSlice 29 (.int .i64 0) (.int .i64 (((L : Int) + 7) / 8))).run Tryd.prog w = .ok (.slice (some ⟨w.heap.size, 0, none⟩) 0 C) (w.alloc (.cells (zeros (.int .u8 0) C).toArray 5)) := by
  have e : ((L : Int) + 7) / 8 = (C : Int) := by omega
  obtain ⟨ht, ⟨i, hi, hz0, hsize, hby⟩, hzs, hsz⟩ := E31
  have hr := run_make (P := Tryd.prog) w 29 5 i (.int .u8 0) ht hi hz0 .i64 .i64 0 C (by omega) (by omega) (by rw [hby]; omega) (by omega)
  simp only [Int.toNat_natCast, hsize, Nat.mul_one, Int.toNat_zero] at hr
  rw [e, hr]
  congr 3
  apply Array.toList_inj.1
  rw [show (Value.int IntKind.u8 0).cells = #[.int .u8 0] from rfl, toList_madeCells_one]
  rfl
/-- the state of the writer: xs are out, r waits (the last bits of wt) -/
structure EW (bs : List Bool) (xs : List UInt8) (wt bits : Nat) : Prop where
  r : ∃ r : List Bool, bits8 xs ++ r = bs ∧ r.length = bits ∧ wt % 2 ^ bits = numB r
  lt : wt < 18446744073709551616

theorem numB_append (a : List Bool) : ∀ b, numB (a ++ b) = numB a * 2 ^ b.length + numB b := by
  refine snoc_ind (by simp [numB]) (fun l x ih => ?_)
  rw [← List.append_assoc, numB_snoc, ih, numB_snoc, List.length_append, List.length_singleton, Nat.pow_succ, Nat.mul_add]
  have : numB a * (2 ^ l.length * 2) = 2 * (numB a * 2 ^ l.length) := by rw [← Nat.mul_assoc, Nat.mul_comm]
  omega
theorem mul_mod_pow (a m b : Nat) : (a * 2 ^ m) % 2 ^ (b + m) = (a % 2 ^ b) * 2 ^ m := by
  rw [Nat.pow_add, Nat.mul_mod_mul_right]
theorem or_new (wt v m : Nat) (hm : m ≤ 30) (hv : v < 2 ^ m) (hwt : wt < 18446744073709551616) :
    Go.bits BinOp.or IntKind.u64 (IntKind.u64.wrap ((wt : Int) * 2 ^ m)) (v : Int) = ((wt * 2 ^ m % 18446744073709551616 + v : Nat) : Int) ∧ wt * 2 ^ m % 18446744073709551616 + v < 18446744073709551616 := by
  have e1 : IntKind.u64.wrap ((wt : Int) * 2 ^ m) = ((wt * 2 ^ m % 18446744073709551616 : Nat) : Int) := by
    rw [IntKind.wrap_u64]
    have : ((wt : Int) * 2 ^ m) = ((wt * 2 ^ m : Nat) : Int) := by simp
    rw [this]; omega
  have h64 : (18446744073709551616 : Nat) = 2 ^ (64 - m + m) := by rw [show 64 - m + m = 64 by omega]
  have e2 : wt * 2 ^ m % 18446744073709551616 = (wt % 2 ^ (64 - m)) * 2 ^ m := by rw [h64, mul_mod_pow]
  have hlt : (wt % 2 ^ (64 - m)) * 2 ^ m + v < 18446744073709551616 := by
    have h1 : wt % 2 ^ (64 - m) < 2 ^ (64 - m) := Nat.mod_lt _ (Nat.two_pow_pos _)
    have h2 : (wt % 2 ^ (64 - m) + 1) * 2 ^ m ≤ 2 ^ (64 - m) * 2 ^ m := Nat.mul_le_mul_right _ h1
    rw [← Nat.pow_add, show 64 - m + m = 64 by omega, Nat.add_mul] at h2
    omega
  have h30 : (2 : Nat) ^ m ≤ 2 ^ 30 := Nat.pow_le_pow_right (by omega) hm
  refine ⟨?_, by rw [e2]; exact hlt⟩
  rw [e1, u64_or_nat _ _ (Nat.mod_lt _ (by omega)) (by omega), e2, Nat.mul_comm, ← Nat.two_pow_add_eq_or_of_lt hv]
theorem EW.push {bs : List Bool} {xs : List UInt8} {wt bits m v : Nat} (h : EW bs xs wt bits) (hb : bits ≤ 30) (hm : m ≤ 30) (hv : v < 2 ^ m) : EW (bs ++ bitsN m v) xs (wt * 2 ^ m % 18446744073709551616 + v) (bits + m) := by
  obtain ⟨⟨r, h1, h2, h3⟩, h4⟩ := h
  refine ⟨⟨r ++ bitsN m v, by rw [← h1, List.append_assoc], by simp [h2, bitsN_length], ?_⟩, (or_new wt v m hm hv h4).2⟩
  rw [numB_append, bitsN_length, numB_bitsN, Nat.mod_eq_of_lt hv, ← h3]
  have e : wt * 2 ^ m % 18446744073709551616 % 2 ^ (bits + m) = wt % 2 ^ bits * 2 ^ m := by
    rw [← mul_mod_pow, show (18446744073709551616 : Nat) = 2 ^ (bits + m) * 2 ^ (64 - (bits + m)) by rw [← Nat.pow_add, show bits + m + (64 - (bits + m)) = 64 by omega], Nat.mod_mul_right_mod]
  have hlt : wt % 2 ^ bits * 2 ^ m + v < 2 ^ (bits + m) := by
    have h1 : wt % 2 ^ bits < 2 ^ bits := Nat.mod_lt _ (Nat.two_pow_pos _)
    have h2 : (wt % 2 ^ bits + 1) * 2 ^ m ≤ 2 ^ bits * 2 ^ m := Nat.mul_le_mul_right _ h1
    rw [← Nat.pow_add, Nat.add_mul] at h2
    omega
  rw [Nat.add_mod, e, Nat.mod_eq_of_lt (show v < 2 ^ (bits + m) by omega), Nat.mod_eq_of_lt hlt]
theorem EW.emit {bs : List Bool} {xs : List UInt8} {wt bits : Nat} (h : EW bs xs wt bits) (hb : 8 ≤ bits) : EW bs (xs ++ [UInt8.ofNat (wt / 2 ^ (bits - 8) % 256)]) wt (bits - 8) := by
  obtain ⟨⟨r, h1, h2, h3⟩, h4⟩ := h
  have hs : numB r = numB (r.take 8) * 2 ^ (bits - 8) + numB (r.drop 8) := by
    have := numB_append (r.take 8) (r.drop 8)
    rwa [List.take_append_drop, List.length_drop, h2] at this
  have ht := numB_lt (r.take 8)
  have hd := numB_lt (r.drop 8)
  rw [List.length_take, h2, Nat.min_eq_left hb] at ht
  rw [List.length_drop, h2] at hd
  have hp : 2 ^ bits = 2 ^ (bits - 8) * 256 := by rw [show (256 : Nat) = 2 ^ 8 from rfl, ← Nat.pow_add]; congr 1; omega
  rw [hs, hp, Nat.mod_mul] at h3
  have hpos := Nat.two_pow_pos (bits - 8)
  have hm : wt % 2 ^ (bits - 8) < 2 ^ (bits - 8) := Nat.mod_lt _ hpos
  have e1 : wt % 2 ^ (bits - 8) = numB (r.drop 8) := by
    have := congrArg (· % 2 ^ (bits - 8)) h3
    simp only [Nat.add_mul_mod_self_left, Nat.mod_mod] at this
    rwa [Nat.add_comm, Nat.add_mul_mod_self_right, Nat.mod_eq_of_lt hd] at this
  have e2 : wt / 2 ^ (bits - 8) % 256 = numB (r.take 8) := by
    rw [e1, Nat.mul_comm, Nat.add_comm] at h3
    exact Nat.eq_of_mul_eq_mul_right hpos (Nat.add_right_cancel h3)
  refine ⟨⟨r.drop 8, ?_, by simp [h2], e1⟩, h4⟩
  rw [bits8_append, e2, ← h1, List.append_assoc]
  congr 1
  rw [bits8_cons, show bits8 [] = [] from rfl, List.append_nil, ofNat_toNat _ (by omega)]
  have := bitsN_numB (r.take 8)
  rw [List.length_take, h2, Nat.min_eq_left hb] at this
  rw [this, List.take_append_drop]
/-- the last octet -/
theorem EW.last {bs : List Bool} {xs : List UInt8} {wt bits : Nat} (h : EW bs xs wt bits) (hb : bits < 8) : Pk bs (xs ++ [UInt8.ofNat ((wt % 2 ^ bits) * 2 ^ (8 - bits) + (2 ^ (8 - bits) - 1))]) ∨ bits = 0 := by
  rcases Nat.eq_zero_or_pos bits with h0 | h0
  · exact .inr h0
  obtain ⟨⟨r, h1, h2, h3⟩, h4⟩ := h
  refine .inl ⟨8 - bits, by omega, ?_⟩
  have hn : numB (r ++ List.replicate (8 - bits) true) = (wt % 2 ^ bits) * 2 ^ (8 - bits) + (2 ^ (8 - bits) - 1) := by
    rw [numB_append, List.length_replicate, h3]
    congr 1
    have := (numB_ones (List.replicate (8 - bits) true)).2 (fun b hb => (List.mem_replicate.1 hb).2)
    rw [List.length_replicate] at this
    omega
  have hl : (r ++ List.replicate (8 - bits) true).length = 8 := by simp [h2]; omega
  have hlt := numB_lt (r ++ List.replicate (8 - bits) true)
  have hb := bitsN_numB (r ++ List.replicate (8 - bits) true)
  rw [hl, hn] at hb
  rw [hl, hn] at hlt
  rw [bits8_append, bits8_cons, show bits8 [] = [] from rfl, List.append_nil, ofNat_toNat _ (by omega), hb, ← List.append_assoc, h1]
theorem EW.done {bs : List Bool} {xs : List UInt8} {wt bits : Nat} (h : EW bs xs wt bits) (hb : bits = 0) : Pk bs xs := by
  obtain ⟨⟨r, h1, h2, h3⟩, h4⟩ := h
  obtain rfl := List.eq_nil_of_length_eq_zero (h2.trans hb)
  exact ⟨0, by omega, by simpa using h1⟩

theorem last_new (wt bits : Nat) (h0 : 0 < bits) (hb : bits < 8) (hwt : wt < 18446744073709551616) :
    Go.bits BinOp.or IntKind.u64 (IntKind.u64.wrap ((wt : Int) * 2 ^ (8 - bits))) (IntKind.u64.wrap (IntKind.u64.wrap (2 ^ (8 - bits)) - 1)) % 256 = (((wt % 2 ^ bits) * 2 ^ (8 - bits) + (2 ^ (8 - bits) - 1) : Nat) : Int) := by
  have h256 : 2 ^ bits * 2 ^ (8 - bits) = 256 := by rw [← Nat.pow_add, show bits + (8 - bits) = 8 by omega]
  have hp := Nat.two_pow_pos (8 - bits)
  have hle : 2 ^ (8 - bits) ≤ 2 ^ 8 := Nat.pow_le_pow_right (by omega) (by omega)
  have e1 : IntKind.u64.wrap (IntKind.u64.wrap (2 ^ (8 - bits)) - 1) = ((2 ^ (8 - bits) - 1 : Nat) : Int) := by
    have : ((2 : Int) ^ (8 - bits)) = ((2 ^ (8 - bits) : Nat) : Int) := by simp
    rw [this, IntKind.wrap_u64, IntKind.wrap_u64]; omega
  rw [e1, (or_new wt _ (8 - bits) (by omega) (by omega) hwt).1]
  have hm := mul_mod_pow wt (8 - bits) bits
  rw [show bits + (8 - bits) = 8 by omega] at hm
  have h1 : wt % 2 ^ bits < 2 ^ bits := Nat.mod_lt _ (Nat.two_pow_pos _)
  have h2 : (wt % 2 ^ bits + 1) * 2 ^ (8 - bits) ≤ 2 ^ bits * 2 ^ (8 - bits) := Nat.mul_le_mul_right _ h1
  rw [h256, Nat.add_mul] at h2
  omega
theorem own_alloc {w : World} {base : Nat} {e : TypeId} {size : Nat} {v : Value} {n : Nat} {xs : List Value} (h : w.ownsRow base e size v n xs) (o : Obj) : (w.alloc o).ownsRow base e size v n xs :=
  own_fr (S := fun _ => False) h ((Fr.refl _ _).alloc o) (fun _ _ h => h)
theorem own_base {w : World} {b B : Nat} {e : TypeId} {size : Nat} {v : Value} {n : Nat} {xs : List Value} (h : w.ownsRow b e size v n xs) (hB : ∀ g, v.ownBlock = some g → B ≤ g) : w.ownsRow B e size v n xs := by
  refine ⟨h.1, ?_⟩
  rcases h.2 with h' | ⟨g, cap, cur, rfl, hb, rest⟩
  · exact .inl h'
  · exact .inr ⟨g, cap, cur, rfl, hB g rfl, rest⟩
theorem rd_lit1 (w : World) (t : TypeId) (v : Value) : Rd (w.alloc (.cells #[v] t)) 1 (some ⟨w.heap.size, 0, none⟩) 1 [v] :=
  Rd.of_blk (n := 1) (size := 1) (Blk.new w t [v]) (by simp)
theorem one_lit1 (k : IntKind) (z : Int) : ∀ u ∈ [Value.int k z], u.oneCell' = true := by
  intro u hu
  simp at hu
  subst hu
  rfl

/-- the world of Encode -/
structure EN (w : World) (g : Nat) (bs : List Bool) (A : Option Addr) (n c : Nat) (xs : List UInt8) (wt bits : Nat) (w' : World) : Prop where
  below : Below w.heap.size w w'
  blk : Blk w' g 137 codeCells
  own : w'.ownsRow w.heap.size 5 1 (.slice A n c) n (xs.map BV)
  ew : EW bs xs wt bits
theorem EN.len {w : World} {g : Nat} {bs : List Bool} {A : Option Addr} {n c : Nat} {xs : List UInt8} {wt bits : Nat} {w' : World} (h : EN w g bs A n c xs wt bits w') : 8 * n + bits = bs.length := by
  obtain ⟨r, h1, h2, _⟩ := h.ew.r
  have := congrArg List.length h1
  rw [List.length_append, bits8_length, h2] at this
  have h3 := h.own.1
  simp at h3
  omega
theorem EN.alloc {w : World} {g : Nat} {bs : List Bool} {A : Option Addr} {n c : Nat} {xs : List UInt8} {wt bits : Nat} {w' : World} (h : EN w g bs A n c xs wt bits w') (o : Obj) (q : Nat) : EN w g bs A n c xs wt bits ((w'.alloc o).drewN q) :=
  ⟨below_drewN (h.below.alloc h.below.size o) q, (h.blk.alloc o).drewN q, own_alloc h.own o, h.ew⟩
/-- behind an octet more -/
theorem EN.next {w : World} {g : Nat} {bs : List Bool} {A A' : Option Addr} {n c c' : Nat} {xs : List UInt8} {wt bits wt3 bits3 : Nat} {w' w4 : World} {y : UInt8} {o : Obj} (h : EN w g bs A n c xs wt bits w')
    (ho : w4.ownsRow w.heap.size 5 1 (.slice A' (n + 1) c') (n + 1) (xs.map BV ++ [BV y])) (hf : Fr (fun i => some i = (Value.slice A n c).ownBlock) (w'.alloc o) w4) (he : EW bs (xs ++ [y]) wt3 bits3) : EN w g bs A' (n + 1) c' (xs ++ [y]) wt3 bits3 w4 := by
  have hne := own_ne_blk h.own h.blk (by decide)
  have hf' : Fr (fun i => some i = (Value.slice A n c).ownBlock) w' w4 := ((Fr.refl _ _).alloc o).trans hf (fun i _ h => h)
  exact ⟨h.below.trans (hf'.below h.below.size (fun i _ e => (h.own.lt i e.symm).1)), h.blk.fr hf' (fun e => hne e.symm), by simpa using ho, he⟩

set_option maxRecDepth 100000 in
set_option maxHeartbeats 2000000 in
theorem Encode_any (s : ByteArray) (w : World) (hC : Cnt w) (hs : s.size ≤ 16777216) :
    Calls Tryd.prog 84 #[.string s] w fun e w' => ∃ A n c xs, e = .returned (.slice A n c) ∧ w'.ownsRow w.heap.size 5 1 (.slice A n c) n (xs.map BV) ∧ Pk (enc s.data.toList) xs ∧ Below w.heap.size w w' := by
  have hz := zero_codes.1
  have hle := enc_le s.data.toList
  have hsl : s.data.toList.length = s.size := by simp
  rw [hsl] at hle
  obtain ⟨L, hL⟩ : ∃ L, (enc s.data.toList).length = L := ⟨_, rfl⟩
  rw [hL] at hle
  have HL := Lib.hid hL

  clear hL hsl
  obtain ⟨C, hCC⟩ : ∃ C, (L + 7) / 8 = C := ⟨_, rfl⟩
  have hmk := run_make_cap hCC (by omega)
  have HCC := Lib.hid hCC
  clear hCC
  go_enter Tryd.func84, Tryd.ntmps84
  go_wp2_with (first
    | (go_at_call 98; (with_reducible refine (codes_any _ hC).mono ?_); rintro e w1 ⟨rfl, hb1⟩; have Hb1 := Lib.hid hb1; clear hb1)
    | (refine wpList_store_codes rfl _ _ rfl _ rfl (outP 0) codeL (outP_length 0) codeL_length rfl (Blk.new _ _ _) ?_; intro w2 hb2 hf2; have HB2 := Lib.hid hb2; have Hf2 := Lib.hid hf2; clear hb2 hf2)
    | (go_at_call 99; (with_reducible refine (size_any s _ _ HB2.out (by omega)).mono ?_); rintro e w' ⟨rfl, q, rfl⟩; rw [HL.out]))
  clear hz hmk
  go_loopg [17, 5, 6, 4] s.size (fun gh i wt bt o w' => ∃ (k : Nat) (A : Option Addr) (n c : Nat) (xs : List UInt8) (wt' bits : Nat), gh + k = s.size ∧ i = .int .i64 k ∧ wt = .int .u64 wt' ∧ bt = .int .i64 bits ∧ o = .slice A n c ∧ bits < 8 ∧
    EN w w1.heap.size (enc (s.data.toList.take k)) A n c xs wt' bits w')
  case atStart =>
    refine ⟨0, _, _, _, [], 0, 0, by omega, rfl, rfl, rfl, rfl, by omega, ?_⟩
    have s1 := Hb1.out.size
    have hb2 : Below w.heap.size w w2 := Hb1.out.trans (((Below.refl _ _).alloc s1 _).trans (Hf2.out.below (by simp; omega) (fun i _ e => by omega)))
    have s2 := hb2.size
    have hB : Blk ((w2.drewN q).alloc (.cells (zeros (.int .u8 0) C).toArray 5)) w2.heap.size 5 (zeros (.int .u8 0) C) := Blk.new (w2.drewN q) _ _
    have how := own_of_blk (size := 1) (n := 0) (cap := C) hB (by simp [zeros_length]) (by omega) (by have := HCC.out; unfold maxLen; omega)
    refine ⟨below_drewN hb2 q |>.alloc (by simpa using s2) _, ((HB2.out.drewN q).alloc _), ?_, ⟨[], rfl, rfl, by simp [numB]⟩, by omega⟩
    have h := own_base (B := w.heap.size) how (fun g hg => by simp [Value.ownBlock] at hg; omega)
    simpa using h
  case round =>
    obtain ⟨k, A, n, c, xs, wt', bits, hk, rfl, rfl, rfl, rfl, hb8, hw⟩ := hrel
    have HW := Lib.hid hw
    have hlen := hw.len
    have hle2 := enc_le (s.data.toList.take k)
    have hkl : (s.data.toList.take k).length ≤ k := List.length_take_le _ _
    have hwt := hw.ew.lt
    have hnb : n ≤ 4 * s.size := by omega
    clear hw hlen hle2 hkl
    cases gk with
    | succ g1 =>
      have hlt : k < s.size := by omega
      obtain ⟨x, hx⟩ : ∃ x : UInt8, s[k] = x := ⟨_, rfl⟩
      have he := enc_take s k hlt
      rw [hx] at he
      have He := Lib.hid he
      have hcd := code_bd x
      have hc0 := (blk_code HW.out.blk x).1
      have hc1 := (blk_code HW.out.blk x).2
      obtain ⟨m, hm⟩ : ∃ m, (code x.toNat).2 = m := ⟨_, rfl⟩
      obtain ⟨v, hv⟩ : ∃ v, (code x.toNat).1 = v := ⟨_, rfl⟩
      rw [hm, hv] at hcd
      rw [hm] at hc1
      rw [hv] at hc0
      have Hv := Lib.hid hv
      have Hm := Lib.hid hm
      have h30 : (2 : Nat) ^ m ≤ 2 ^ 30 := Nat.pow_le_pow_right (by omega) hcd.2.1
      have hv30 : v < 1073741824 := by omega
      have hm1 := hcd.1
      have hm2 := hcd.2.1
      have Hcd := Lib.hid hcd
      have hxl := x.toNat_lt
      have hx1 : (0 : Int) ≤ (x.toNat : Int) := by omega
      have hx2 : (x.toNat : Int) < 257 := by omega
      obtain ⟨wt2, hw2⟩ : ∃ wt2, wt' * 2 ^ m % 18446744073709551616 + v = wt2 := ⟨_, rfl⟩
      have hor := or_new wt' v m hm2 hcd.2.2 hwt
      rw [hw2] at hor
      have hw2lt := hor.2
      have hor := hor.1
      have Hw2 := Lib.hid hw2
      have hm0 : (0 : Int) ≤ (m : Int) := by omega
      clear he hm hv hcd h30 hw2
      go_wp2_with fail
      go_quiet (fail)
      clear hor hwt
      go_wp2
      go_loopg [6, 4] ((bits + m) / 8) (fun gh bt o w' => ∃ (b2 : Nat) (A2 : Option Addr) (n2 c2 : Nat) (xs2 : List UInt8), b2 / 8 = gh ∧ b2 ≤ 37 ∧ bt = .int .i64 b2 ∧ o = .slice A2 n2 c2 ∧ n2 ≤ n + 5 - gh ∧
        EN w w1.heap.size (enc (s.data.toList.take (k + 1))) A2 n2 c2 xs2 wt2 b2 w')
      case atStart =>
        refine ⟨bits + m, A, n, c, xs, rfl, by omega, by go_num, rfl, by omega, ?_⟩
        have h := HW.out.alloc (.cells #[.int .u32 v, .int .i64 m] 136) nq
        have h2 := HW.out.ew.push (m := m) (v := v) (by omega) hm2 Hcd.out.2.2
        rw [Hw2.out] at h2
        rw [He.out, cbits, Hm.out, Hv.out]
        exact ⟨h.below, h.blk, h.own, h2⟩
      case round =>
        obtain ⟨b2, A2, n2, c2, xs2, hgb, hb37, rfl, rfl, hn2, hw2⟩ := hrel
        have HW2 := Lib.hid hw2
        clear hw2
        cases gk with
        | succ g2 =>
          have hb28 : 8 ≤ b2 := by omega
          have hown := own_alloc HW2.out.own (.cells #[.int .u8 ((wt2 : Int) / 2 ^ (b2 - 8) % 256)] 5)
          have Hown := Lib.hid hown
          clear hown
          go_wp2_with (first
            | (at_builtin
               refine wpList_append_rd rfl (.tmp 41) (.tmp 46) 29 rfl E31 (.slice A2 n2 c2) n2 (xs2.map BV) rfl Hown.out (some ⟨wr.heap.size, 0, none⟩) 1 1 _ rfl (rd_lit1 wr 5 _) (one_lit1 _ _) (by omega) (by unfold maxLen; omega) (by have := HW2.out.below.size; simp; omega) ?_
               intro A' c' w4 ho hf ho2
               have Ho := Lib.hid ho
               have Hf := Lib.hid hf
               clear ho hf ho2))
          go_roundg g2
          case measure => omega
          case rel =>
            have hy : Value.int .u8 ((wt2 : Int) / 2 ^ (b2 - 8) % 256) = BV (UInt8.ofNat (wt2 / 2 ^ (b2 - 8) % 256)) := by
              rw [BV, ofNat_toNat _ (by omega)]; simp
            have ho := Ho.out
            rw [hy] at ho
            exact ⟨b2 - 8, A', n2 + 1, c', _, by omega, by omega, by go_num, rfl, by omega, HW2.out.next ho Hf.out (HW2.out.ew.emit hb28)⟩
        | zero =>
          have hb28 : b2 < 8 := by omega
          go_wp2
          go_roundg g1
          case measure => omega
          case rel => exact ⟨k + 1, A2, n2, c2, xs2, wt2, b2, by omega, by go_num, rfl, rfl, rfl, hb28, HW2.out⟩
    | zero =>
      obtain rfl : k = s.size := by omega
      have HL2 : Hid (s.data.toList.take s.size = s.data.toList) := List.take_of_length_le (by simp)
      rw [HL2.out] at HW
      by_cases hb0 : bits = 0
      · have hb1 : ¬ (0 < bits) := by omega
        go_wp2
        go_ret
        exact ⟨A, n, c, xs, rfl, HW.out.own, HW.out.ew.done hb0, HW.out.below⟩
      · have hb1 : 0 < bits := by omega
        have hlast := last_new wt' bits hb1 hb8 hwt
        have hpk := (HW.out.ew.last hb8).resolve_right (by omega)
        have hlt : (wt' % 2 ^ bits) * 2 ^ (8 - bits) + (2 ^ (8 - bits) - 1) < 256 := by
          have h256 : 2 ^ bits * 2 ^ (8 - bits) = 256 := by rw [← Nat.pow_add, show bits + (8 - bits) = 8 by omega]
          have h1 : wt' % 2 ^ bits < 2 ^ bits := Nat.mod_lt _ (Nat.two_pow_pos _)
          have h2 : (wt' % 2 ^ bits + 1) * 2 ^ (8 - bits) ≤ 2 ^ bits * 2 ^ (8 - bits) := Nat.mul_le_mul_right _ h1
          have hp := Nat.two_pow_pos (8 - bits)
          rw [h256, Nat.add_mul] at h2
          omega
        obtain ⟨y, hy⟩ : ∃ y : Nat, (wt' % 2 ^ bits) * 2 ^ (8 - bits) + (2 ^ (8 - bits) - 1) = y := ⟨_, rfl⟩
        rw [hy] at hlast hpk hlt
        have Hpk := Lib.hid hpk
        have hown := own_alloc HW.out.own (.cells #[.int .u8 (y : Int)] 5)
        have Hown := Lib.hid hown
        clear hown hb0 hy hpk
        go_wp2_with (first
          | (at_builtin
             refine wpList_append_rd rfl (.tmp 56) (.tmp 63) 29 rfl E31 (.slice A n c) n (xs.map BV) rfl Hown.out (some ⟨wr.heap.size, 0, none⟩) 1 1 _ rfl (rd_lit1 wr 5 _) (one_lit1 _ _) (by omega) (by unfold maxLen; omega) (by have := HW.out.below.size; simp; omega) ?_
             intro A' c' w4 ho hf ho2
             have Ho := Lib.hid ho
             have Hf := Lib.hid hf
             clear ho hf ho2))
        go_ret
        have hy : Value.int .u8 (y : Int) = BV (UInt8.ofNat y) := by
          rw [BV, ofNat_toNat _ hlt]
        have ho := Ho.out
        rw [hy] at ho
        have hf' := ((Fr.refl _ _).alloc _).trans Hf.out (fun i _ h => h)
        exact ⟨A', n + 1, c', _, rfl, by simpa using ho, Hpk.out, HW.out.below.trans (hf'.below HW.out.below.size (fun i _ e => (HW.out.own.lt i e.symm).1))⟩
end Go.Proofs.YtinieljgcenemaaDoor
namespace Go.Proofs.YtinieljgcenemaaDoor
open Go.RowKit Go.Own Go.Huf
set_option linter.unusedVariables false

/-- a walk that has read n bits, the number v -/
def WAt (w : World) (p n v : Nat) : Prop := Blk w p 168 [.int .i64 (n : Int), .int .u32 (v : Int), .int .u32 ((frst n : Nat) : Int), .int .i64 ((strt n : Nat) : Int)]
/-- v of n bits is a code, or lies ahead of it -/
def isC (n v : Nat) : Bool := decide (v < frst n + cnt n)
theorem frst_bd : ∀ n, n < 31 → frst n ≤ 1073741824 ∧ frst n + cnt n ≤ 1073741824 ∧ strt n ≤ 257 ∧ cnt n ≤ 32 ∧ 2 ^ n ≤ 1073741824 := by decide +kernel
theorem or_bit (v : Nat) (b : Bool) (hv : v < 1073741824) : Go.bits BinOp.or IntKind.u32 ((v : Int) * 2) (b.toNat : Int) = ((2 * v + b.toNat : Nat) : Int) := by
  have e : ((v : Int) * 2) = ((2 * v : Nat) : Int) := by omega
  have hb : b.toNat ≤ 1 := by cases b <;> simp
  rw [e, u32_or_nat _ _ (by omega) (by omega)]
  have := Nat.two_pow_add_eq_or_of_lt (i := 1) (b := b.toNat) (by omega) v
  simp only [Nat.pow_one] at this
  rw [← this]

set_option maxRecDepth 100000 in
set_option maxHeartbeats 2000000 in
theorem step_any (p n v : Nat) (b : Bool) (r : Bool) (w : World) (hw : WAt w p n v) (hs : WS n v) (hC : Cnt w) (hp : p ≠ 0) (hr : isC (n + 1) (2 * v + b.toNat) = r) :
    Calls Tryd.prog 120 #[.pointer (some ⟨p, 0, none⟩), .int .u8 ((b.toNat : Nat) : Int)] w fun e w' => e = .returned (.bool r) ∧ WAt w' p (n + 1) (2 * v + b.toNat) ∧ Fr (· = p) w w' := by
  have hn := hs.1
  have hf := frst_bd n (by omega)
  have hf1 := frst_bd (n + 1) (by omega)
  have hle := hs.le b
  have hlt := hs.lt b
  have hvlt := hs.2.2
  have hb1 : b.toNat ≤ 1 := by cases b <;> simp
  have c0 := hw.cell 0
  have c1 := hw.cell 1
  have c2 := hw.cell 2
  have c3 := hw.cell 3
  simp only [List.getElem?_cons_zero, List.getElem?_cons_succ] at c0 c1 c2 c3
  have f0 := hw.frozen 0
  have f1 := hw.frozen 1
  have f2 := hw.frozen 2
  have f3 := hw.frozen 3
  have k0 := hC n (by omega)
  have k1 := hC (n + 1) (by omega)
  have hor := or_bit v b (by omega)
  have e2 : frst (n + 1) = 2 * (frst n + cnt n) := rfl
  have e3 : strt (n + 1) = strt n + cnt n := rfl
  have hp' : 0 ≠ p := fun e => hp e.symm
  have Hw := Lib.hid hw
  have Hs := Lib.hid hs
  have Hr := Lib.hid hr
  have He2 := Lib.hid e2
  have He3 := Lib.hid e3
  clear hw hs hr hC e2 e3
  go_enter Tryd.func120, Tryd.ntmps120
  go_wp2
  have g1 : (0 : Int) ≤ (n : Int) + 1 := by omega
  have g2 : (n : Int) + 1 < 31 := by omega
  have g3 : ((n : Int) + 1).toNat = n + 1 := by omega
  go_quiet (fail)
  go_wp2
  go_ret
  refine ⟨ret_bool ?_, ?_, ?_⟩
  · rw [← Hr.out, isC]
    have h2 := He2.out
    congr 1
    apply propext
    constructor <;> intro h <;> omega
  · have h := (((Hw.out.set_ 3 (.int .i64 ((strt n : Int) + cnt n))).set_ 2 (.int .u32 (((frst n : Int) + cnt n) * 2))).set_ 1 (.int .u32 (2 * (v : Int) + b.toNat))).set_ 0 (.int .i64 ((n : Int) + 1))
    have e : WAt (((((w.setCell ⟨p, 3, none⟩ (.int .i64 ((strt n : Int) + cnt n))).setCell ⟨p, 2, none⟩ (.int .u32 (((frst n : Int) + cnt n) * 2))).setCell ⟨p, 1, none⟩ (.int .u32 (2 * (v : Int) + b.toNat))).setCell ⟨p, 0, none⟩ (.int .i64 ((n : Int) + 1)))) p (n + 1) (2 * v + b.toNat) := by
      unfold WAt
      rw [He2.out, He3.out]
      have e1 : ((2 * (frst n + cnt n) : Nat) : Int) = ((frst n : Int) + cnt n) * 2 := by omega
      rw [e1]
      simpa using h
    exact e.drewN nq
  · exact (((((Fr.refl (· = p) w).setCell (p := ⟨p, 3, none⟩) (.inl rfl) _).setCell (p := ⟨p, 2, none⟩) (.inl rfl) _).setCell (p := ⟨p, 1, none⟩) (.inl rfl) _).setCell (p := ⟨p, 0, none⟩) (.inl rfl) _).drewN nq

set_option maxRecDepth 100000 in
set_option maxHeartbeats 2000000 in
theorem place_any (p n v q : Nat) (w : World) (hw : WAt w p n v) (hn : n < 31) (h1 : frst n ≤ v) (h2 : v < frst n + cnt n) (hq : strt n + (v - frst n) = q) :
    Calls Tryd.prog 121 #[.pointer (some ⟨p, 0, none⟩)] w fun e w' => e = .returned (.int .i64 (q : Int)) ∧ ∃ k, w' = w.drewN k := by
  have hf := frst_bd n (by omega)
  have c1 := hw.cell 1
  have c2 := hw.cell 2
  have c3 := hw.cell 3
  simp only [List.getElem?_cons_zero, List.getElem?_cons_succ] at c1 c2 c3
  have hs1 : (frst n : Int) ≤ v := by omega
  have hvb : (v : Int) ≤ 4294967295 := by omega
  have Hw := Lib.hid hw
  have Hq := Lib.hid hq
  clear hw hq
  go_enter Tryd.func121, Tryd.ntmps121
  go_wp2
  go_quiet (fail)
  go_wp2
  go_ret
  exact ⟨ret_int (by have := Hq.out; omega), nq, rfl⟩
set_option maxRecDepth 100000 in
set_option maxHeartbeats 2000000 in
theorem pad_any (p n v : Nat) (r : Bool) (w : World) (hw : WAt w p n v) (hn : n < 31) (hv : v < 4294967296) (hr : decide (n < 8 ∧ v + 1 = 2 ^ n) = r) :
    Calls Tryd.prog 122 #[.pointer (some ⟨p, 0, none⟩)] w fun e w' => e = .returned (.bool r) ∧ ∃ k, w' = w.drewN k := by
  have hf := frst_bd n (by omega)
  have c0 := hw.cell 0
  have c1 := hw.cell 1
  simp only [List.getElem?_cons_zero, List.getElem?_cons_succ] at c0 c1
  have Hw := Lib.hid hw
  have Hr := Lib.hid hr
  clear hw hr
  have hn0 : (0 : Int) ≤ (n : Int) := by omega
  by_cases h8 : n < 8
  · have hd : decide ((n : Int) < 8) = true := by simp; omega
    go_enter Tryd.func122, Tryd.ntmps122
    go_wp2
    go_quiet (fail)
    go_wp2
    go_ret
    refine ⟨ret_bool ?_, nq, rfl⟩
    have e : ((2 : Int) ^ n) = ((2 ^ n : Nat) : Int) := by simp
    have hp := Nat.two_pow_pos n
    rw [← Hr.out, e, Bool.eq_iff_iff]
    simp only [beq_iff_eq, decide_eq_true_eq]
    omega
  · have hd : decide ((n : Int) < 8) = false := by simp; omega
    go_enter Tryd.func122, Tryd.ntmps122
    go_wp2
    go_quiet (fail)
    go_wp2
    go_ret
    refine ⟨ret_bool ?_, nq, rfl⟩
    rw [← Hr.out]
    simp
    omega
end Go.Proofs.YtinieljgcenemaaDoor
namespace Go.Proofs.YtinieljgcenemaaDoor
open Go.RowKit Go.Own Go.Huf
set_option linter.unusedVariables false

/-- what Decode answers -/
def resV : R → Value
  | .ok t => .tuple #[.string ⟨t.toArray⟩, .int .i64 0]
  | .form => .tuple #[.string ⟨#[]⟩, .int .i64 3]
  | .long => .tuple #[.string ⟨#[]⟩, .int .i64 4]
/-- the world of Decode -/
structure DN (w : World) (p g : Nat) (A : Option Addr) (k c : Nat) (acc : List UInt8) (n v : Nat) (w' : World) : Prop where
  below : Below w.heap.size w w'
  cnt : Cnt w'
  at_ : WAt w' p n v
  ple : w.heap.size ≤ p
  sym : Blk w' g 150 symCells
  gne : g ≠ p
  own : w'.ownsRow w.heap.size 5 1 (.slice A k c) k (acc.map BV)
theorem DN.ne {w : World} {p g : Nat} {A : Option Addr} {k c : Nat} {acc : List UInt8} {n v : Nat} {w' : World} (h : DN w p g A k c acc n v w') (hC : Cnt w) : p ≠ 0 := by
  have := hC.pos
  have := h.ple
  omega
theorem DN.drewN {w : World} {p g : Nat} {A : Option Addr} {k c : Nat} {acc : List UInt8} {n v : Nat} {w' : World} (h : DN w p g A k c acc n v w') (q : Nat) : DN w p g A k c acc n v (w'.drewN q) :=
  ⟨below_drewN h.below q, h.cnt.drewN q, h.at_.drewN q, h.ple, h.sym.drewN q, h.gne, h.own⟩
theorem DN.step {w : World} {p g : Nat} {A : Option Addr} {k c : Nat} {acc : List UInt8} {n v n' v' : Nat} {w' w4 : World} (h : DN w p g A k c acc n v w') (ha : WAt w4 p n' v') (hf : Fr (· = p) w' w4) (hp : p ≠ 0) : DN w p g A k c acc n' v' w4 :=
  ⟨h.below.trans (hf.below h.below.size (fun i _ e => e ▸ h.ple)), h.cnt.fr hf (fun e => hp e.symm), ha, h.ple, h.sym.fr hf h.gne, h.gne, own_fr h.own hf (fun b hb e => own_ne_blk h.own h.at_ (by decide) (e ▸ hb))⟩
theorem DN.alloc {w : World} {p g : Nat} {A : Option Addr} {k c : Nat} {acc : List UInt8} {n v : Nat} {w' : World} (h : DN w p g A k c acc n v w') (o : Obj) : DN w p g A k c acc n v (w'.alloc o) :=
  ⟨h.below.alloc h.below.size o, h.cnt.fr ((Fr.refl (fun _ => False) _).alloc o) (fun h => h), h.at_.alloc o, h.ple, h.sym.alloc o, h.gne, own_alloc h.own o⟩
theorem DN.put {w : World} {p g : Nat} {A A' : Option Addr} {k c c' : Nat} {acc : List UInt8} {n v : Nat} {w' w4 : World} {y : UInt8} (h : DN w p g A k c acc n v w')
    (ho : w4.ownsRow w.heap.size 5 1 (.slice A' (k + 1) c') (k + 1) (acc.map BV ++ [BV y])) (hf : Fr (fun i => some i = (Value.slice A k c).ownBlock) w' w4) (hC : Cnt w) : DN w p g A' (k + 1) c' (acc ++ [y]) n v w4 := by
  have hge : ∀ i, some i = (Value.slice A k c).ownBlock → w.heap.size ≤ i := fun i e => (h.own.lt i e.symm).1
  exact ⟨h.below.trans (hf.below h.below.size (fun i _ e => hge i e)), h.cnt.fr hf (fun e => by have := hge _ e; have := hC.pos; omega), h.at_.fr hf (fun e => own_ne_blk h.own h.at_ (by decide) e.symm), h.ple, h.sym.fr hf (fun e => own_ne_blk h.own h.sym (by decide) e.symm), h.gne, by simpa using ho⟩
theorem DN.reset {w : World} {p g : Nat} {A : Option Addr} {k c : Nat} {acc : List UInt8} {n v : Nat} {w' : World} (h : DN w p g A k c acc n v w') (hp : p ≠ 0) :
    DN w p g A k c acc 0 0 ((((w'.setCell ⟨p, 0, none⟩ (.int .i64 0)).setCell ⟨p, 1, none⟩ (.int .u32 0)).setCell ⟨p, 2, none⟩ (.int .u32 0)).setCell ⟨p, 3, none⟩ (.int .i64 0)) := by
  refine h.step ?_ ((((((Fr.refl (· = p) w').setCell (p := ⟨p, 0, none⟩) (.inl rfl) _).setCell (p := ⟨p, 1, none⟩) (.inl rfl) _).setCell (p := ⟨p, 2, none⟩) (.inl rfl) _).setCell (p := ⟨p, 3, none⟩) (.inl rfl) _)) hp
  exact (((h.at_.set_ 0 (.int .i64 0)).set_ 1 (.int .u32 0)).set_ 2 (.int .u32 0)).set_ 3 (.int .i64 0)
theorem own_nil (w : World) (base : Nat) (e : TypeId) (size : Nat) : w.ownsRow base e size (.slice none 0 0) 0 [] := ⟨by simp, .inl ⟨rfl, rfl⟩⟩
theorem and_bit (x : UInt8) (j : Nat) : Go.bits BinOp.and IntKind.u8 ((x.toNat : Int) / 2 ^ j) 1 = (((x.toNat / 2 ^ j % 2 == 1).toNat : Nat) : Int) := by
  have e : ((x.toNat : Int) / 2 ^ j) = ((x.toNat / 2 ^ j : Nat) : Int) := by simp
  have hx := x.toNat_lt
  have hle : x.toNat / 2 ^ j ≤ x.toNat := Nat.div_le_self _ _
  rw [e, show (1 : Int) = ((1 : Nat) : Int) from rfl, u8_and_nat _ _ (by omega) (by omega), Nat.and_one_is_mod, bit_toNat]

set_option maxRecDepth 100000 in
set_option maxHeartbeats 4000000 in
theorem Decode_any {w : World} {A : Option Addr} {len cap : Nat} {xs : List UInt8} (hr : Rd w 1 A len (xs.map BV)) (hC : Cnt w) (hlc : len ≤ cap) (hcap : cap ≤ 9223372036854775807) (hlen : len ≤ 536870912) (most : Int) :
    Calls Tryd.prog 118 #[.slice A len cap, .int .i64 most] w fun e w' => e = .returned (resV (dec (bits8 xs) most)) ∧ Below w.heap.size w w' := by
  have hzs := zero_syms.1
  have hxl : xs.length = len := by simpa using hr.1
  obtain ⟨R0, hR0⟩ : ∃ R0, dec (bits8 xs) most = R0 := ⟨_, rfl⟩
  rw [hR0]
  have HR0 := Lib.hid hR0
  have Hr := Lib.hid hr
  have Hxl := Lib.hid hxl
  have HC := Lib.hid hC
  clear hR0 hr hxl hC
  go_enter Tryd.func118, Tryd.ntmps118
  go_wp2_with (first
    | (go_at_call 107; (with_reducible refine (syms_any _).mono ?_); rintro e w1 ⟨rfl, hb1⟩; have Hb1 := Lib.hid hb1; clear hb1)
    | (refine wpList_store_syms rfl _ _ rfl rfl rfl ?_))
  clear hzs
  go_loopg [16, 7] len (fun gh i tx w' => ∃ (k : Nat) (A2 : Option Addr) (n2 c2 : Nat) (acc : List UInt8) (n v : Nat), gh + k = len ∧ i = .int .i64 k ∧ tx = .slice A2 n2 c2 ∧ n2 ≤ 8 * k ∧ WS n v ∧
    decP most (bits8 (xs.drop k)) n v acc = R0 ∧ DN w (w1.heap.size + 1) w1.heap.size A2 n2 c2 acc n v w')
  case atStart =>
    refine ⟨0, _, _, _, [], 0, 0, by omega, rfl, rfl, by omega, WS.zero, HR0.out, ?_⟩
    have hs := Hb1.out.size
    refine ⟨(Hb1.out.alloc hs _).alloc (by simp; omega) _, (HC.out.below Hb1.out).fr (((Fr.refl (fun _ => False) _).alloc _).alloc _) (fun h => h), ?_, by omega, ?_, by omega, own_nil _ _ _ _⟩
    · have := Blk.new (w1.alloc (.cells symCells.toArray 150)) 168 [.int .i64 0, .int .u32 0, .int .u32 0, .int .i64 0]
      simpa [WAt, frst, strt] using this
    · exact (Blk.new w1 150 symCells).alloc _
  case round =>
    obtain ⟨k, A2, n2, c2, acc, n, v, hk, rfl, rfl, hn2, hws, hdec, hw⟩ := hrel
    have Hws := Lib.hid hws
    have Hdec := Lib.hid hdec
    have HW := Lib.hid hw
    clear hws hdec hw
    cases gk with
    | succ g1 =>
      have hlt : k < len := by omega
      obtain ⟨b, o, u, rfl, hu, hcu⟩ := Hr.out.at_ hlt
      have hkx : k < xs.length := by have := Hxl.out; omega
      obtain ⟨x, hx⟩ : ∃ x : UInt8, xs[k] = x := ⟨_, rfl⟩
      have hux : u = .int .u8 (x.toNat : Int) := by
        rw [List.getElem?_map, List.getElem?_eq_getElem hkx, hx] at hu
        exact (Option.some.inj hu).symm
      subst hux
      have hcell := (HW.out.below.cell (p := ⟨b, o + k, none⟩) (World.block_lt_of_cell? w _ hcu)).trans hcu
      have hdx : bits8 (xs.drop k) = bitsN 8 x.toNat ++ bits8 (xs.drop (k + 1)) := by rw [List.drop_eq_getElem_cons hkx, bits8_cons, hx]
      have Hdx := Lib.hid hdx
      clear hu hcu hx hdx
      go_wp2
      go_loopg [20, 7] 8 (fun gh i tx w' => ∃ (j : Nat) (A2 : Option Addr) (n2 c2 : Nat) (acc : List UInt8) (n v : Nat), gh + j = 8 ∧ i = .int .i64 j ∧ tx = .slice A2 n2 c2 ∧ n2 ≤ 8 * k + j ∧ WS n v ∧
        decP most (bitsN (8 - j) x.toNat ++ bits8 (xs.drop (k + 1))) n v acc = R0 ∧ DN w (w1.heap.size + 1) w1.heap.size A2 n2 c2 acc n v w')
      case atStart => exact ⟨0, A2, n2, c2, acc, n, v, by omega, rfl, rfl, by omega, Hws.out, by rw [← Hdec.out, Hdx.out], HW.out⟩
      case round =>
        clear HW Hdec Hws hcell Hdx
        obtain ⟨j, A3, n3, c3, acc, n, v, hj, rfl, rfl, hn3, hws, hdec, hw⟩ := hrel
        have Hdec := Lib.hid hdec
        have HW := Lib.hid hw
        have hne := hw.ne HC.out
        clear hdec hw
        cases gk with
        | succ g2 =>
          have hj8 : j < 8 := by omega
          obtain ⟨bt, hbt⟩ : ∃ bt : Bool, (x.toNat / 2 ^ (7 - j) % 2 == 1) = bt := ⟨_, rfl⟩
          have hand := and_bit x (7 - j)
          rw [hbt] at hand
          have hbits : bitsN (8 - j) x.toNat = bt :: bitsN (8 - (j + 1)) x.toNat := by
            rw [show 8 - j = (7 - j) + 1 by omega, bitsN_cons, hbt, show 8 - (j + 1) = 7 - j by omega]
          have hd := Hdec.out
          rw [hbits, List.cons_append, decP] at hd
          have Hd := Lib.hid hd
          obtain ⟨cc, hcc⟩ : ∃ cc, isC (n + 1) (2 * v + bt.toNat) = cc := ⟨_, rfl⟩
          have Hcc := Lib.hid hcc
          have Hws := Lib.hid hws
          clear hbt hbits hd Hdec hcc hws
          cases cc with
          | false =>
            have hnc : ¬ 2 * v + bt.toNat < frst (n + 1) + cnt (n + 1) := by simpa [isC] using Hcc.out
            have hd := Hd.out
            rw [if_neg hnc] at hd
            have Hd2 := Lib.hid hd
            have Hn := Lib.hid (Hws.out.next hnc)
            clear hd hnc
            go_wp2_with (first
              | (go_at_call 120; (with_reducible refine (step_any _ n v bt false _ HW.out.at_ Hws.out HW.out.cnt hne Hcc.out).mono ?_); rintro e w4 ⟨rfl, hb4, hf4⟩; have H4 := Lib.hid (HW.out.step hb4 hf4 hne); clear hb4 hf4))
            go_roundg g2
            case measure => omega
            case rel => exact ⟨j + 1, A3, n3, c3, acc, _, _, by omega, by go_num, rfl, by omega, Hn.out, Hd2.out, H4.out⟩
          | true =>
            have hc : 2 * v + bt.toNat < frst (n + 1) + cnt (n + 1) := by simpa [isC] using Hcc.out
            have hsy := Hws.out.sym hc
            have hle := Hws.out.le bt
            have hn29 := Hws.out.1
            obtain ⟨q, hq⟩ : ∃ q, strt (n + 1) + (2 * v + bt.toNat - frst (n + 1)) = q := ⟨_, rfl⟩
            obtain ⟨s, hs⟩ : ∃ s, sym q = s := ⟨_, rfl⟩
            have hd := Hd.out
            rw [if_pos hc, hq, hs] at hd
            rw [hq, hs] at hsy
            have hs256 := hsy.2.1
            have hq257 := hsy.2.2
            have Hq := Lib.hid hq
            have Hs := Lib.hid hs
            have Hd2 := Lib.hid hd
            have Hc := Lib.hid hc
            have hnl : acc.length = n3 := by have := HW.out.own.1; simpa using this
            have Hnl := Lib.hid hnl
            have Hle := Lib.hid hle
            clear hd hc hsy hq hs hnl hle Hd
            have hq0 : (0 : Int) ≤ (q : Int) := by omega
            have hq1 : (q : Int) < 257 := by omega
            by_cases h256 : s = 256
            · subst h256
              have hd := Hd2.out
              rw [if_pos rfl] at hd
              have Hd3 := Lib.hid hd
              clear hd
              go_wp2_with (first
                | (go_at_call 120; (with_reducible refine (step_any _ n v bt true _ HW.out.at_ Hws.out HW.out.cnt hne Hcc.out).mono ?_); rintro e w4 ⟨rfl, hb4, hf4⟩; have H4 := Lib.hid (HW.out.step hb4 hf4 hne); have hcs := (H4.out.sym.cell q).trans (symCells_at q hq257); rw [Hs.out] at hcs; clear hb4 hf4)
                | (go_at_call 121; (with_reducible refine (place_any _ (n + 1) (2 * v + bt.toNat) q _ H4.out.at_ (by omega) Hle.out Hc.out Hq.out).mono ?_); rintro e w' ⟨rfl, qq, rfl⟩))
              go_ret2
              exact ⟨by rw [← Hd3.out]; rfl, below_drewN H4.out.below _⟩
            · have hsl : s < 256 := by omega
              have hsb : ((s : Int) == 256) = false := by simp; omega
              have hd := Hd2.out
              rw [if_neg h256, Hnl.out] at hd
              have Hd3 := Lib.hid hd
              clear hd h256
              by_cases hm : most ≤ (n3 : Int)
              · have hd := Hd3.out
                rw [if_pos hm] at hd
                have Hd4 := Lib.hid hd
                clear hd
                go_wp2_with (first
                  | (go_at_call 120; (with_reducible refine (step_any _ n v bt true _ HW.out.at_ Hws.out HW.out.cnt hne Hcc.out).mono ?_); rintro e w4 ⟨rfl, hb4, hf4⟩; have H4 := Lib.hid (HW.out.step hb4 hf4 hne); have hcs := (H4.out.sym.cell q).trans (symCells_at q hq257); rw [Hs.out] at hcs; clear hb4 hf4)
                  | (go_at_call 121; (with_reducible refine (place_any _ (n + 1) (2 * v + bt.toNat) q _ H4.out.at_ (by omega) Hle.out Hc.out Hq.out).mono ?_); rintro e w' ⟨rfl, qq, rfl⟩))
                go_ret2
                exact ⟨by rw [← Hd4.out]; rfl, below_drewN H4.out.below _⟩
              · have hd := Hd3.out
                rw [if_neg hm] at hd
                have Hd4 := Lib.hid hd
                clear hd
                go_wp2_with (first
                  | (go_at_call 120; (with_reducible refine (step_any _ n v bt true _ HW.out.at_ Hws.out HW.out.cnt hne Hcc.out).mono ?_); rintro e w4 ⟨rfl, hb4, hf4⟩; have H4 := Lib.hid (HW.out.step hb4 hf4 hne); have hcs := (H4.out.sym.cell q).trans (symCells_at q hq257); rw [Hs.out] at hcs; clear hb4 hf4)
                  | (go_at_call 121; (with_reducible refine (place_any _ (n + 1) (2 * v + bt.toNat) q _ H4.out.at_ (by omega) Hle.out Hc.out Hq.out).mono ?_); rintro e w' ⟨rfl, qq, rfl⟩; have H5 := Lib.hid ((H4.out.drewN qq).alloc (.cells #[.int .u8 (s : Int)] 5)))
                  | (at_builtin
                     refine wpList_append_rd rfl (.tmp 39) (.tmp 42) 29 rfl E31 (.slice A3 n3 c3) n3 (acc.map BV) rfl H5.out.own (some ⟨w4.heap.size, 0, none⟩) 1 1 _ rfl (rd_lit1 (w4.drewN qq) 5 _) (one_lit1 _ _) (by omega) (by unfold maxLen; omega) (by have := H5.out.below.size; exact this) ?_
                     intro A' c' w6 ho hf ho2
                     have hy : Value.int .u8 (s : Int) = BV (UInt8.ofNat s) := by rw [BV, ofNat_toNat _ hsl]
                     rw [hy] at ho
                     have H6 := Lib.hid (H5.out.put ho hf HC.out)
                     have c0 := H6.out.at_.cell 0
                     have c1 := H6.out.at_.cell 1
                     have c2 := H6.out.at_.cell 2
                     have c3 := H6.out.at_.cell 3
                     simp only [List.getElem?_cons_zero, List.getElem?_cons_succ] at c0 c1 c2 c3
                     have f0 := H6.out.at_.frozen 0
                     have f1 := H6.out.at_.frozen 1
                     have f2 := H6.out.at_.frozen 2
                     have f3 := H6.out.at_.frozen 3
                     clear ho hf ho2 hy))
                go_roundg g2
                case measure => omega
                case rel => exact ⟨j + 1, A', n3 + 1, c', _, 0, 0, by omega, by go_num, rfl, by omega, WS.zero, Hd4.out, H6.out.reset hne⟩
        | zero =>
          obtain rfl : j = 8 := by omega
          go_wp2
          go_roundg g1
          case measure => omega
          case rel => exact ⟨k + 1, A3, n3, c3, acc, n, v, by omega, by go_num, rfl, by omega, hws, Hdec.out, HW.out⟩
    | zero =>
      obtain rfl : k = len := by omega
      have hd := Hdec.out
      rw [List.drop_eq_nil_of_le (by have := Hxl.out; omega), show bits8 [] = [] from rfl, decP] at hd
      have hn29 := Hws.out.1
      have hv := Hws.out.2.2
      have hf := frst_bd n (by omega)
      have hv2 : v < 4294967296 := by omega
      have hcv : ∀ q, (convert 29 9 (.slice A2 n2 c2)).run Tryd.prog (wr.drewN q) = .ok (.string ⟨acc.toArray⟩) (wr.drewN q) := fun q => run_conv_bytes (P := Tryd.prog) Tryd.underlying29 Tryd.underlying5 Tryd.underlying9 (Rd.of_own (HW.out.drewN q).own)
      by_cases hp : n < 8 ∧ v + 1 = 2 ^ n
      · rw [if_pos hp] at hd
        have Hd := Lib.hid hd
        have Hp := Lib.hid (show decide (n < 8 ∧ v + 1 = 2 ^ n) = true from decide_eq_true hp)
        clear hd hp hv hf
        go_wp2_with (first
          | (go_at_call 122; (with_reducible refine (pad_any _ n v true _ HW.out.at_ (by omega) hv2 Hp.out).mono ?_); rintro e w' ⟨rfl, qq, rfl⟩))
        go_ret2
        exact ⟨by rw [← Hd.out]; rfl, below_drewN HW.out.below _⟩
      · rw [if_neg hp] at hd
        have Hd := Lib.hid hd
        have Hp := Lib.hid (show decide (n < 8 ∧ v + 1 = 2 ^ n) = false from decide_eq_false hp)
        clear hd hp hv hf hcv
        go_wp2_with (first
          | (go_at_call 122; (with_reducible refine (pad_any _ n v false _ HW.out.at_ (by omega) hv2 Hp.out).mono ?_); rintro e w' ⟨rfl, qq, rfl⟩))
        go_ret2
        exact ⟨by rw [← Hd.out]; rfl, below_drewN HW.out.below _⟩
end Go.Proofs.YtinieljgcenemaaDoor
namespace Go.Proofs.YtinieljgcenemaaDoor
open Go.RowKit Go.Own Go.Huf
set_option linter.unusedVariables false

theorem conv_rd {W : World} {A : Option Addr} {n c : Nat} {xs : List UInt8} (h : Rd W 1 A n (xs.map BV)) : (convert 29 9 (.slice A n c)).run Tryd.prog W = .ok (.string ⟨xs.toArray⟩) W :=
  run_conv_bytes (P := Tryd.prog) Tryd.underlying29 Tryd.underlying5 Tryd.underlying9 h
/-- Encode, of a text whose octets are known -/
theorem Encode_is (s : ByteArray) (ys : List UInt8) (n : Nat) (hn : ys.length = n) (hp : Pk (enc s.data.toList) ys) (w : World) (hC : Cnt w) (hs : s.size ≤ 16777216) :
    Calls Tryd.prog 84 #[.string s] w fun e w' => ∃ A c, e = .returned (.slice A n c) ∧ w'.ownsRow w.heap.size 5 1 (.slice A n c) n (ys.map BV) ∧ Below w.heap.size w w' := by
  refine (Encode_any s w hC hs).mono ?_
  rintro e w' ⟨A, m, c, xs, rfl, ho, hk, hb⟩
  obtain rfl := hk.uniq hp
  have hl := ho.1
  simp at hl
  obtain rfl : m = n := by omega
  exact ⟨A, c, rfl, ho, hb⟩
/-- Encode, the number of octets said -/
theorem Encode_n (s : ByteArray) (N : Nat) (hN : ((enc s.data.toList).length + 7) / 8 = N) (w : World) (hC : Cnt w) (hs : s.size ≤ 16777216) :
    Calls Tryd.prog 84 #[.string s] w fun e w' => ∃ A c xs, e = .returned (.slice A N c) ∧ w'.ownsRow w.heap.size 5 1 (.slice A N c) N (xs.map BV) ∧ N ≤ c ∧ c ≤ 9223372036854775807 ∧ Pk (enc s.data.toList) xs ∧ Below w.heap.size w w' := by
  refine (Encode_any s w hC hs).mono ?_
  rintro e w' ⟨A, m, c, xs, rfl, ho, hk, hb⟩
  have hl := ho.1
  have hk2 := hk.len
  simp at hl
  obtain rfl : m = N := by omega
  obtain ⟨A', c', he, h1, h2, _⟩ := own_shape ho
  simp only [Value.slice.injEq] at he
  obtain ⟨_, _, rfl⟩ := he
  exact ⟨A, c, xs, rfl, ho, h1, h2, hk, hb⟩
theorem Size_n (s : ByteArray) (N : Nat) (hN : ((enc s.data.toList).length + 7) / 8 = N) (w : World) (hC : Cnt w) (hs : s.size ≤ 140737488355328) :
    Calls Tryd.prog 82 #[.string s] w fun e w' => e = .returned (.int .i64 (N : Int)) ∧ Below w.heap.size w w' := by
  have := Size_any s w hC hs
  rw [hN] at this
  exact this
theorem lit_rd (w : World) (ys : List UInt8) (n : Nat) (cs : Array Value) (hcs : cs = (ys.map BV).toArray) (hn : ys.length = n) : Rd (w.alloc (.cells cs 5)) 1 (some ⟨w.heap.size, 0, none⟩) n (ys.map BV) := by
  subst hcs
  have := Rd.of_blk (n := n) (size := 1) (Blk.new w 5 (ys.map BV)) (by simp; omega)
  rwa [Nat.mul_one, List.take_of_length_le (by simp; omega)] at this
end Go.Proofs.YtinieljgcenemaaDoor
namespace Go.Proofs.YtinieljgcenemaaDoor
open Go.RowKit Go.Own Go.Huf
set_option linter.unusedVariables false

theorem str_self (s : ByteArray) : (⟨s.data.toList.toArray⟩ : ByteArray) = s := by cases s; simp
theorem dec_back {t xs : List UInt8} (h : Pk (enc t) xs) (most : Int) (hm : (t.length : Int) ≤ most) : dec (bits8 xs) most = .ok t := by
  obtain ⟨k, hk, e⟩ := h
  rw [dec, e, decP_enc most t _ [] (by simpa using hm), decP_ones most k (by omega), if_pos hk]
  simp
theorem dec_long {t xs : List UInt8} (h : Pk (enc t) xs) (most : Int) (hm : most < (t.length : Int)) (ht : t ≠ []) : dec (bits8 xs) most = .long := by
  obtain ⟨k, hk, e⟩ := h
  rw [dec, e, decP_long most t _ [] (by simpa using hm) ht]
theorem Decode_back {w : World} {A : Option Addr} {n c : Nat} {xs : List UInt8} (s : ByteArray) (hr : Rd w 1 A n (xs.map BV)) (hC : Cnt w) (hlc : n ≤ c) (hcap : c ≤ 9223372036854775807) (hlen : n ≤ 536870912) (hp : Pk (enc s.data.toList) xs) (most : Int) (hm : (s.size : Int) ≤ most) :
    Calls Tryd.prog 118 #[.slice A n c, .int .i64 most] w fun e w' => e = .returned (.tuple #[.string s, .int .i64 0]) ∧ Below w.heap.size w w' := by
  have := Decode_any hr hC hlc hcap hlen most
  rw [dec_back hp most (by simpa using hm), resV, str_self] at this
  exact this
theorem ne_nil_of_pos {s : ByteArray} (h : 0 < s.size) : s.data.toList ≠ [] := by
  intro e
  have h2 : s.data.toList.length = s.size := by simp
  rw [e] at h2
  simp at h2
  omega
theorem Decode_less {w : World} {A : Option Addr} {n c : Nat} {xs : List UInt8} (s : ByteArray) (hr : Rd w 1 A n (xs.map BV)) (hC : Cnt w) (hlc : n ≤ c) (hcap : c ≤ 9223372036854775807) (hlen : n ≤ 536870912) (hp : Pk (enc s.data.toList) xs) (most : Int) (hm : most < (s.size : Int)) (hs : 0 < s.size) :
    Calls Tryd.prog 118 #[.slice A n c, .int .i64 most] w fun e w' => e = .returned (.tuple #[.string ⟨#[]⟩, .int .i64 4]) ∧ Below w.heap.size w w' := by
  have := Decode_any hr hC hlc hcap hlen most
  rw [dec_long hp most (by simpa using hm) (ne_nil_of_pos hs), resV] at this
  exact this
theorem enc_len_le (s : ByteArray) : (enc s.data.toList).length ≤ 30 * s.size := by
  have := enc_le s.data.toList
  simpa using this
theorem empty_bool (s : ByteArray) : s.toList.isEmpty = decide (s.size = 0) := by
  have h : s.toList.length = s.size := by
    rw [ByteArray.toList_eq]; simp
  rw [Bool.eq_iff_iff, List.isEmpty_iff]
  simp only [decide_eq_true_eq]
  constructor
  · intro e; rw [e] at h; simpa using h.symm
  · intro e; exact List.eq_nil_of_length_eq_zero (by omega)
end Go.Proofs.YtinieljgcenemaaDoor
namespace Go.Proofs.YtinieljgcenemaaDoor
open Go.RowKit Go.Own Go.Huf
set_option linter.unusedVariables false

theorem octet_bits (l : List Bool) (h : l.length = 8) : bits8 [UInt8.ofNat (numB l)] = l := by
  have hl := numB_lt l
  rw [h] at hl
  have := bitsN_numB l
  rw [h] at this
  rw [bits8_cons, show bits8 [] = [] from rfl, List.append_nil, ofNat_toNat _ (by omega), this]
theorem pk_exists : ∀ (n : Nat) (bs : List Bool), bs.length ≤ n → ∃ xs, Pk bs xs
  | 0, bs, h => ⟨[], 0, by omega, by rw [List.eq_nil_of_length_eq_zero (by omega : bs.length = 0)]; rfl⟩
  | n + 1, bs, h => by
    by_cases h0 : bs.length = 0
    · exact ⟨[], 0, by omega, by rw [List.eq_nil_of_length_eq_zero h0]; rfl⟩
    · by_cases h8 : bs.length < 8
      · refine ⟨[UInt8.ofNat (numB (bs ++ List.replicate (8 - bs.length) true))], 8 - bs.length, by omega, octet_bits _ (by simp; omega)⟩
      · obtain ⟨xs, k, hk, e⟩ := pk_exists n (bs.drop 8) (by rw [List.length_drop]; omega)
        refine ⟨UInt8.ofNat (numB (bs.take 8)) :: xs, k, hk, ?_⟩
        rw [show UInt8.ofNat (numB (bs.take 8)) :: xs = [UInt8.ofNat (numB (bs.take 8))] ++ xs from rfl, bits8_append, octet_bits _ (by rw [List.length_take]; omega), e, ← List.append_assoc, List.take_append_drop]
theorem below_drew {B : Nat} {a w : World} (h : Below B a w) : Below B a w.drew := ⟨h.os, h.tape, h.output, h.size, h.block⟩
/-- the end of a law: its slot holds true -/
theorem ret_true {f : Func} {p : Nat} (hf : f.results = #[.tmp p]) {Q0 : Ending → World → Prop} {a : Act} {w : World} (h2 : a.tmps.getD p undef = .bool true) (hd : a.defers = []) (h : Q0 (.returned (.bool true)) w) : Code.wp Tryd.prog Code.ret (bodyPost Tryd.prog f Q0) a w :=
  wp_ret (bodyPost_ret (v := .bool true) (by rw [results_tmp hf, h2]) hd h)
theorem resV_shape (R0 : R) : ∃ S E, resV R0 = .tuple #[.string S, .int .i64 E] := by cases R0 <;> exact ⟨_, _, rfl⟩
theorem rd_alloc {w : World} {size n : Nat} {A : Option Addr} {vs : List Value} (h : Rd w size A n vs) (o : Obj) : Rd (w.alloc o) size A n vs := h.fr (S := fun _ => False) ((Fr.refl _ _).alloc o) (fun _ _ h => h)
theorem below_empty {w2 w3 : World} {B : Nat} {o : Obj} (hf : Fr (fun i => some i = (Value.slice (some ⟨w2.heap.size, 0, none⟩) 0 0).ownBlock) (w2.alloc o) w3) (hB : B ≤ w2.heap.size) : Below B w2 w3 :=
  ((Below.refl _ _).alloc hB o).trans (hf.below (by simp; omega) (fun i _ e => by simp [Value.ownBlock] at e; omega))

end Go.Proofs.YtinieljgcenemaaDoor
namespace Go.Proofs.YtinieljgcenemaaDoor
open Go.Huf Go.Hin
set_option linter.unusedVariables false

def putT (t ys : List UInt8) : List UInt8 := if ys.length < t.length then putB (2 ^ 7 - 1) (topOf 128 7) ys.length ++ ys else putB (2 ^ 7 - 1) (topOf 0 7) t.length ++ t
inductive T where
  | ok (t : List UInt8) (n : Nat)
  | err (e : Nat)
def decT (n : Nat) : R → T
  | .ok t => .ok t n
  | .form => .err 3
  | .long => .err 4
def getT (most : Int) (xs : List UInt8) : T :=
  match getN 7 xs with
  | .ok size n =>
    if xs.length < n + size then .err 2
    else if (xs.headD 0).toNat < 128 then .ok ((xs.drop n).take size) (n + size)
    else decT (n + size) (dec (bits8 ((xs.drop n).take size)) most)
  | .more => .err 2
  | .form => .err 3
  | .arg => .err 1
theorem getT_more {most : Int} {xs : List UInt8} (h : getN 7 xs = .more) : getT most xs = .err 2 := by rw [getT, h]
theorem getT_form {most : Int} {xs : List UInt8} (h : getN 7 xs = .form) : getT most xs = .err 3 := by rw [getT, h]
theorem getT_ok {most : Int} {xs : List UInt8} {size n : Nat} (h : getN 7 xs = .ok size n) : getT most xs =
    if xs.length < n + size then .err 2
    else if (xs.headD 0).toNat < 128 then .ok ((xs.drop n).take size) (n + size)
    else decT (n + size) (dec (bits8 ((xs.drop n).take size)) most) := by rw [getT, h]
theorem top_128 : topOf 128 7 = 128 := by decide
theorem top_0 : topOf 0 7 = 0 := by decide
theorem take_mid (a b r : List UInt8) : ((a ++ b ++ r).drop a.length).take b.length = b := by
  rw [List.append_assoc, List.drop_left, List.take_left]
theorem head_hi (v : Nat) (r : List UInt8) : ¬ (((putB (2 ^ 7 - 1) (topOf 128 7) v ++ r).headD 0).toNat < 128) := by
  obtain ⟨q, hq⟩ := putB_head (2 ^ 7 - 1) (topOf 128 7) v
  have := headB_lt 128 7 v (by omega) (by omega)
  rw [hq, List.cons_append, List.headD_cons, ofn _ this, headB, top_128]
  split <;> omega
theorem head_lo (v : Nat) (r : List UInt8) : ((putB (2 ^ 7 - 1) (topOf 0 7) v ++ r).headD 0).toNat < 128 := by
  obtain ⟨q, hq⟩ := putB_head (2 ^ 7 - 1) (topOf 0 7) v
  have := headB_lt 0 7 v (by omega) (by omega)
  rw [hq, List.cons_append, List.headD_cons, ofn _ this, headB, top_0]
  split <;> omega
/-- a text that is written is read as it was -/
theorem getT_put {t ys : List UInt8} (hp : Pk (enc t) ys) (ht : t.length ≤ 2147483647) (most : Int) (hm : (t.length : Int) ≤ most) (r : List UInt8) : getT most (putT t ys ++ r) = .ok t (putT t ys).length := by
  unfold putT
  split
  · rename_i h
    rw [List.append_assoc, getT_ok (getN_put 128 7 ys.length (by omega) (by omega) (by omega) (ys ++ r)), if_neg (by simp), if_neg (head_hi _ _), ← List.append_assoc, take_mid, dec_back hp most hm, decT, List.length_append]
  · rename_i h
    rw [List.append_assoc, getT_ok (getN_put 0 7 t.length (by omega) (by omega) (by omega) (t ++ r)), if_neg (by simp), if_pos (head_lo _ _), ← List.append_assoc, take_mid, List.length_append]
theorem getN_part (x v : Nat) (hx : x < 256) (hv : v ≤ 2147483647) (b : List UInt8) (hb : b.length = v) (i : Nat) (hi : i < (putB (2 ^ 7 - 1) (topOf x 7) v ++ b).length) :
    getN 7 ((putB (2 ^ 7 - 1) (topOf x 7) v ++ b).take i) = .more ∨ (getN 7 ((putB (2 ^ 7 - 1) (topOf x 7) v ++ b).take i) = .ok v (putB (2 ^ 7 - 1) (topOf x 7) v).length ∧ ((putB (2 ^ 7 - 1) (topOf x 7) v ++ b).take i).length < (putB (2 ^ 7 - 1) (topOf x 7) v).length + v) := by
  rw [List.length_append, hb] at hi
  by_cases hc : i < (putB (2 ^ 7 - 1) (topOf x 7) v).length
  · left
    rw [List.take_append_of_le_length (by omega)]
    exact getN_cut x 7 v i hx (by omega) hv hc
  · right
    constructor
    · rw [List.take_append, List.take_of_length_le (by omega)]
      exact getN_put x 7 v hx (by omega) hv _
    · rw [List.length_take, List.length_append, hb]; omega
/-- no beginning of it is a text -/
theorem getT_cut {t ys : List UInt8} (ht : t.length ≤ 2147483647) (most : Int) (i : Nat) (hi : i < (putT t ys).length) : getT most ((putT t ys).take i) = .err 2 := by
  unfold putT at hi ⊢
  split at hi
  · rename_i h
    rw [if_pos h]
    rcases getN_part 128 ys.length (by omega) (by omega) ys rfl i hi with h | ⟨h, hl⟩
    · exact getT_more h
    · rw [getT_ok h, if_pos hl]
  · rename_i h
    rw [if_neg h]
    rcases getN_part 0 t.length (by omega) (by omega) t rfl i hi with h | ⟨h, hl⟩
    · exact getT_more h
    · rw [getT_ok h, if_pos hl]
/-- what is read is not long -/
theorem getN_putT {t ys r : List UInt8} (ht : t.length ≤ 2147483647) {size n : Nat} (h : getN 7 (putT t ys ++ r) = .ok size n) : size ≤ t.length := by
  unfold putT at h
  split at h
  · rename_i hc
    rw [List.append_assoc, getN_put 128 7 ys.length (by omega) (by omega) (by omega) (ys ++ r)] at h
    injection h with h1 h2
    omega
  · rw [List.append_assoc, getN_put 0 7 t.length (by omega) (by omega) (by omega) (t ++ r)] at h
    injection h with h1 h2
    omega
theorem putT_len_le {t ys : List UInt8} : (putT t ys).length ≤ (putB (2 ^ 7 - 1) (topOf 0 7) t.length).length + t.length := by
  unfold putT
  split
  · rename_i h
    rw [List.length_append]
    have := putB_mono (2 ^ 7 - 1) (topOf 128 7) (topOf 0 7) ys.length t.length (by omega)
    omega
  · rw [List.length_append]; omega
theorem putT_pos {t ys : List UInt8} : 1 ≤ (putT t ys).length := by
  unfold putT
  split
  · rw [List.length_append]; have := putB_pos (2 ^ 7 - 1) (topOf 128 7) ys.length; omega
  · rw [List.length_append]; have := putB_pos (2 ^ 7 - 1) (topOf 0 7) t.length; omega
theorem putT_len {t ys : List UInt8} (ht : t.length ≤ 2147483647) : (putT t ys).length ≤ 6 + t.length := by
  have := putT_len_le (t := t) (ys := ys)
  have := putB_le (2 ^ 7 - 1) (topOf 0 7) t.length ht
  omega
/-- the first octet tells whether it is packed; a packed one is more than that octet -/
theorem putT_head {t ys : List UInt8} (hp : Pk (enc t) ys) : ∃ (x : UInt8) (q : List UInt8), putT t ys = x :: q ∧ (128 ≤ x.toNat ↔ ys.length < t.length) ∧ (ys.length < t.length → 1 ≤ q.length) := by
  unfold putT
  split
  · rename_i h
    have hh := head_hi ys.length ys
    obtain ⟨q, hq⟩ := putB_head (2 ^ 7 - 1) (topOf 128 7) ys.length
    rw [hq, List.cons_append] at hh ⊢
    rw [List.headD_cons] at hh
    refine ⟨_, _, rfl, by constructor <;> intro _ <;> omega, fun _ => ?_⟩
    have hy : 1 ≤ ys.length := by
      have h1 := hp.len
      match t, h with
      | b :: t, h =>
        rw [enc_cons, List.length_append, cbits_length] at h1
        have := (code_sym b.toNat (by have := b.toNat_lt; omega)).2.2.2.1
        omega
    rw [List.length_append]
    omega
  · rename_i h
    have hh := head_lo t.length t
    obtain ⟨q, hq⟩ := putB_head (2 ^ 7 - 1) (topOf 0 7) t.length
    rw [hq, List.cons_append] at hh ⊢
    rw [List.headD_cons] at hh
    exact ⟨_, _, rfl, by constructor <;> intro _ <;> omega, fun hc => absurd hc h⟩
/-- where there is room for a symbol a bit, the most is all one -/
theorem decP_most (m1 m2 : Int) : ∀ (bs : List Bool) (n v : Nat) (acc : List UInt8), ((acc.length + bs.length : Nat) : Int) ≤ m1 → ((acc.length + bs.length : Nat) : Int) ≤ m2 → decP m1 bs n v acc = decP m2 bs n v acc
  | [], n, v, acc, _, _ => rfl
  | b :: r, n, v, acc, h1, h2 => by
    rw [List.length_cons] at h1 h2
    rw [decP, decP]
    split
    · split
      · rfl
      · rw [if_neg (by omega), if_neg (by omega)]
        exact decP_most m1 m2 r 0 0 _ (by simp; omega) (by simp; omega)
    · exact decP_most m1 m2 r _ _ acc (by omega) (by omega)
theorem getT_most (m1 m2 : Int) (xs : List UInt8) (h1 : ((8 * xs.length : Nat) : Int) ≤ m1) (h2 : ((8 * xs.length : Nat) : Int) ≤ m2) : getT m1 xs = getT m2 xs := by
  unfold getT
  split
  · rename_i size n hg
    rw [show dec (bits8 ((xs.drop n).take size)) m1 = dec (bits8 ((xs.drop n).take size)) m2 from ?_]
    have hl : ((xs.drop n).take size).length ≤ xs.length := by rw [List.length_take, List.length_drop]; omega
    exact decP_most m1 m2 _ 0 0 [] (by rw [bits8_length]; simp; omega) (by rw [bits8_length]; simp; omega)
  · rfl
  · rfl
  · rfl
end Go.Proofs.YtinieljgcenemaaDoor
namespace Go.Tbl

/-- a field: its name, its value, is it never to stand in a table -/
structure Fld where
  n : ByteArray
  v : ByteArray
  nv : Bool
def Fld.plain (f : Fld) : Fld := ⟨f.n, f.v, false⟩
def sz (f : Fld) : Nat := f.n.size + f.v.size + 32
def szs : List Fld → Nat
  | [] => 0
  | f :: r => sz f + szs r
/-- the first ones that have room -/
def pre : Nat → List Fld → List Fld
  | _, [] => []
  | room, f :: r => if sz f ≤ room then f :: pre (room - sz f) r else []
/-- a field is put in, the newest first -/
def addF (h : Nat) (f : Fld) (l : List Fld) : List Fld := if sz f ≤ h then f.plain :: pre (h - sz f) l else []
def clampI (n : Int) : Nat := if n < 0 then 0 else if 65536 < n then 65536 else n.toNat

theorem sz_pos (f : Fld) : 32 ≤ sz f := by unfold sz; omega
theorem sz_plain (f : Fld) : sz f.plain = sz f := rfl
theorem szs_append (a b : List Fld) : szs (a ++ b) = szs a + szs b := by
  induction a with
  | nil => simp [szs]
  | cons f a ih => simp only [List.cons_append, szs, ih]; omega
theorem pre_le (room : Nat) (l : List Fld) : szs (pre room l) ≤ room := by
  induction l generalizing room with
  | nil => simp [pre, szs]
  | cons f r ih =>
    rw [pre]
    split
    · rw [szs]; have := ih (room - sz f); omega
    · simp [szs]
theorem pre_take (room : Nat) (l : List Fld) : pre room l = l.take (pre room l).length := by
  induction l generalizing room with
  | nil => simp [pre]
  | cons f r ih =>
    rw [pre]
    split
    · rw [List.length_cons, List.take_succ_cons, ← ih]
    · simp
theorem pre_len (room : Nat) (l : List Fld) : (pre room l).length ≤ l.length := by
  have := congrArg List.length (pre_take room l)
  rw [List.length_take] at this
  omega
/-- one more has no room -/
theorem pre_more (room : Nat) (l : List Fld) (f : Fld) (h : l[(pre room l).length]? = some f) : room < szs (pre room l) + sz f := by
  induction l generalizing room with
  | nil => simp at h
  | cons g r ih =>
    rw [pre] at h ⊢
    split
    · rename_i hc
      rw [if_pos hc, List.length_cons, List.getElem?_cons_succ] at h
      have := ih _ h
      rw [szs]
      omega
    · rename_i hc
      rw [if_neg hc] at h
      simp at h
      subst h
      simp [szs]
      omega
theorem pre_all (room : Nat) (l : List Fld) (h : szs l ≤ room) : pre room l = l := by
  induction l generalizing room with
  | nil => rfl
  | cons f r ih =>
    rw [szs] at h
    rw [pre, if_pos (by omega), ih _ (by omega)]
theorem pre_zero (l : List Fld) (room : Nat) (h : room < 32) : pre room l = [] := by
  cases l with
  | nil => rfl
  | cons f r => rw [pre, if_neg (by have := sz_pos f; omega)]
/-- what has less room still is the first ones of what had more -/
theorem pre_pre (a b : Nat) (l : List Fld) : pre a (pre b l) = pre (min a b) l := by
  induction l generalizing a b with
  | nil => simp [pre]
  | cons f r ih =>
    by_cases hb : sz f ≤ b
    · by_cases ha : sz f ≤ a
      · rw [pre, if_pos hb, pre, if_pos ha, pre, if_pos (by omega), ih]
        congr 2
        omega
      · rw [pre, if_pos hb, pre, if_neg ha, pre, if_neg (by omega)]
    · rw [pre, if_neg hb, pre, pre, if_neg (by omega)]
/-- the longest beginning that has room, by its length -/
theorem pre_of_take (room : Nat) (l : List Fld) (n : Nat) (hn : n ≤ l.length) (h1 : szs (l.take n) ≤ room) (h2 : ∀ f, l[n]? = some f → room < szs (l.take n) + sz f) : pre room l = l.take n := by
  induction l generalizing room n with
  | nil => simp [pre]
  | cons f r ih =>
    cases n with
    | zero =>
      have := h2 f rfl
      simp [szs] at this
      rw [pre, if_neg (by omega)]
      rfl
    | succ n =>
      rw [List.take_succ_cons, szs] at h1
      rw [pre, if_pos (by omega), List.take_succ_cons, ih (room - sz f) n (by simpa using hn) (by omega)]
      intro g hg
      have := h2 g (by rw [List.getElem?_cons_succ]; exact hg)
      rw [List.take_succ_cons, szs] at this
      omega
theorem szs_take_mono (l : List Fld) : ∀ a b, a ≤ b → szs (l.take a) ≤ szs (l.take b) := by
  induction l with
  | nil => intro a b _; simp
  | cons f r ih =>
    intro a b hab
    cases a with
    | zero => simp [szs]
    | succ a =>
      cases b with
      | zero => omega
      | succ b =>
        rw [List.take_succ_cons, List.take_succ_cons, szs, szs]
        have := ih a b (by omega)
        omega
theorem szs_take_succ (l : List Fld) (k : Nat) (f : Fld) (h : l[k]? = some f) : szs (l.take (k + 1)) = szs (l.take k) + sz f := by
  obtain ⟨hk, rfl⟩ := List.getElem?_eq_some_iff.1 h
  rw [List.take_succ_eq_append_getElem hk, szs_append, szs, szs]
  rfl
theorem addF_le (h : Nat) (f : Fld) (l : List Fld) : szs (addF h f l) ≤ h := by
  unfold addF
  split
  · rw [szs, sz_plain]; have := pre_le (h - sz f) l; omega
  · simp [szs]
theorem pre_never {l : List Fld} (hl : ∀ f ∈ l, f.nv = false) (room : Nat) : ∀ f ∈ pre room l, f.nv = false := by
  intro f hf
  rw [pre_take] at hf
  exact hl f (List.mem_of_mem_take hf)
theorem addF_never {h : Nat} {f : Fld} {l : List Fld} (hl : ∀ g ∈ l, g.nv = false) : ∀ g ∈ addF h f l, g.nv = false := by
  unfold addF
  split
  · intro g hg
    rcases List.mem_cons.1 hg with rfl | hg
    · rfl
    · exact pre_never hl _ g hg
  · simp
/-- what is put in behind the last one that had no room: the newest first, as many as have room -/
theorem addF_pre (h : Nat) (f : Fld) (l : List Fld) (hf : sz f ≤ h) : addF h f (pre h l) = pre h (f.plain :: l) := by
  rw [addF, if_pos hf, pre_pre, pre, sz_plain, if_pos hf]
  congr 2
  omega
theorem clampI_le (n : Int) : clampI n ≤ 65536 := by
  unfold clampI
  split
  · omega
  · split <;> omega

/-- the first place where p holds -/
def place (p : Fld → Bool) : List Fld → Option Nat
  | [] => none
  | f :: r => if p f then some 0 else (place p r).map (· + 1)
theorem place_some {p : Fld → Bool} : ∀ {l : List Fld} {k : Nat}, place p l = some k → ∃ f, l[k]? = some f ∧ p f = true ∧ ∀ j g, j < k → l[j]? = some g → p g = false
  | [], k, h => by simp [place] at h
  | f :: r, k, h => by
    rw [place] at h
    split at h
    · rename_i hp
      injection h with h
      subst h
      exact ⟨f, rfl, hp, fun j g hj => by omega⟩
    · rename_i hp
      cases hr : place p r with
      | none => rw [hr] at h; cases h
      | some k' =>
        rw [hr] at h
        injection h with h
        subst h
        obtain ⟨g, h1, h2, h3⟩ := place_some hr
        refine ⟨g, by rw [List.getElem?_cons_succ]; exact h1, h2, fun j x hj hx => ?_⟩
        cases j with
        | zero =>
          rw [List.getElem?_cons_zero] at hx
          injection hx with hx
          subst hx
          simpa using hp
        | succ j =>
          rw [List.getElem?_cons_succ] at hx
          exact h3 j x (by simp at hj; omega) hx
theorem place_none {p : Fld → Bool} : ∀ {l : List Fld}, place p l = none → ∀ g ∈ l, p g = false
  | [], _ => by simp
  | f :: r, h => by
    rw [place] at h
    split at h
    · cases h
    · rename_i hp
      intro g hg
      rcases List.mem_cons.1 hg with rfl | hg
      · simpa using hp
      · cases hr : place p r with
        | none => exact place_none hr g hg
        | some k => rw [hr] at h; cases h
def sameB (f g : Fld) : Bool := g.n.toList == f.n.toList && g.v.toList == f.v.toList
def nameB (f g : Fld) : Bool := g.n.toList == f.n.toList
/-- what Find answers -/
def findF (all : List Fld) (f : Fld) : Nat × Bool :=
  match place (sameB f) all with
  | some k => (k + 1, true)
  | none =>
    match place (nameB f) all with
    | some k => (k + 1, false)
    | none => (0, false)
end Go.Tbl
namespace Go.Proofs.YtinieljgcenemaaDoor
open Go.Huf Go.Hin Go.Tbl
set_option linter.unusedVariables false

theorem ba_loop (bs : ByteArray) : ∀ (k i : Nat) (r : List UInt8), bs.size - i = k → ByteArray.toList.loop bs i r = r.reverse ++ bs.data.toList.drop i
  | 0, i, r, h => by
    rw [ByteArray.toList.loop, if_neg (by omega), List.drop_eq_nil_of_le (by simp; omega), List.append_nil]
  | k + 1, i, r, h => by
    have hi : i < bs.data.toList.length := by simp; omega
    rw [ByteArray.toList.loop, if_pos (by omega), ba_loop bs k (i + 1) _ (by omega), List.drop_eq_getElem_cons hi]
    have hg : bs.get! i = bs.data.toList[i] := by
      simp [ByteArray.get!]
      rw [getElem!_pos bs.data i (by simpa using hi)]
    rw [hg]
    simp
theorem ba_toList (bs : ByteArray) : bs.toList = bs.data.toList := by
  rw [ByteArray.toList, ba_loop bs _ 0 [] rfl]
  simp
theorem ba_eq {a b : ByteArray} (h : (a.toList == b.toList) = true) : a = b := by
  have h := eq_of_beq h
  rw [ba_toList, ba_toList] at h
  cases a; cases b
  simp at h
  rw [h]
noncomputable def packT (t : List UInt8) : List UInt8 := Classical.choose (pk_exists _ (enc t) (Nat.le_refl _))
theorem packT_pk (t : List UInt8) : Pk (enc t) (packT t) := Classical.choose_spec (pk_exists _ (enc t) (Nat.le_refl _))
theorem packT_eq {t ys : List UInt8} (h : Pk (enc t) ys) : ys = packT t := h.uniq (packT_pk t)
/-- a text's octets -/
noncomputable def txt (s : ByteArray) : List UInt8 := putT s.data.toList (packT s.data.toList)
/-- a text of octets -/
def ofB (t : List UInt8) : ByteArray := ⟨t.toArray⟩
theorem ofB_data (s : ByteArray) : ofB s.data.toList = s := by cases s; simp [ofB]
def big : Int := 9223372036854775807
theorem getT_txt (s : ByteArray) (hs : s.size ≤ 2147483647) (r : List UInt8) : getT big (txt s ++ r) = .ok s.data.toList (txt s).length :=
  getT_put (packT_pk _) (by simpa using hs) big (by simp [big]; omega) r
/-- the field of an index, the newest of the table behind the static ones -/
def nth (all : List Fld) (i : Nat) : Option Fld := if i = 0 then none else all[i - 1]?
theorem findF_nth {all : List Fld} {f : Fld} {i : Nat} {b : Bool} (h : findF all f = (i, b)) : (i = 0 ∧ b = false) ∨ (0 < i ∧ i ≤ all.length ∧ ∃ g, nth all i = some g ∧ g ∈ all ∧ g.n = f.n ∧ (b = true → g.v = f.v)) := by
  unfold findF at h
  cases h1 : place (sameB f) all with
  | some k =>
    rw [h1] at h
    injection h with h2 h3
    obtain ⟨g, hg, hs, _⟩ := place_some h1
    subst h2
    rw [sameB, Bool.and_eq_true] at hs
    exact .inr ⟨by omega, (List.getElem?_eq_some_iff.1 hg).1, g, by rw [nth, if_neg (by omega)]; exact hg, List.mem_of_getElem? hg, ba_eq hs.1, fun _ => ba_eq hs.2⟩
  | none =>
    rw [h1] at h
    cases h4 : place (nameB f) all with
    | some k =>
      rw [h4] at h
      injection h with h2 h3
      obtain ⟨g, hg, hs, _⟩ := place_some h4
      subst h2 h3
      exact .inr ⟨by omega, (List.getElem?_eq_some_iff.1 hg).1, g, by rw [nth, if_neg (by omega)]; exact hg, List.mem_of_getElem? hg, ba_eq hs, fun e => by cases e⟩
    | none =>
      rw [h4] at h
      injection h with h2 h3
      exact .inl ⟨h2.symm, h3.symm⟩
/-- a field whose value is told -/
noncomputable def litB (first p i : Nat) (f : Fld) : List UInt8 := putB (2 ^ p - 1) (topOf first p) i ++ ((if i = 0 then txt f.n else []) ++ txt f.v)
/-- a field's octets, and the entries behind it -/
noncomputable def oneE (st : List Fld) (h : Nat) (l : List Fld) (f : Fld) : List UInt8 × List Fld :=
  if f.nv then (litB 16 4 (findF (st ++ l) f).1 f, l)
  else if (findF (st ++ l) f).2 then (putB (2 ^ 7 - 1) (topOf 128 7) (findF (st ++ l) f).1, l)
  else if h < sz f then (litB 0 4 (findF (st ++ l) f).1 f, l)
  else (litB 64 6 (findF (st ++ l) f).1 f, addF h f l)
/-- the octets of fields, and the entries behind them -/
noncomputable def manyE (st : List Fld) (h : Nat) : List Fld → List Fld → List UInt8 × List Fld
  | l, [] => ([], l)
  | l, f :: r => ((oneE st h l f).1 ++ (manyE st h (oneE st h l f).2 r).1, (manyE st h (oneE st h l f).2 r).2)
/-- a field whose value is told, read; and how many octets it has -/
def litD (all : List Fld) (p : Nat) (xs : List UInt8) : Option (Fld × Nat) :=
  match getN p xs with
  | .ok i n =>
    if 0 < i then
      match nth all i with
      | some g =>
        match getT big (xs.drop n) with
        | .ok t m => some (⟨g.n, ofB t, false⟩, n + m)
        | .err _ => none
      | none => none
    else
      match getT big (xs.drop n) with
      | .ok s k =>
        match getT big (xs.drop (n + k)) with
        | .ok t m => some (⟨ofB s, ofB t, false⟩, n + k + m)
        | .err _ => none
      | .err _ => none
  | _ => none
/-- a field, read; how many octets it has; the entries behind it -/
def oneD (st : List Fld) (h : Nat) (l : List Fld) (xs : List UInt8) : Option (Fld × Nat × List Fld) :=
  match xs with
  | [] => none
  | x :: _ =>
    if 128 ≤ x.toNat then
      match getN 7 xs with
      | .ok i n => (nth (st ++ l) i).map fun g => (g, n, l)
      | _ => none
    else if 64 ≤ x.toNat then (litD (st ++ l) 6 xs).map fun z => (z.1, z.2, addF h z.1 l)
    else if 32 ≤ x.toNat then none
    else (litD (st ++ l) 4 xs).map fun z => (⟨z.1.n, z.1.v, decide (16 ≤ x.toNat)⟩, z.2, l)
/-- fields, read; the entries behind them (the first number is as long as one goes on) -/
def manyD (st : List Fld) (h : Nat) : Nat → List Fld → List UInt8 → Option (List Fld × List Fld)
  | _, l, [] => some ([], l)
  | 0, _, _ :: _ => none
  | k + 1, l, x :: r =>
    match oneD st h l (x :: r) with
    | some (f, n, l') => (manyD st h k l' ((x :: r).drop n)).map fun z => (f :: z.1, z.2)
    | none => none

theorem litD_litB {all : List Fld} {first p i : Nat} {f : Fld} (hx : first < 256) (hp : p ≤ 8) (hi : i ≤ 2147483647) (hn : f.n.size ≤ 2147483647) (hv : f.v.size ≤ 2147483647)
    (hg : i = 0 ∨ (0 < i ∧ ∃ g, nth all i = some g ∧ g.n = f.n)) (r : List UInt8) :
    litD all p (litB first p i f ++ r) = some (⟨f.n, f.v, false⟩, (litB first p i f).length) := by
  unfold litB litD
  rw [List.append_assoc, getN_put first p i hx hp hi]
  dsimp only
  rcases hg with rfl | ⟨h0, g, hg, he⟩
  · rw [if_neg (by omega), if_pos rfl, List.drop_left, List.append_assoc, getT_txt f.n hn]
    dsimp only
    rw [← List.drop_drop, List.drop_left, List.drop_left, getT_txt f.v hv]
    dsimp only
    rw [ofB_data, ofB_data]
    simp [Nat.add_assoc]
  · rw [if_pos h0, hg, if_neg (by omega), List.drop_left, List.nil_append, getT_txt f.v hv]
    dsimp only
    rw [ofB_data, he]
    simp
theorem put_first (first p i : Nat) (hx : first < 256) (hp : p ≤ 8) (r : List UInt8) : ∃ x q, putB (2 ^ p - 1) (topOf first p) i ++ r = x :: q ∧ x.toNat / 2 ^ p = first / 2 ^ p := by
  obtain ⟨q, hq⟩ := putB_head (2 ^ p - 1) (topOf first p) i
  refine ⟨_, q ++ r, by rw [hq]; rfl, ?_⟩
  rw [UInt8.toNat_ofNat', Nat.mod_eq_of_lt (headB_lt first p i hx hp)]
  exact headB_div _ _ _
/-- what was written is read as it was, and the entries are the same -/
theorem oneD_oneE {st l : List Fld} {h : Nat} {f : Fld} (hst : ∀ g ∈ st ++ l, g.nv = false) (hlen : (st ++ l).length ≤ 2147483647) (hn : f.n.size ≤ 2147483647) (hv : f.v.size ≤ 2147483647) (r : List UInt8) :
    oneD st h l ((oneE st h l f).1 ++ r) = some (f, (oneE st h l f).1.length, (oneE st h l f).2) := by
  obtain ⟨⟨i, b⟩, hf⟩ : ∃ z, findF (st ++ l) f = z := ⟨_, rfl⟩
  have hc := findF_nth hf
  have hi : i ≤ 2147483647 := by rcases hc with ⟨rfl, _⟩ | ⟨_, h1, _⟩ <;> omega
  have hg : i = 0 ∨ (0 < i ∧ ∃ g, nth (st ++ l) i = some g ∧ g.n = f.n) := by
    rcases hc with ⟨rfl, _⟩ | ⟨h0, _, g, h1, _, h2, _⟩
    · exact .inl rfl
    · exact .inr ⟨h0, g, h1, h2⟩
  unfold oneE
  rw [hf]
  dsimp only
  by_cases hnv : f.nv = true
  · rw [if_pos hnv]
    dsimp only
    obtain ⟨x, q, hq, hd⟩ := put_first 16 4 i (by omega) (by omega) (((if i = 0 then txt f.n else []) ++ txt f.v) ++ r)
    have hd : x.toNat / 16 = 1 := hd
    have hl := litD_litB (all := st ++ l) (first := 16) (p := 4) (i := i) (f := f) (by omega) (by omega) hi hn hv hg r
    rw [litB, List.append_assoc, hq] at hl ⊢
    rw [oneD, if_neg (by omega), if_neg (by omega), if_neg (by omega), hl]
    simp only [Option.map_some]
    rw [decide_eq_true (by omega : 16 ≤ x.toNat), ← hnv]
  · have hnv' : f.nv = false := by simpa using hnv
    rw [if_neg hnv]
    have hff : (⟨f.n, f.v, false⟩ : Fld) = f := by rw [← hnv']
    cases b with
    | true =>
      rw [if_pos rfl]
      dsimp only
      rcases hc with ⟨_, h0⟩ | ⟨h0, _, g, h1, hm, h2, h3⟩
      · cases h0
      · obtain ⟨x, q, hq, hd⟩ := put_first 128 7 i (by omega) (by omega) r
        have hd : x.toNat / 128 = 1 := hd
        have hp := getN_put 128 7 i (by omega) (by omega) hi r
        rw [hq] at hp ⊢
        rw [oneD, if_pos (by omega), hp]
        dsimp only
        rw [h1]
        have hgf : g = f := by
          have h4 := hst g hm
          have h3 := h3 rfl
          cases g; cases f
          simp only at h2 h3 h4 hnv'
          rw [h2, h3, h4, hnv']
        rw [hgf]
        rfl
    | false =>
      rw [if_neg (by simp)]
      by_cases hs : h < sz f
      · rw [if_pos hs]
        dsimp only
        obtain ⟨x, q, hq, hd⟩ := put_first 0 4 i (by omega) (by omega) (((if i = 0 then txt f.n else []) ++ txt f.v) ++ r)
        have hd : x.toNat / 16 = 0 := hd
        have hl := litD_litB (all := st ++ l) (first := 0) (p := 4) (i := i) (f := f) (by omega) (by omega) hi hn hv hg r
        rw [litB, List.append_assoc, hq] at hl ⊢
        rw [oneD, if_neg (by omega), if_neg (by omega), if_neg (by omega), hl]
        simp only [Option.map_some]
        rw [decide_eq_false (by omega : ¬ 16 ≤ x.toNat), hff]
      · rw [if_neg hs]
        dsimp only
        obtain ⟨x, q, hq, hd⟩ := put_first 64 6 i (by omega) (by omega) (((if i = 0 then txt f.n else []) ++ txt f.v) ++ r)
        have hd : x.toNat / 64 = 1 := hd
        have hl := litD_litB (all := st ++ l) (first := 64) (p := 6) (i := i) (f := f) (by omega) (by omega) hi hn hv hg r
        rw [litB, List.append_assoc, hq] at hl ⊢
        rw [oneD, if_neg (by omega), if_pos (by omega), hl]
        simp only [Option.map_some]
        rw [hff]
end Go.Proofs.YtinieljgcenemaaDoor
namespace Go.Proofs.YtinieljgcenemaaDoor
open Go.Huf Go.Hin Go.Tbl
set_option linter.unusedVariables false

theorem szs_len : ∀ l : List Fld, 32 * l.length ≤ szs l
  | [] => by simp [szs]
  | f :: r => by
    have := szs_len r
    have := sz_pos f
    rw [szs, List.length_cons]
    omega
/-- what a table keeps -/
structure Ok (st : List Fld) (h : Nat) (l : List Fld) : Prop where
  nv : ∀ g ∈ st ++ l, g.nv = false
  st_len : st.length ≤ 1000
  le : szs l ≤ h
  top : h ≤ 65536
/-- fields whose texts have an end -/
def Smalls (fs : List Fld) : Prop := ∀ f ∈ fs, f.n.size ≤ 2147483647 ∧ f.v.size ≤ 2147483647
section
variable {st l : List Fld} {h : Nat} {f : Fld}
theorem Ok.len (k : Ok st h l) : (st ++ l).length ≤ 3048 := by
  have := szs_len l
  have := k.le
  have := k.top
  have := k.st_len
  rw [List.length_append]
  omega
theorem Ok.add (k : Ok st h l) (f : Fld) : Ok st h (addF h f l) := by
  refine ⟨fun g hg => ?_, k.st_len, addF_le _ _ _, k.top⟩
  rcases List.mem_append.1 hg with hg | hg
  · exact k.nv g (List.mem_append.2 (.inl hg))
  · exact addF_never (fun g hg => k.nv g (List.mem_append.2 (.inr hg))) g hg
theorem Ok.set_ (k : Ok st h l) (m : Nat) (hm : m ≤ 65536) : Ok st m (pre m l) := by
  refine ⟨fun g hg => ?_, k.st_len, pre_le _ _, hm⟩
  rcases List.mem_append.1 hg with hg | hg
  · exact k.nv g (List.mem_append.2 (.inl hg))
  · exact pre_never (fun g hg => k.nv g (List.mem_append.2 (.inr hg))) _ g hg
theorem Ok.one (k : Ok st h l) (f : Fld) : Ok st h (oneE st h l f).2 := by
  unfold oneE
  split
  · exact k
  · split
    · exact k
    · split
      · exact k
      · exact k.add f
theorem Ok.many : ∀ (fs l : List Fld), Ok st h l → Ok st h (manyE st h l fs).2
  | [], l, k => k
  | f :: r, l, k => by rw [manyE]; exact Ok.many r _ (k.one f)
theorem litB_pos (first p i : Nat) (f : Fld) : 2 ≤ (litB first p i f).length := by
  have h1 := putB_pos (2 ^ p - 1) (topOf first p) i
  have h2 : 1 ≤ (txt f.v).length := putT_pos
  unfold litB
  simp only [List.length_append]
  omega
theorem oneE_pos : 1 ≤ (oneE st h l f).1.length := by
  unfold oneE
  split
  · exact Nat.le_trans (by omega) (litB_pos _ _ _ _)
  · split
    · exact putB_pos _ _ _
    · split
      · exact Nat.le_trans (by omega) (litB_pos _ _ _ _)
      · exact Nat.le_trans (by omega) (litB_pos _ _ _ _)
theorem txt_len (s : ByteArray) (hs : s.size ≤ 2147483647) : (txt s).length ≤ 6 + s.size := by
  have := putT_len (t := s.data.toList) (ys := packT s.data.toList) (by simpa using hs)
  simpa [txt] using this
theorem litB_len (first p i : Nat) (f : Fld) (hi : i ≤ 2147483647) (hn : f.n.size ≤ 2147483647) (hv : f.v.size ≤ 2147483647) : (litB first p i f).length ≤ 18 + f.n.size + f.v.size := by
  have h1 := putB_le (2 ^ p - 1) (topOf first p) i hi
  have h2 := txt_len f.n hn
  have h3 := txt_len f.v hv
  unfold litB
  simp only [List.length_append]
  split
  · omega
  · simp only [List.length_nil]; omega
theorem findF_le {all : List Fld} {f : Fld} : (findF all f).1 ≤ all.length := by
  obtain ⟨⟨i, b⟩, hf⟩ : ∃ z, findF all f = z := ⟨_, rfl⟩
  rw [hf]
  rcases findF_nth hf with ⟨rfl, _⟩ | ⟨_, h1, _⟩
  · exact Nat.zero_le _
  · exact h1
theorem oneE_len (k : Ok st h l) (hn : f.n.size ≤ 2147483647) (hv : f.v.size ≤ 2147483647) : (oneE st h l f).1.length ≤ 18 + f.n.size + f.v.size := by
  have hi : (findF (st ++ l) f).1 ≤ 2147483647 := by have := findF_le (all := st ++ l) (f := f); have := k.len; omega
  unfold oneE
  split
  · exact litB_len _ _ _ _ hi hn hv
  · split
    · have := putB_le (2 ^ 7 - 1) (topOf 128 7) _ hi
      dsimp only
      omega
    · split
      · exact litB_len _ _ _ _ hi hn hv
      · exact litB_len _ _ _ _ hi hn hv
/-- a field's first octet is none of an update's -/
theorem oneE_head (r : List UInt8) : ∃ x q, (oneE st h l f).1 ++ r = x :: q ∧ ¬ (32 ≤ x.toNat ∧ x.toNat < 64) := by
  unfold oneE
  split
  · obtain ⟨x, q, hq, hd⟩ := put_first 16 4 (findF (st ++ l) f).1 (by omega) (by omega) (((if (findF (st ++ l) f).1 = 0 then txt f.n else []) ++ txt f.v) ++ r)
    have hd : x.toNat / 16 = 1 := hd
    exact ⟨x, q, by rw [litB, List.append_assoc]; exact hq, by omega⟩
  · split
    · obtain ⟨x, q, hq, hd⟩ := put_first 128 7 (findF (st ++ l) f).1 (by omega) (by omega) r
      have hd : x.toNat / 128 = 1 := hd
      exact ⟨x, q, hq, by omega⟩
    · split
      · obtain ⟨x, q, hq, hd⟩ := put_first 0 4 (findF (st ++ l) f).1 (by omega) (by omega) (((if (findF (st ++ l) f).1 = 0 then txt f.n else []) ++ txt f.v) ++ r)
        have hd : x.toNat / 16 = 0 := hd
        exact ⟨x, q, by rw [litB, List.append_assoc]; exact hq, by omega⟩
      · obtain ⟨x, q, hq, hd⟩ := put_first 64 6 (findF (st ++ l) f).1 (by omega) (by omega) (((if (findF (st ++ l) f).1 = 0 then txt f.n else []) ++ txt f.v) ++ r)
        have hd : x.toNat / 64 = 1 := hd
        exact ⟨x, q, by rw [litB, List.append_assoc]; exact hq, by omega⟩
theorem manyE_append (st : List Fld) (h : Nat) : ∀ (a b l : List Fld), manyE st h l (a ++ b) = ((manyE st h l a).1 ++ (manyE st h (manyE st h l a).2 b).1, (manyE st h (manyE st h l a).2 b).2)
  | [], b, l => by simp [manyE]
  | f :: r, b, l => by
    rw [List.cons_append, manyE, manyE, manyE_append st h r b]
    simp
theorem manyD_step {xs : List UInt8} (hx : xs ≠ []) (k : Nat) : manyD st h (k + 1) l xs = match oneD st h l xs with
    | some (f, n, l') => (manyD st h k l' (xs.drop n)).map fun z => (f :: z.1, z.2)
    | none => none := by
  cases xs with
  | nil => exact absurd rfl hx
  | cons x r =>
    rw [manyD]
    all_goals (cases oneD st h l (x :: r) <;> rfl)
/-- fields that were written are read as they were, and the entries are the same -/
theorem manyD_manyE : ∀ (fs l : List Fld) (k : Nat), Ok st h l → Smalls fs → (manyE st h l fs).1.length ≤ k → manyD st h k l (manyE st h l fs).1 = some (fs, (manyE st h l fs).2)
  | [], l, k, _, _, _ => by
    show manyD st h k l [] = some ([], l)
    cases k <;> rfl
  | f :: r, l, k, ok, hs, hk => by
    have hp := oneE_pos (st := st) (h := h) (l := l) (f := f)
    obtain ⟨hf1, hf2⟩ := hs f (List.mem_cons_self ..)
    rw [manyE] at hk ⊢
    simp only [List.length_append] at hk
    cases k with
    | zero => omega
    | succ k =>
      rw [manyD_step (by intro e; have := congrArg List.length e; simp at this; rw [this.1] at hp; simp at hp), oneD_oneE ok.nv (by have := ok.len; omega) hf1 hf2]
      dsimp only
      rw [List.drop_left, manyD_manyE r _ k (ok.one f) (fun g hg => hs g (List.mem_cons_of_mem _ hg)) (by omega)]
      rfl
/-- fields that are never to stand in a table leave it -/
theorem manyE_never : ∀ (fs l : List Fld), (∀ f ∈ fs, f.nv = true) → (manyE st h l fs).2 = l
  | [], l, _ => rfl
  | f :: r, l, hf => by
    have h1 : (oneE st h l f).2 = l := by rw [oneE, if_pos (hf f (List.mem_cons_self ..))]
    rw [manyE]
    dsimp only
    rw [h1]
    exact manyE_never r l (fun g hg => hf g (List.mem_cons_of_mem _ hg))
end
/-- an update's octets -/
def updB (n : Nat) : List UInt8 := putB (2 ^ 5 - 1) (topOf 32 5) n
/-- what was told behind the last block: the least and the last -/
abbrev Pend := Option (Nat × Nat)
def tell (n : Nat) : Pend → Pend
  | none => some (n, n)
  | some (a, b) => some (min a n, n)
/-- the updates' octets, the Max and the entries behind them -/
def updsE (h : Nat) (l : List Fld) : Pend → List UInt8 × Nat × List Fld
  | none => ([], h, l)
  | some (a, b) => if a < b then (updB a ++ updB b, b, pre b (pre a l)) else (updB b, b, pre b l)
/-- a block; the Max and the entries behind it -/
noncomputable def blockE (st : List Fld) (h : Nat) (l : List Fld) (p : Pend) (fs : List Fld) : List UInt8 × Nat × List Fld :=
  ((updsE h l p).1 ++ (manyE st (updsE h l p).2.1 (updsE h l p).2.2 fs).1, (updsE h l p).2.1, (manyE st (updsE h l p).2.1 (updsE h l p).2.2 fs).2)
/-- is it an update? -/
def isUpd : List UInt8 → Bool
  | [] => false
  | x :: _ => decide (32 ≤ x.toNat ∧ x.toNat < 64)
/-- the updates, read: the Max and the entries behind them, and what is left -/
def updsD (limit : Nat) : Nat → Nat → List Fld → List UInt8 → Option (Nat × List Fld × List UInt8)
  | 0, h, l, xs => if isUpd xs = true then none else some (h, l, xs)
  | k + 1, h, l, xs =>
    if isUpd xs = true then
      match getN 5 xs with
      | .ok v n => if limit < v then none else updsD limit k v (pre v l) (xs.drop n)
      | _ => none
    else some (h, l, xs)
/-- a block, read: its fields, the Max and the entries behind it -/
def blockD (st : List Fld) (limit h : Nat) (l : List Fld) (xs : List UInt8) : Option (List Fld × Nat × List Fld) :=
  match updsD limit xs.length h l xs with
  | some (h', l', r) => if limit < h' then none else (manyD st h' r.length l' r).map fun z => (z.1, h', z.2)
  | none => none
theorem updsD_done {limit k h : Nat} {l : List Fld} {xs : List UInt8} (hx : isUpd xs = false) : updsD limit k h l xs = some (h, l, xs) := by
  cases k <;> rw [updsD, hx] <;> rfl
theorem updsD_one {limit k h n : Nat} {l : List Fld} (r : List UInt8) (hn : n ≤ 2147483647) (hl : n ≤ limit) : updsD limit (k + 1) h l (updB n ++ r) = updsD limit k n (pre n l) r := by
  obtain ⟨x, q, hq, hd⟩ := put_first 32 5 n (by omega) (by omega) r
  have hd : x.toNat / 32 = 1 := hd
  have hp := getN_put 32 5 n (by omega) (by omega) hn r
  have hu : isUpd (updB n ++ r) = true := by rw [updB, hq, isUpd]; exact decide_eq_true (by omega)
  rw [updsD, if_pos hu, updB, hp]
  dsimp only
  rw [if_neg (by omega), List.drop_left]
theorem updsD_high {limit k h n : Nat} {l : List Fld} (r : List UInt8) (hn : n ≤ 2147483647) (hl : limit < n) : updsD limit (k + 1) h l (updB n ++ r) = none := by
  obtain ⟨x, q, hq, hd⟩ := put_first 32 5 n (by omega) (by omega) r
  have hd : x.toNat / 32 = 1 := hd
  have hp := getN_put 32 5 n (by omega) (by omega) hn r
  have hu : isUpd (updB n ++ r) = true := by rw [updB, hq, isUpd]; exact decide_eq_true (by omega)
  rw [updsD, if_pos hu, updB, hp]
  dsimp only
  rw [if_pos hl]
theorem manyE_noUpd (st : List Fld) (h : Nat) (l fs : List Fld) : isUpd (manyE st h l fs).1 = false := by
  cases fs with
  | nil => rfl
  | cons f r =>
    rw [manyE]
    obtain ⟨x, q, hq, hx⟩ := oneE_head (st := st) (h := h) (l := l) (f := f) (manyE st h (oneE st h l f).2 r).1
    dsimp only
    rw [hq, isUpd]
    exact decide_eq_false hx
/-- what is told: the last is the limit that the other end has been told of, the least is no more -/
def PendOk (limit h : Nat) : Pend → Prop
  | none => h ≤ limit
  | some (a, b) => a ≤ b ∧ b = limit ∧ limit ≤ 65536
theorem PendOk.tell {limit h : Nat} {p : Pend} (k : PendOk limit h p) (n : Nat) (hn : n ≤ 65536) : PendOk n h (tell n p) := by
  cases p with
  | none => exact ⟨Nat.le_refl _, rfl, hn⟩
  | some z => exact ⟨Nat.min_le_right _ _, rfl, hn⟩
theorem updB_pos (n : Nat) : 1 ≤ (updB n).length := putB_pos _ _ _
/-- a block of an encoder, read by a decoder that was told the same: its fields, and one table -/
theorem blockD_blockE {st l fs : List Fld} {h limit : Nat} {p : Pend} (ok : Ok st h l) (hs : Smalls fs) (hp : PendOk limit h p) :
    blockD st limit h l (blockE st h l p fs).1 = some (fs, (blockE st h l p fs).2.1, (blockE st h l p fs).2.2) := by
  cases p with
  | none =>
    show blockD st limit h l ([] ++ (manyE st h l fs).1) = some (fs, h, (manyE st h l fs).2)
    rw [List.nil_append, blockD, updsD_done (manyE_noUpd _ _ _ _)]
    dsimp only
    rw [if_neg (by have : h ≤ limit := hp; omega), manyD_manyE fs l _ ok hs (Nat.le_refl _)]
    rfl
  | some z =>
    obtain ⟨a, b⟩ := z
    obtain ⟨h1, rfl, h3⟩ := hp
    have pa := updB_pos a
    have pb := updB_pos b
    by_cases hab : a < b
    · have e : blockE st h l (some (a, b)) fs = ((updB a ++ updB b) ++ (manyE st b (pre b (pre a l)) fs).1, b, (manyE st b (pre b (pre a l)) fs).2) := by
        simp only [blockE, updsE, if_pos hab]
      rw [e, blockD]
      dsimp only
      rw [List.append_assoc]
      obtain ⟨k, hk⟩ : ∃ k, (updB a ++ (updB b ++ (manyE st b (pre b (pre a l)) fs).1)).length = k + 1 + 1 := ⟨(updB a ++ (updB b ++ (manyE st b (pre b (pre a l)) fs).1)).length - 2, by simp only [List.length_append]; omega⟩
      rw [hk, updsD_one _ (by omega) (by omega), updsD_one _ (by omega) (by omega), updsD_done (manyE_noUpd _ _ _ _)]
      dsimp only
      rw [if_neg (by omega), manyD_manyE fs _ _ ((ok.set_ a (by omega)).set_ b h3) hs (Nat.le_refl _)]
      rfl
    · have e : blockE st h l (some (a, b)) fs = (updB b ++ (manyE st b (pre b l) fs).1, b, (manyE st b (pre b l) fs).2) := by
        simp only [blockE, updsE, if_neg hab]
      rw [e, blockD]
      dsimp only
      obtain ⟨k, hk⟩ : ∃ k, (updB b ++ (manyE st b (pre b l) fs).1).length = k + 1 := ⟨(updB b ++ (manyE st b (pre b l) fs).1).length - 1, by simp only [List.length_append]; omega⟩
      rw [hk, updsD_one _ (by omega) (by omega), updsD_done (manyE_noUpd _ _ _ _)]
      dsimp only
      rw [if_neg (by omega), manyD_manyE fs _ _ (ok.set_ b h3) hs (Nat.le_refl _)]
      rfl
end Go.Proofs.YtinieljgcenemaaDoor
namespace Go.Proofs.YtinieljgcenemaaDoor
open Go.Huf Go.Hin Go.Tbl
set_option linter.unusedVariables false

theorem sameB_self (f : Fld) : sameB f f = true := by simp [sameB]
theorem place_append_none {q : Fld → Bool} : ∀ {a : List Fld} (b : List Fld), place q a = none → place q (a ++ b) = (place q b).map (· + a.length)
  | [], b, _ => by cases h : place q b <;> simp [h]
  | f :: r, b, h => by
    rw [place] at h
    rw [List.cons_append, place]
    split at h
    · cases h
    · rename_i hq
      rw [if_neg hq]
      cases hr : place q r with
      | some k => rw [hr] at h; cases h
      | none =>
        rw [place_append_none b hr]
        cases place q b with
        | none => rfl
        | some k => simp [Nat.add_assoc]
theorem place_append_some {q : Fld → Bool} {a : List Fld} {k : Nat} (b : List Fld) (h : place q a = some k) : place q (a ++ b) = some k := by
  induction a generalizing k with
  | nil => cases h
  | cons f r ih =>
    rw [place] at h
    rw [List.cons_append, place]
    split at h
    · rename_i hq
      rw [if_pos hq]
      exact h
    · rename_i hq
      rw [if_neg hq]
      cases hr : place q r with
      | none => rw [hr] at h; cases h
      | some j => rw [hr] at h; rw [ih hr]; exact h
section
variable {st : List Fld} {h : Nat} {f : Fld}
theorem eq_of_same {g : Fld} (hf : f.nv = false) (hg : g.nv = false) (hs : sameB f g = true) : g = f := by
  rw [sameB, Bool.and_eq_true] at hs
  have h1 := ba_eq hs.1
  have h2 := ba_eq hs.2
  cases g; cases f
  simp only at h1 h2 hf hg
  rw [h1, h2, hf, hg]
/-- a field of the static table: an octet, every time -/
theorem short_static (hst : ∀ g ∈ st, g.nv = false) (hl : st.length ≤ 61) (hf : f.nv = false) (hm : f ∈ st) (l : List Fld) : ∃ i, 1 ≤ i ∧ i ≤ 61 ∧ oneE st h l f = ([UInt8.ofNat (128 + i)], l) := by
  cases hp : place (sameB f) st with
  | none =>
    have := place_none hp f hm
    rw [sameB_self] at this
    cases this
  | some k =>
    obtain ⟨g, hg, _⟩ := place_some hp
    have hk := (List.getElem?_eq_some_iff.1 hg).1
    have hF : findF (st ++ l) f = (k + 1, true) := by rw [findF, place_append_some l hp]
    refine ⟨k + 1, by omega, by omega, ?_⟩
    rw [oneE, if_neg (by simp [hf]), hF, if_pos rfl]
    dsimp only
    rw [putB, if_pos (by omega), top_128]
theorem findF_new (hst : ∀ g ∈ st, g.nv = false) (hf : f.nv = false) (hm : ¬ f ∈ st) : (findF (st ++ []) f).2 = false := by
  rw [List.append_nil, findF]
  cases hp : place (sameB f) st with
  | some k =>
    obtain ⟨g, hg, hs, _⟩ := place_some hp
    have hgm := List.mem_of_getElem? hg
    exact absurd (eq_of_same hf (hst g hgm) hs ▸ hgm) hm
  | none =>
    dsimp only
    cases place (nameB f) st <;> rfl
/-- a field that has no room: written out, the same every time -/
theorem short_none (hst : ∀ g ∈ st, g.nv = false) (hf : f.nv = false) (hm : ¬ f ∈ st) (hs : h < sz f) : ∃ L, 2 ≤ L.length ∧ oneE st h [] f = (L, []) := by
  refine ⟨litB 0 4 (findF (st ++ []) f).1 f, litB_pos _ _ _ _, ?_⟩
  rw [oneE, if_neg (by simp [hf]), if_neg (by rw [findF_new hst hf hm]; simp), if_pos hs]
/-- any other: written out, then an octet -/
theorem short_add (hst : ∀ g ∈ st, g.nv = false) (hl : st.length = 61) (hf : f.nv = false) (hm : ¬ f ∈ st) (hs : sz f ≤ h) : (∃ L, 2 ≤ L.length ∧ oneE st h [] f = (L, [f])) ∧ oneE st h [f] f = ([190], [f]) := by
  have hpl : f.plain = f := by cases f; simp only at hf; rw [Fld.plain, hf]
  constructor
  · refine ⟨litB 64 6 (findF (st ++ []) f).1 f, litB_pos _ _ _ _, ?_⟩
    rw [oneE, if_neg (by simp [hf]), if_neg (by rw [findF_new hst hf hm]; simp), if_neg (by omega), addF, if_pos hs, hpl]
    rfl
  · have hp : place (sameB f) st = none := by
      cases hp : place (sameB f) st with
      | none => rfl
      | some k =>
        obtain ⟨g, hg, hs, _⟩ := place_some hp
        have hgm := List.mem_of_getElem? hg
        exact absurd (eq_of_same hf (hst g hgm) hs ▸ hgm) hm
    have hF : findF (st ++ [f]) f = (62, true) := by
      rw [findF, place_append_none [f] hp, place, if_pos (sameB_self f)]
      simp [hl]
    rw [oneE, if_neg (by simp [hf]), hF, if_pos rfl]
    dsimp only
    rw [putB, if_pos (by omega), top_128]
    rfl
end
/-- who was not told: no block, just if there is less room -/
theorem limits_untold {st fs : List Fld} {h limit : Nat} {l : List Fld} (ok : Ok st h l) (hs : Smalls fs) : blockD st limit h l (blockE st h l none fs).1 = if limit < h then none else some (fs, h, (manyE st h l fs).2) := by
  show blockD st limit h l ([] ++ (manyE st h l fs).1) = _
  rw [List.nil_append, blockD, updsD_done (manyE_noUpd _ _ _ _)]
  dsimp only
  rw [manyD_manyE fs l _ ok hs (Nat.le_refl _)]
  rfl
/-- an update above the limit is none -/
theorem limits_high {st fs : List Fld} {h limit n : Nat} {l : List Fld} (hn : n ≤ 65536) (hl : limit < n) : blockD st limit h l (blockE st h l (some (n, n)) fs).1 = none := by
  have pb := updB_pos n
  have e : (blockE st h l (some (n, n)) fs).1 = updB n ++ (manyE st n (pre n l) fs).1 := by simp [blockE, updsE]
  rw [e, blockD]
  obtain ⟨k, hk⟩ : ∃ k, (updB n ++ (manyE st n (pre n l) fs).1).length = k + 1 := ⟨(updB n ++ (manyE st n (pre n l) fs).1).length - 1, by simp only [List.length_append]; omega⟩
  rw [hk, updsD_high _ (by omega) hl]
/-- an update behind a field is none -/
theorem upd_behind {st l : List Fld} {h : Nat} {x : UInt8} {r : List UInt8} (hx : 32 ≤ x.toNat ∧ x.toNat < 64) (k : Nat) : manyD st h k l (x :: r) = none := by
  cases k with
  | zero => rfl
  | succ k => rw [manyD, oneD, if_neg (by omega), if_neg (by omega), if_pos hx.1]
/-! How long what is read may be. -/
theorem decP_len (most : Int) : ∀ (bs : List Bool) (n v : Nat) (acc t : List UInt8), decP most bs n v acc = .ok t → t.length ≤ acc.length + bs.length := by
  intro bs
  induction bs with
  | nil =>
    intro n v acc t h
    rw [decP] at h
    split at h
    · injection h with h; subst h; simp
    · cases h
  | cons b r ih =>
    intro n v acc t h
    rw [decP] at h
    split at h
    · split at h
      · cases h
      · split at h
        · cases h
        · have := ih _ _ _ _ h
          simp at this ⊢
          omega
    · have := ih _ _ _ _ h
      simp at this ⊢
      omega
theorem getT_len {most : Int} {xs t : List UInt8} {n : Nat} (h : getT most xs = .ok t n) : 1 ≤ n ∧ n ≤ xs.length ∧ t.length ≤ 8 * xs.length := by
  cases hg : getN 7 xs with
  | ok size m =>
    rw [getT_ok hg] at h
    obtain ⟨_, _, _, h1, h2, _⟩ := getN_least hg
    split at h
    · cases h
    · have hl : ((xs.drop m).take size).length ≤ xs.length := by rw [List.length_take, List.length_drop]; omega
      split at h
      · injection h with h3 h4
        subst h3 h4
        exact ⟨by omega, by omega, by omega⟩
      · cases hd : dec (bits8 ((xs.drop m).take size)) most with
        | ok t' =>
          rw [hd, decT] at h
          injection h with h3 h4
          subst h3 h4
          have := decP_len most _ 0 0 [] t' hd
          rw [bits8_length] at this
          simp only [List.length_nil] at this
          exact ⟨by omega, by omega, by omega⟩
        | form => rw [hd, decT] at h; cases h
        | long => rw [hd, decT] at h; cases h
  | arg => rw [getT, hg] at h; cases h
  | more => rw [getT, hg] at h; cases h
  | form => rw [getT, hg] at h; cases h
theorem nth_mem {all : List Fld} {i : Nat} {g : Fld} (h : nth all i = some g) : g ∈ all := by
  rw [nth] at h
  split at h
  · cases h
  · exact List.mem_of_getElem? h
theorem litD_len {all : List Fld} {p B : Nat} {xs : List UInt8} {f : Fld} {n : Nat} (hB : ∀ g ∈ all, g.n.size ≤ B) (h : litD all p xs = some (f, n)) : 1 ≤ n ∧ n ≤ xs.length ∧ f.n.size ≤ B + 8 * xs.length ∧ f.v.size ≤ 8 * xs.length ∧ f.nv = false := by
  rw [litD] at h
  cases hg : getN p xs with
  | ok i m =>
    rw [hg] at h
    dsimp only at h
    obtain ⟨_, _, _, h1, h2, _⟩ := getN_least hg
    split at h
    · cases hn : nth all i with
      | none => rw [hn] at h; cases h
      | some g =>
        rw [hn] at h
        dsimp only at h
        cases ht : getT big (xs.drop m) with
        | err e => rw [ht] at h; cases h
        | ok t k =>
          rw [ht] at h
          injection h with h
          injection h with h3 h4
          subst h3 h4
          obtain ⟨a1, a2, a3⟩ := getT_len ht
          rw [List.length_drop] at a2 a3
          have hgB := hB g (nth_mem hn)
          have hs : (ofB t).size = t.length := by simp [ofB, ByteArray.size]
          dsimp only
          exact ⟨by omega, by omega, by omega, by omega, rfl⟩
    · cases ht : getT big (xs.drop m) with
      | err e => rw [ht] at h; cases h
      | ok s k =>
        rw [ht] at h
        dsimp only at h
        obtain ⟨a1, a2, a3⟩ := getT_len ht
        rw [List.length_drop] at a2 a3
        cases hu : getT big (xs.drop (m + k)) with
        | err e => rw [hu] at h; cases h
        | ok t j =>
          rw [hu] at h
          injection h with h
          injection h with h3 h4
          subst h3 h4
          obtain ⟨b1, b2, b3⟩ := getT_len hu
          rw [List.length_drop] at b2 b3
          have hs : (ofB t).size = t.length := by simp [ofB, ByteArray.size]
          have hs2 : (ofB s).size = s.length := by simp [ofB, ByteArray.size]
          dsimp only
          exact ⟨by omega, by omega, by omega, by omega, rfl⟩
  | arg => rw [hg] at h; cases h
  | more => rw [hg] at h; cases h
  | form => rw [hg] at h; cases h
theorem Ok.sizes {st l : List Fld} {h : Nat} (k : Ok st h l) (hst : ∀ g ∈ st, sz g ≤ 65536) : ∀ g ∈ st ++ l, sz g ≤ 65536 := by
  intro g hg
  rcases List.mem_append.1 hg with hg | hg
  · exact hst g hg
  · have h1 := k.le
    have h2 := k.top
    have : ∀ (l : List Fld), g ∈ l → sz g ≤ szs l := by
      intro l hl
      induction l with
      | nil => cases hl
      | cons x r ih =>
        rw [szs]
        rcases List.mem_cons.1 hl with rfl | hl
        · omega
        · have := ih hl; omega
    have := this l hg
    omega
theorem oneD_len {st l l' : List Fld} {h : Nat} {xs : List UInt8} {f : Fld} {n : Nat} (k : Ok st h l) (hst : ∀ g ∈ st, sz g ≤ 65536) (hd : oneD st h l xs = some (f, n, l')) : 1 ≤ n ∧ n ≤ xs.length ∧ sz f ≤ 65568 + 16 * xs.length ∧ Ok st h l' := by
  have hz := k.sizes hst
  have hB : ∀ g ∈ st ++ l, g.n.size ≤ 65536 := fun g hg => by have := hz g hg; unfold sz at this; omega
  cases xs with
  | nil => cases hd
  | cons x r =>
    rw [oneD] at hd
    split at hd
    · cases hg : getN 7 (x :: r) with
      | ok i m =>
        rw [hg] at hd
        obtain ⟨_, _, _, h1, h2, _⟩ := getN_least hg
        dsimp only at hd
        cases hn : nth (st ++ l) i with
        | none => rw [hn] at hd; cases hd
        | some g =>
          rw [hn] at hd
          injection hd with hd
          injection hd with h3 hd
          injection hd with h4 h5
          subst h3 h4 h5
          have := hz g (nth_mem hn)
          exact ⟨h1, h2, by omega, k⟩
      | arg => rw [hg] at hd; cases hd
      | more => rw [hg] at hd; cases hd
      | form => rw [hg] at hd; cases hd
    · split at hd
      · cases hl : litD (st ++ l) 6 (x :: r) with
        | none => rw [hl] at hd; cases hd
        | some z =>
          rw [hl] at hd
          injection hd with hd
          injection hd with h3 hd
          injection hd with h4 h5
          subst h3 h4 h5
          obtain ⟨a1, a2, a3, a4, a5⟩ := litD_len (f := z.1) (n := z.2) hB hl
          exact ⟨a1, a2, by unfold sz; omega, k.add _⟩
      · split at hd
        · cases hd
        · cases hl : litD (st ++ l) 4 (x :: r) with
          | none => rw [hl] at hd; cases hd
          | some z =>
            rw [hl] at hd
            injection hd with hd
            injection hd with h3 hd
            injection hd with h4 h5
            subst h3 h4 h5
            obtain ⟨a1, a2, a3, a4, a5⟩ := litD_len (f := z.1) (n := z.2) hB hl
            exact ⟨a1, a2, by unfold sz; dsimp only; omega, k⟩
theorem manyD_len {st : List Fld} {h N : Nat} (hst : ∀ g ∈ st, sz g ≤ 65536) : ∀ (k : Nat) (l : List Fld) (xs : List UInt8) (fs l' : List Fld), Ok st h l → xs.length ≤ N → manyD st h k l xs = some (fs, l') → fs.length ≤ xs.length ∧ szs fs ≤ xs.length * (65568 + 16 * N) ∧ Ok st h l'
  | k, l, [], fs, l', ok, _, hd => by
    have : some (([] : List Fld), l) = some (fs, l') := by cases k <;> exact hd
    injection this with this
    injection this with h1 h2
    subst h1 h2
    exact ⟨Nat.le_refl _, by simp [szs], ok⟩
  | 0, l, x :: r, fs, l', ok, hN, hd => by cases hd
  | k + 1, l, x :: r, fs, l', ok, hN, hd => by
    rw [manyD] at hd
    cases ho : oneD st h l (x :: r) with
    | none => rw [ho] at hd; cases hd
    | some z =>
      obtain ⟨f, n, l2⟩ := z
      rw [ho] at hd
      dsimp only at hd
      obtain ⟨a1, a2, a3, a4⟩ := oneD_len ok hst ho
      cases hm : manyD st h k l2 ((x :: r).drop n) with
      | none => rw [hm] at hd; cases hd
      | some y =>
        rw [hm] at hd
        injection hd with hd
        injection hd with h1 h2
        subst h1 h2
        have hdl : ((x :: r).drop n).length + n = (x :: r).length := by rw [List.length_drop]; omega
        obtain ⟨b1, b2, b3⟩ := manyD_len (N := N) hst k l2 ((x :: r).drop n) y.1 y.2 a4 (by omega) hm
        refine ⟨by rw [List.length_cons]; omega, ?_, b3⟩
        have h5 : sz f ≤ 65568 + 16 * N := by omega
        have h7 : ((x :: r).drop n).length + 1 ≤ (x :: r).length := by omega
        have h6 : (((x :: r).drop n).length + 1) * (65568 + 16 * N) ≤ (x :: r).length * (65568 + 16 * N) := Nat.mul_le_mul_right _ h7
        rw [Nat.add_mul] at h6
        rw [szs]
        omega
end Go.Proofs.YtinieljgcenemaaDoor
namespace Go.Proofs.YtinieljgcenemaaDoor
open Go.Huf Go.Hin Go.Tbl
set_option linter.unusedVariables false

theorem updsD_ok {st : List Fld} {limit : Nat} (hlim : limit ≤ 65536) : ∀ (k h : Nat) (l : List Fld) (xs : List UInt8) (h' : Nat) (l' : List Fld) (r : List UInt8), Ok st h l → updsD limit k h l xs = some (h', l', r) → Ok st h' l' ∧ r.length ≤ xs.length ∧ isUpd r = false := by
  intro k
  induction k with
  | zero =>
    intro h l xs h' l' r ok e
    rw [updsD] at e
    split at e
    · cases e
    · rename_i hu
      injection e with e
      injection e with e1 e
      injection e with e2 e3
      subst e1 e2 e3
      exact ⟨ok, Nat.le_refl _, by simpa using hu⟩
  | succ k ih =>
    intro h l xs h' l' r ok e
    rw [updsD] at e
    split at e
    · cases hg : getN 5 xs with
      | ok v n =>
        rw [hg] at e
        dsimp only at e
        split at e
        · cases e
        · obtain ⟨a, b, c⟩ := ih v (pre v l) (xs.drop n) h' l' r (ok.set_ v (by omega)) e
          rw [List.length_drop] at b
          exact ⟨a, by omega, c⟩
      | arg => rw [hg] at e; cases e
      | more => rw [hg] at e; cases e
      | form => rw [hg] at e; cases e
    · rename_i hu
      injection e with e
      injection e with e1 e
      injection e with e2 e3
      subst e1 e2 e3
      exact ⟨ok, Nat.le_refl _, by simpa using hu⟩
/-- a block that was read leaves a table, and fields that have an end -/
theorem blockD_ok {st l : List Fld} {limit h N : Nat} {xs : List UInt8} {fs : List Fld} {h' : Nat} {l' : List Fld} (hst : ∀ g ∈ st, sz g ≤ 65536) (ok : Ok st h l) (hlim : limit ≤ 65536) (hN : xs.length ≤ N) (hd : blockD st limit h l xs = some (fs, h', l')) :
    Ok st h' l' ∧ h' ≤ limit ∧ fs.length ≤ xs.length ∧ szs fs ≤ N * (65568 + 16 * N) := by
  rw [blockD] at hd
  cases hu : updsD limit xs.length h l xs with
  | none => rw [hu] at hd; cases hd
  | some z =>
    obtain ⟨h1, l1, r⟩ := z
    rw [hu] at hd
    dsimp only at hd
    obtain ⟨a1, a2, a3⟩ := updsD_ok hlim _ _ _ _ _ _ _ ok hu
    split at hd
    · cases hd
    · rename_i hh
      cases hm : manyD st h1 r.length l1 r with
      | none => rw [hm] at hd; cases hd
      | some y =>
        rw [hm] at hd
        injection hd with hd
        injection hd with e1 hd
        injection hd with e2 e3
        subst e1 e2 e3
        obtain ⟨b1, b2, b3⟩ := manyD_len (N := N) hst r.length l1 r y.1 y.2 a1 (by omega) hm
        exact ⟨b3, by omega, by omega, Nat.le_trans b2 (Nat.mul_le_mul_right _ (by omega))⟩
/-- the least and the last of calls -/
def pend (cs : List Nat) : Pend := cs.foldl (fun p n => tell n p) none
theorem pend_snoc (cs : List Nat) (n : Nat) : pend (cs ++ [n]) = tell n (pend cs) := by simp [pend]
def leastOf : Nat → List Nat → Nat
  | a, [] => a
  | a, n :: r => leastOf (if n < a then n else a) r
theorem leastOf_le : ∀ (cs : List Nat) (a : Nat), leastOf a cs ≤ a
  | [], a => Nat.le_refl _
  | n :: r, a => by
    rw [leastOf]
    refine Nat.le_trans (leastOf_le r _) ?_
    split <;> omega
theorem leastOf_min : ∀ (cs : List Nat) (a b : Nat), leastOf (min a b) cs = min a (leastOf b cs)
  | [], a, b => rfl
  | n :: r, a, b => by
    rw [leastOf, leastOf, ← leastOf_min r]
    congr 1
    split <;> split <;> omega
theorem pend_fold : ∀ (cs : List Nat) (a b : Nat), cs.foldl (fun p n => tell n p) (some (a, b)) = some (leastOf a cs, (b :: cs).getLast (by simp))
  | [], a, b => rfl
  | n :: r, a, b => by
    have e : (b :: n :: r).getLast (by simp) = (n :: r).getLast (by simp) := List.getLast_cons (by simp)
    rw [List.foldl_cons, tell, pend_fold r, leastOf, e, show min a n = (if n < a then n else a) by split <;> omega]
/-- the least, as one looks for it from the last on -/
theorem pend_eq {cs : List Nat} (h : cs ≠ []) : pend cs = some (leastOf (cs.getLast h) cs, cs.getLast h) := by
  cases cs with
  | nil => exact absurd rfl h
  | cons n r =>
    have h1 : pend (n :: r) = some (leastOf n r, (n :: r).getLast (by simp)) := by
      rw [pend, List.foldl_cons, tell]
      exact pend_fold r n n
    rw [h1]
    congr 2
    have hl : ∀ (r : List Nat) (n m : Nat), (n :: r).getLast (by simp) = m → leastOf n r ≤ m := by
      intro r
      induction r with
      | nil => intro n m e; simp at e; subst e; exact Nat.le_refl _
      | cons x r ih =>
        intro n m e
        rw [List.getLast_cons (by simp)] at e
        have h3 := ih x m e
        rw [leastOf]
        split
        · exact h3
        · rename_i hx
          rw [show n = min n x by omega, leastOf_min]
          omega
    have h2 := hl r n _ rfl
    rw [leastOf]
    split
    · rfl
    · rename_i hx
      rw [show (n :: r).getLast h = min ((n :: r).getLast h) n by omega, leastOf_min]
      rw [Nat.min_eq_right h2]
theorem leastOf_snoc (cs : List Nat) (a n : Nat) : leastOf a (cs ++ [n]) = (if n < leastOf a cs then n else leastOf a cs) := by
  induction cs generalizing a with
  | nil => rfl
  | cons x r ih => rw [List.cons_append, leastOf, leastOf, ih]
theorem pend_ok {cs : List Nat} {h limit : Nat} (hl : ∀ n ∈ cs, n ≤ 65536) (h0 : cs = [] → h ≤ limit) (h1 : ∀ (e : cs ≠ []), cs.getLast e = limit) : PendOk limit h (pend cs) := by
  by_cases e : cs = []
  · subst e
    exact h0 rfl
  · rw [pend_eq e, h1 e]
    have := hl _ (List.getLast_mem e)
    rw [h1 e] at this
    exact ⟨leastOf_le _ _, rfl, this⟩
theorem clampI_nat (n : Nat) (h : n ≤ 65536) : clampI (n : Int) = n := by unfold clampI; split <;> (try split) <;> omega
theorem ofB_size (t : List UInt8) : (ofB t).size = t.length := by simp [ofB, ByteArray.size]
theorem ofB_append (a b : List UInt8) : ofB a ++ ofB b = ofB (a ++ b) := by
  apply ByteArray.ext
  simp [ofB]
end Go.Proofs.YtinieljgcenemaaDoor
