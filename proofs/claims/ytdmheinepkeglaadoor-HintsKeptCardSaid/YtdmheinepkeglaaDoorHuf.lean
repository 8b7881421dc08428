/- The code of texts (huffman): its tables, a row of bits, what a row of bits is read as; no condition, and nothing of the program. -/
import Derived.Lib.Hide
namespace Go.Huf

def cntL : List Nat := [0, 0, 0, 0, 0, 10, 26, 32, 6, 0, 5, 3, 2, 6, 2, 3, 0, 0, 0, 3, 8, 13, 26, 29, 12, 4, 15, 19, 29, 0, 4]
def symL : List Nat := [
    48, 49, 50, 97, 99, 101, 105, 111, 115, 116, 32, 37, 45, 46, 47, 51, 52, 53, 54, 55,
    56, 57, 61, 65, 95, 98, 100, 102, 103, 104, 108, 109, 110, 112, 114, 117, 58, 66, 67, 68,
    69, 70, 71, 72, 73, 74, 75, 76, 77, 78, 79, 80, 81, 82, 83, 84, 85, 86, 87, 89,
    106, 107, 113, 118, 119, 120, 121, 122, 38, 42, 44, 59, 88, 90, 33, 34, 40, 41, 63, 39,
    43, 124, 35, 62, 0, 36, 64, 91, 93, 126, 94, 125, 60, 96, 123, 92, 195, 208, 128, 130,
    131, 162, 184, 194, 224, 226, 153, 161, 167, 172, 176, 177, 179, 209, 216, 217, 227, 229, 230, 129,
    132, 133, 134, 136, 146, 154, 156, 160, 163, 164, 169, 170, 173, 178, 181, 185, 186, 187, 189, 190,
    196, 198, 228, 232, 233, 1, 135, 137, 138, 139, 140, 141, 143, 147, 149, 150, 151, 152, 155, 157,
    158, 165, 166, 168, 174, 175, 180, 182, 183, 188, 191, 197, 231, 239, 9, 142, 144, 145, 148, 159,
    171, 206, 215, 225, 236, 237, 199, 207, 234, 235, 192, 193, 200, 201, 202, 205, 210, 213, 218, 219,
    238, 240, 242, 243, 255, 203, 204, 211, 212, 214, 221, 222, 223, 241, 244, 245, 246, 247, 248, 250,
    251, 252, 253, 254, 2, 3, 4, 5, 6, 7, 8, 11, 12, 14, 15, 16, 17, 18, 19, 20,
    21, 23, 24, 25, 26, 27, 28, 29, 30, 31, 127, 220, 249, 10, 13, 22, 256]
/-- of each symbol its code as a number, and how many bits it has -/
def codeL : List (Nat × Nat) := [
    (8184, 13), (8388568, 23), (268435426, 28), (268435427, 28), (268435428, 28), (268435429, 28), (268435430, 28), (268435431, 28), (268435432, 28), (16777194, 24), (1073741820, 30), (268435433, 28),
    (268435434, 28), (1073741821, 30), (268435435, 28), (268435436, 28), (268435437, 28), (268435438, 28), (268435439, 28), (268435440, 28), (268435441, 28), (268435442, 28), (1073741822, 30), (268435443, 28),
    (268435444, 28), (268435445, 28), (268435446, 28), (268435447, 28), (268435448, 28), (268435449, 28), (268435450, 28), (268435451, 28), (20, 6), (1016, 10), (1017, 10), (4090, 12),
    (8185, 13), (21, 6), (248, 8), (2042, 11), (1018, 10), (1019, 10), (249, 8), (2043, 11), (250, 8), (22, 6), (23, 6), (24, 6),
    (0, 5), (1, 5), (2, 5), (25, 6), (26, 6), (27, 6), (28, 6), (29, 6), (30, 6), (31, 6), (92, 7), (251, 8),
    (32764, 15), (32, 6), (4091, 12), (1020, 10), (8186, 13), (33, 6), (93, 7), (94, 7), (95, 7), (96, 7), (97, 7), (98, 7),
    (99, 7), (100, 7), (101, 7), (102, 7), (103, 7), (104, 7), (105, 7), (106, 7), (107, 7), (108, 7), (109, 7), (110, 7),
    (111, 7), (112, 7), (113, 7), (114, 7), (252, 8), (115, 7), (253, 8), (8187, 13), (524272, 19), (8188, 13), (16380, 14), (34, 6),
    (32765, 15), (3, 5), (35, 6), (4, 5), (36, 6), (5, 5), (37, 6), (38, 6), (39, 6), (6, 5), (116, 7), (117, 7),
    (40, 6), (41, 6), (42, 6), (7, 5), (43, 6), (118, 7), (44, 6), (8, 5), (9, 5), (45, 6), (119, 7), (120, 7),
    (121, 7), (122, 7), (123, 7), (32766, 15), (2044, 11), (16381, 14), (8189, 13), (268435452, 28), (1048550, 20), (4194258, 22), (1048551, 20), (1048552, 20),
    (4194259, 22), (4194260, 22), (4194261, 22), (8388569, 23), (4194262, 22), (8388570, 23), (8388571, 23), (8388572, 23), (8388573, 23), (8388574, 23), (16777195, 24), (8388575, 23),
    (16777196, 24), (16777197, 24), (4194263, 22), (8388576, 23), (16777198, 24), (8388577, 23), (8388578, 23), (8388579, 23), (8388580, 23), (2097116, 21), (4194264, 22), (8388581, 23),
    (4194265, 22), (8388582, 23), (8388583, 23), (16777199, 24), (4194266, 22), (2097117, 21), (1048553, 20), (4194267, 22), (4194268, 22), (8388584, 23), (8388585, 23), (2097118, 21),
    (8388586, 23), (4194269, 22), (4194270, 22), (16777200, 24), (2097119, 21), (4194271, 22), (8388587, 23), (8388588, 23), (2097120, 21), (2097121, 21), (4194272, 22), (2097122, 21),
    (8388589, 23), (4194273, 22), (8388590, 23), (8388591, 23), (1048554, 20), (4194274, 22), (4194275, 22), (4194276, 22), (8388592, 23), (4194277, 22), (4194278, 22), (8388593, 23),
    (67108832, 26), (67108833, 26), (1048555, 20), (524273, 19), (4194279, 22), (8388594, 23), (4194280, 22), (33554412, 25), (67108834, 26), (67108835, 26), (67108836, 26), (134217694, 27),
    (134217695, 27), (67108837, 26), (16777201, 24), (33554413, 25), (524274, 19), (2097123, 21), (67108838, 26), (134217696, 27), (134217697, 27), (67108839, 26), (134217698, 27), (16777202, 24),
    (2097124, 21), (2097125, 21), (67108840, 26), (67108841, 26), (268435453, 28), (134217699, 27), (134217700, 27), (134217701, 27), (1048556, 20), (16777203, 24), (1048557, 20), (2097126, 21),
    (4194281, 22), (2097127, 21), (2097128, 21), (8388595, 23), (4194282, 22), (4194283, 22), (33554414, 25), (33554415, 25), (16777204, 24), (16777205, 24), (67108842, 26), (8388596, 23),
    (67108843, 26), (134217702, 27), (67108844, 26), (67108845, 26), (134217703, 27), (134217704, 27), (134217705, 27), (134217706, 27), (134217707, 27), (268435454, 28), (134217708, 27), (134217709, 27),
    (134217710, 27), (134217711, 27), (134217712, 27), (67108846, 26), (1073741823, 30)]

def cnt (n : Nat) : Nat := cntL.getD n 0
def sym (p : Nat) : Nat := symL.getD p 0
def code (s : Nat) : Nat × Nat := codeL.getD s (0, 0)
/-- the first code of length n -/
def frst : Nat → Nat
  | 0 => 0
  | n + 1 => 2 * (frst n + cnt n)
/-- the place of that code's symbol -/
def strt : Nat → Nat
  | 0 => 0
  | n + 1 => strt n + cnt n

theorem sym_code : ∀ n, n < 31 → ∀ j, j < cnt n → code (sym (strt n + j)) = (frst n + j, n) ∧ sym (strt n + j) ≤ 256 ∧ strt n + j < 257 := by decide +kernel
theorem code_sym : ∀ s, s < 257 → frst (code s).2 ≤ (code s).1 ∧ (code s).1 < frst (code s).2 + cnt (code s).2 ∧ sym (strt (code s).2 + ((code s).1 - frst (code s).2)) = s ∧ 5 ≤ (code s).2 ∧ (code s).2 ≤ 30 := by decide +kernel
theorem code_ones : ∀ s, s < 257 → (code s).1 + 1 = 2 ^ (code s).2 → 15 < (code s).2 := by decide +kernel
theorem frst_le : ∀ n, n < 31 → frst n + cnt n ≤ 2 ^ n := by decide +kernel
theorem last_ : frst 30 + cnt 30 = 2 ^ 30 := by decide +kernel
theorem code_lt (s : Nat) (h : s < 257) : (code s).1 < 2 ^ (code s).2 := by
  have h1 := code_sym s h
  have h2 := frst_le (code s).2 (by omega)
  omega
theorem eos_ : (code 256).2 = 30 := by decide +kernel

def numB (l : List Bool) : Nat := l.foldl (fun a b => 2 * a + b.toNat) 0
def bitsN : Nat → Nat → List Bool
  | 0, _ => []
  | n + 1, v => bitsN n (v / 2) ++ [v % 2 == 1]
theorem bitsN_length : ∀ n v, (bitsN n v).length = n
  | 0, _ => rfl
  | n + 1, v => by simp [bitsN, bitsN_length n]
theorem numB_nil : numB [] = 0 := rfl
theorem numB_snoc (l : List Bool) (b : Bool) : numB (l ++ [b]) = 2 * numB l + b.toNat := by simp [numB]
theorem bit_toNat (v : Nat) : (v % 2 == 1).toNat = v % 2 := by
  rcases Nat.mod_two_eq_zero_or_one v with h | h <;> simp [h]
theorem numB_bitsN : ∀ n v, numB (bitsN n v) = v % 2 ^ n
  | 0, v => by simp [bitsN, numB, Nat.mod_one]
  | n + 1, v => by
    rw [bitsN, numB_snoc, numB_bitsN n, bit_toNat, Nat.pow_succ', Nat.mod_mul]
    omega
theorem snoc_ind {P : List Bool → Prop} (h0 : P []) (hs : ∀ l b, P l → P (l ++ [b])) : ∀ l, P l := by
  intro l
  have key : ∀ m : List Bool, P m.reverse := by
    intro m
    induction m with
    | nil => exact h0
    | cons b m ih => rw [List.reverse_cons]; exact hs _ _ ih
  have := key l.reverse
  rwa [List.reverse_reverse] at this
theorem bitsN_snoc (n v : Nat) (b : Bool) : bitsN (n + 1) (2 * v + b.toNat) = bitsN n v ++ [b] := by
  cases b
  · have h1 : (2 * v + 0) / 2 = v := by omega
    have h2 : (2 * v + 0) % 2 = 0 := by omega
    simp only [bitsN, Bool.toNat_false, h1, h2]; rfl
  · have h1 : (2 * v + 1) / 2 = v := by omega
    have h2 : (2 * v + 1) % 2 = 1 := by omega
    simp only [bitsN, Bool.toNat_true, h1, h2]; rfl
theorem bitsN_numB (l : List Bool) : bitsN l.length (numB l) = l := by
  refine snoc_ind (P := fun l => bitsN l.length (numB l) = l) rfl (fun l b ih => ?_) l
  rw [numB_snoc, List.length_append, List.length_singleton, bitsN_snoc, ih]
theorem numB_lt (l : List Bool) : numB l < 2 ^ l.length := by
  refine snoc_ind (P := fun l => numB l < 2 ^ l.length) (by simp [numB]) (fun l b ih => ?_) l
  rw [numB_snoc, List.length_append, List.length_singleton, Nat.pow_succ]
  have : b.toNat ≤ 1 := by cases b <;> simp
  omega
theorem bitsN_add (m : Nat) : ∀ n v, bitsN (m + n) v = bitsN m (v / 2 ^ n) ++ bitsN n v
  | 0, v => by simp [bitsN]
  | n + 1, v => by
    rw [← Nat.add_assoc, bitsN, bitsN_add m n, bitsN, ← List.append_assoc, Nat.div_div_eq_div_mul, Nat.pow_succ' (n := n)]
theorem bitsN_cons (n v : Nat) : bitsN (n + 1) v = (v / 2 ^ n % 2 == 1) :: bitsN n v := by
  rw [Nat.add_comm, bitsN_add]; rfl
theorem bitsN_mod (n v : Nat) : bitsN n (v % 2 ^ n) = bitsN n v := by
  have := bitsN_numB (bitsN n v)
  rwa [numB_bitsN, bitsN_length] at this
theorem bitsN_ones (n : Nat) : bitsN n (2 ^ n - 1) = List.replicate n true := by
  induction n with
  | zero => rfl
  | succ n ih =>
    have hp := Nat.two_pow_pos n
    have h := bitsN_snoc n (2 ^ n - 1) true
    rw [ih] at h
    rw [List.replicate_succ', ← h]
    congr 1
    rw [Nat.pow_succ]; simp; omega
theorem numB_ones (l : List Bool) : numB l + 1 = 2 ^ l.length ↔ ∀ b ∈ l, b = true := by
  refine snoc_ind (P := fun l => numB l + 1 = 2 ^ l.length ↔ ∀ b ∈ l, b = true) (by simp [numB]) (fun l b ih => ?_) l
  have hl := numB_lt l
  rw [numB_snoc, List.length_append, List.length_singleton, Nat.pow_succ]
  simp only [List.mem_append, List.mem_singleton]
  cases b
  · simp only [Bool.toNat_false]
    constructor
    · intro h; omega
    · intro h; have := h false (Or.inr rfl); cases this
  · simp only [Bool.toNat_true]
    constructor
    · rintro h b (hb | rfl)
      · exact (ih.1 (by omega)) b hb
      · rfl
    · intro h
      have := ih.2 (fun b hb => h b (Or.inl hb))
      omega

/-- a symbol's code as bits -/
def cbits (s : Nat) : List Bool := bitsN (code s).2 (code s).1
/-- a text's codes -/
def enc (t : List UInt8) : List Bool := t.flatMap fun b => cbits b.toNat
/-- octets as bits -/
def bits8 (t : List UInt8) : List Bool := t.flatMap fun b => bitsN 8 b.toNat
/-- the octets xs are the bits bs, and ones behind -/
def Pk (bs : List Bool) (xs : List UInt8) : Prop := ∃ k, k < 8 ∧ bits8 xs = bs ++ List.replicate k true

theorem cbits_length (s : Nat) : (cbits s).length = (code s).2 := bitsN_length _ _
theorem enc_nil : enc [] = [] := rfl
theorem enc_cons (b : UInt8) (t : List UInt8) : enc (b :: t) = cbits b.toNat ++ enc t := by simp [enc]
theorem enc_append (t u : List UInt8) : enc (t ++ u) = enc t ++ enc u := by simp [enc]
theorem bits8_append (t u : List UInt8) : bits8 (t ++ u) = bits8 t ++ bits8 u := by simp [bits8]
theorem bits8_cons (b : UInt8) (t : List UInt8) : bits8 (b :: t) = bitsN 8 b.toNat ++ bits8 t := by simp [bits8]
theorem bits8_length (t : List UInt8) : (bits8 t).length = 8 * t.length := by
  induction t with
  | nil => rfl
  | cons b t ih => rw [bits8_cons, List.length_append, bitsN_length, ih, List.length_cons]; omega
theorem bits8_inj : ∀ {xs ys : List UInt8}, bits8 xs = bits8 ys → xs = ys
  | [], [], _ => rfl
  | [], y :: ys, h => by have := congrArg List.length h; simp [bits8_length] at this
  | x :: xs, [], h => by have := congrArg List.length h; simp [bits8_length] at this
  | x :: xs, y :: ys, h => by
    rw [bits8_cons, bits8_cons] at h
    obtain ⟨h1, h2⟩ := List.append_inj h (by simp [bitsN_length])
    have h3 := congrArg numB h1
    rw [numB_bitsN, numB_bitsN] at h3
    have hx := x.toNat_lt
    have hy := y.toNat_lt
    have : x.toNat = y.toNat := by omega
    rw [UInt8.toNat_inj.1 this, bits8_inj h2]
theorem Pk.len {bs : List Bool} {xs : List UInt8} (h : Pk bs xs) : xs.length = (bs.length + 7) / 8 := by
  obtain ⟨k, hk, h⟩ := h
  have := congrArg List.length h
  rw [bits8_length, List.length_append, List.length_replicate] at this
  omega
theorem Pk.uniq {bs : List Bool} {xs ys : List UInt8} (h : Pk bs xs) (h' : Pk bs ys) : xs = ys := by
  have hl := h.len.trans h'.len.symm
  obtain ⟨k, hk, h⟩ := h
  obtain ⟨k', hk', h'⟩ := h'
  have e1 := congrArg List.length h
  have e2 := congrArg List.length h'
  rw [bits8_length, List.length_append, List.length_replicate] at e1 e2
  obtain rfl : k = k' := by omega
  exact bits8_inj (h.trans h'.symm)

/-- what a row of bits is read as -/
inductive R where
  | ok (t : List UInt8)
  | form
  | long
/-- n bits are read, the number v; acc is told -/
def decP (most : Int) : List Bool → Nat → Nat → List UInt8 → R
  | [], n, v, acc => if n < 8 ∧ v + 1 = 2 ^ n then .ok acc else .form
  | b :: r, n, v, acc =>
    if 2 * v + b.toNat < frst (n + 1) + cnt (n + 1) then
      if sym (strt (n + 1) + (2 * v + b.toNat - frst (n + 1))) = 256 then .form
      else if most ≤ acc.length then .long
      else decP most r 0 0 (acc ++ [UInt8.ofNat (sym (strt (n + 1) + (2 * v + b.toNat - frst (n + 1))))])
    else decP most r (n + 1) (2 * v + b.toNat) acc
def dec (bs : List Bool) (most : Int) : R := decP most bs 0 0 []

/-- no code so far -/
def WS (n v : Nat) : Prop := n ≤ 29 ∧ frst n + cnt n ≤ v ∧ v < 2 ^ n
theorem WS.zero : WS 0 0 := ⟨by omega, by decide, by decide⟩
theorem WS.le {n v : Nat} (h : WS n v) (b : Bool) : frst (n + 1) ≤ 2 * v + b.toNat := by
  have := h.2.1
  rw [frst]; omega
theorem WS.lt {n v : Nat} (h : WS n v) (b : Bool) : 2 * v + b.toNat < 2 ^ (n + 1) := by
  have := h.2.2
  have : b.toNat ≤ 1 := by cases b <;> simp
  rw [Nat.pow_succ]; omega
theorem WS.next {n v : Nat} {b : Bool} (h : WS n v) (hn : ¬ 2 * v + b.toNat < frst (n + 1) + cnt (n + 1)) : WS (n + 1) (2 * v + b.toNat) := by
  have h1 := h.lt b
  refine ⟨?_, by omega, h1⟩
  have := h.1
  rcases Nat.lt_or_ge n 29 with hl | hl
  · omega
  · obtain rfl : n = 29 := by omega
    exact absurd (show 2 * v + b.toNat < frst (29 + 1) + cnt (29 + 1) by have h2 : 2 * v + b.toNat < 2 ^ 30 := h1; have := last_; show _ < frst 30 + cnt 30; omega) hn
/-- a code is read: its symbol -/
theorem WS.sym {n v : Nat} {b : Bool} (h : WS n v) (hn : 2 * v + b.toNat < frst (n + 1) + cnt (n + 1)) :
    code (sym (strt (n + 1) + (2 * v + b.toNat - frst (n + 1)))) = (2 * v + b.toNat, n + 1) ∧ sym (strt (n + 1) + (2 * v + b.toNat - frst (n + 1))) ≤ 256 ∧ strt (n + 1) + (2 * v + b.toNat - frst (n + 1)) < 257 := by
  have h1 := h.le b
  have h2 := h.1
  have := sym_code (n + 1) (by omega) (2 * v + b.toNat - frst (n + 1)) (by omega)
  rwa [show frst (n + 1) + (2 * v + b.toNat - frst (n + 1)) = 2 * v + b.toNat by omega] at this
theorem frst_mul (n : Nat) : ∀ k, 1 ≤ k → (frst n + cnt n) * 2 ^ k ≤ frst (n + k)
  | 1, _ => by rw [frst]; omega
  | k + 2, _ => by
    have ih := frst_mul n (k + 1) (by omega)
    rw [show n + (k + 2) = (n + (k + 1)) + 1 from rfl, frst]
    rw [Nat.pow_succ, ← Nat.mul_assoc]
    omega

theorem decP_code_from (most : Int) (s : Nat) (hs : s < 257) (r : List Bool) (acc : List UInt8) : ∀ j, j < (code s).2 →
    decP most (bitsN (j + 1) (code s).1 ++ r) ((code s).2 - (j + 1)) ((code s).1 / 2 ^ (j + 1)) acc = if s = 256 then .form else if most ≤ acc.length then .long else decP most r 0 0 (acc ++ [UInt8.ofNat s]) := by
  obtain ⟨h1, h2, h3, h4, h5⟩ := code_sym s hs
  intro j
  induction j with
  | zero =>
    intro hj
    have e : 2 * ((code s).1 / 2 ^ (0 + 1)) + ((code s).1 / 2 ^ 0 % 2 == 1).toNat = (code s).1 := by
      rw [bit_toNat, Nat.pow_zero, Nat.div_one, Nat.zero_add, Nat.pow_one]; omega
    rw [bitsN_cons, List.cons_append, decP, e, show (code s).2 - (0 + 1) + 1 = (code s).2 by omega, if_pos h2, h3]
    rfl
  | succ j ih =>
    intro hj
    have e : 2 * ((code s).1 / 2 ^ (j + 1 + 1)) + ((code s).1 / 2 ^ (j + 1) % 2 == 1).toNat = (code s).1 / 2 ^ (j + 1) := by
      rw [bit_toNat, Nat.pow_succ 2 (j + 1), ← Nat.div_div_eq_div_mul]; omega
    have hm := frst_mul ((code s).2 - (j + 1)) (j + 1) (by omega)
    rw [show (code s).2 - (j + 1) + (j + 1) = (code s).2 by omega] at hm
    have hd : frst ((code s).2 - (j + 1)) + cnt ((code s).2 - (j + 1)) ≤ (code s).1 / 2 ^ (j + 1) := by
      rw [Nat.le_div_iff_mul_le (Nat.two_pow_pos _)]; omega
    rw [bitsN_cons, List.cons_append, decP, e, show (code s).2 - (j + 1 + 1) + 1 = (code s).2 - (j + 1) by omega, if_neg (by omega)]
    exact ih (by omega)
theorem decP_code (most : Int) (s : Nat) (hs : s < 257) (r : List Bool) (acc : List UInt8) :
    decP most (cbits s ++ r) 0 0 acc = if s = 256 then .form else if most ≤ acc.length then .long else decP most r 0 0 (acc ++ [UInt8.ofNat s]) := by
  obtain ⟨_, _, _, h4, _⟩ := code_sym s hs
  have h := decP_code_from most s hs r acc ((code s).2 - 1) (by omega)
  rw [show (code s).2 - 1 + 1 = (code s).2 by omega, Nat.sub_self, Nat.div_eq_of_lt (code_lt s hs)] at h
  exact h
theorem cbits_of {s n v : Nat} (h : code s = (v, n)) : cbits s = bitsN n v := by rw [cbits, h]
theorem decP_none_from (most : Int) (acc : List UInt8) : ∀ (r p : List Bool), WS p.length (numB p) → (∀ s, s < 257 → ¬ cbits s <+: p ++ r) →
    decP most r p.length (numB p) acc = if (p ++ r).length < 8 ∧ (∀ b ∈ p ++ r, b = true) then .ok acc else .form
  | [], p, _, _ => by
    rw [decP, List.append_nil]
    simp only [numB_ones]
  | b :: r, p, hw, hn => by
    have hcode : ¬ 2 * numB p + b.toNat < frst (p.length + 1) + cnt (p.length + 1) := by
      intro hlt
      obtain ⟨h1, h2, _⟩ := hw.sym hlt
      generalize sym (strt (p.length + 1) + (2 * numB p + b.toNat - frst (p.length + 1))) = s at h1 h2
      refine hn s (by omega) ⟨r, ?_⟩
      rw [cbits_of h1, bitsN_snoc, bitsN_numB]
      simp
    rw [decP, if_neg hcode]
    have h := decP_none_from most acc r (p ++ [b]) (by rw [numB_snoc, List.length_append]; exact hw.next hcode) (by simpa using hn)
    rw [numB_snoc, List.length_append, List.length_singleton] at h
    rw [h]
    simp
theorem decP_none (most : Int) (acc : List UInt8) (r : List Bool) (h : ∀ s, s < 257 → ¬ cbits s <+: r) :
    decP most r 0 0 acc = if r.length < 8 ∧ (∀ b ∈ r, b = true) then .ok acc else .form := decP_none_from most acc r [] WS.zero h

theorem ofNat_toNat (s : Nat) (h : s < 256) : (UInt8.ofNat s).toNat = s := by simp; omega
/-- what is read was written so -/
theorem decP_ok (most : Int) : ∀ (bs : List Bool) (n v : Nat) (acc out : List UInt8), WS n v → decP most bs n v acc = .ok out → ∃ t k, out = acc ++ t ∧ k < 8 ∧ bitsN n v ++ bs = enc t ++ List.replicate k true
  | [], n, v, acc, out, _, h => by
    rw [decP] at h
    split at h
    · rename_i hc
      injection h with h
      subst h
      refine ⟨[], n, by simp, hc.1, ?_⟩
      rw [enc_nil, List.append_nil, List.nil_append, show v = 2 ^ n - 1 by omega, bitsN_ones]
    · cases h
  | b :: r, n, v, acc, out, hw, h => by
    rw [decP] at h
    split at h
    · rename_i hlt
      obtain ⟨h1, h2, _⟩ := hw.sym hlt
      split at h
      · cases h
      · rename_i h256
        split at h
        · cases h
        · generalize sym (strt (n + 1) + (2 * v + b.toNat - frst (n + 1))) = s at h1 h2 h h256
          obtain ⟨t, k, ht, hk, hb⟩ := decP_ok most r 0 0 _ out WS.zero h
          refine ⟨UInt8.ofNat s :: t, k, ?_, hk, ?_⟩
          · rw [ht, List.append_assoc]; rfl
          · rw [enc_cons, ofNat_toNat _ (by omega), cbits_of h1, bitsN_snoc]
            simp only [bitsN, List.nil_append] at hb
            rw [hb]
            simp
    · rename_i hn
      obtain ⟨t, k, ht, hk, hb⟩ := decP_ok most r (n + 1) _ acc out (hw.next hn) h
      refine ⟨t, k, ht, hk, ?_⟩
      rw [← hb, bitsN_snoc]
      simp
/-- what is written is read -/
theorem decP_enc (most : Int) : ∀ (t : List UInt8) (r : List Bool) (acc : List UInt8), ((acc.length + t.length : Nat) : Int) ≤ most → decP most (enc t ++ r) 0 0 acc = decP most r 0 0 (acc ++ t)
  | [], r, acc, _ => by simp [enc_nil]
  | b :: t, r, acc, h => by
    have hb := b.toNat_lt
    simp only [List.length_cons] at h
    rw [enc_cons, List.append_assoc, decP_code most b.toNat (by omega), if_neg (by omega), if_neg (by omega), decP_enc most t r _ (by simp; omega)]
    simp
theorem decP_long (most : Int) : ∀ (t : List UInt8) (r : List Bool) (acc : List UInt8), most < ((acc.length + t.length : Nat) : Int) → t ≠ [] → decP most (enc t ++ r) 0 0 acc = .long
  | [], _, _, _, h => absurd rfl h
  | b :: t, r, acc, h, _ => by
    have hb := b.toNat_lt
    simp only [List.length_cons] at h
    rw [enc_cons, List.append_assoc, decP_code most b.toNat (by omega), if_neg (by omega)]
    by_cases hm : most ≤ acc.length
    · rw [if_pos hm]
    · rw [if_neg hm, decP_long most t r _ (by simp; omega) (by rintro rfl; simp at h; omega)]
theorem no_ones (k : Nat) (hk : k ≤ 15) (s : Nat) (hs : s < 257) : ¬ cbits s <+: List.replicate k true := by
  rintro ⟨r, h⟩
  have hl := congrArg List.length h
  rw [List.length_append, cbits_length, List.length_replicate] at hl
  have hc := code_sym s hs
  have ho : ∀ b ∈ cbits s, b = true := fun b hb => by
    have : b ∈ List.replicate k true := by rw [← h]; exact List.mem_append_left _ hb
    exact (List.mem_replicate.1 this).2
  have := (numB_ones (cbits s)).2 ho
  rw [cbits_length, cbits, numB_bitsN, Nat.mod_eq_of_lt (code_lt s hs)] at this
  have := code_ones s hs this
  omega
theorem decP_ones (most : Int) (k : Nat) (hk : k ≤ 15) (acc : List UInt8) : decP most (List.replicate k true) 0 0 acc = if k < 8 then .ok acc else .form := by
  rw [decP_none most acc _ (no_ones k hk)]
  simp
theorem no_short (r : List Bool) (hr : r.length < 5) (s : Nat) (hs : s < 257) : ¬ cbits s <+: r := by
  rintro ⟨q, h⟩
  have hl := congrArg List.length h
  rw [List.length_append, cbits_length] at hl
  have hc := code_sym s hs
  omega
/-- a few bits behind a text, one of them 0: none, or a longer text -/
theorem decP_turned (most : Int) (r : List Bool) (hr : r.length < 8) (hf : false ∈ r) (acc : List UInt8) (hm : (acc.length : Int) < most) :
    decP most r 0 0 acc = .form ∨ ∃ u, decP most r 0 0 acc = .ok u ∧ acc.length < u.length := by
  by_cases h : ∃ s, s < 257 ∧ cbits s <+: r
  · obtain ⟨s, hs, q, rfl⟩ := h
    have hc := code_sym s hs
    rw [List.length_append, cbits_length] at hr
    have h256 : s ≠ 256 := by rintro rfl; have := eos_; omega
    rw [decP_code most s hs, if_neg h256, if_neg (by omega), decP_none most _ q (no_short q (by omega))]
    split
    · exact .inr ⟨_, rfl, by simp⟩
    · exact .inl rfl
  · rw [decP_none most acc r (fun s hs hp => h ⟨s, hs, hp⟩), if_neg]
    · exact .inl rfl
    · rintro ⟨_, ha⟩
      have := ha _ hf
      cases this
theorem enc_le (t : List UInt8) : (enc t).length ≤ 30 * t.length := by
  induction t with
  | nil => simp [enc_nil]
  | cons b t ih =>
    have hb := b.toNat_lt
    have := code_sym b.toNat (by omega)
    rw [enc_cons, List.length_append, cbits_length, List.length_cons]; omega
theorem enc_ge (t : List UInt8) : 5 * t.length ≤ (enc t).length := by
  induction t with
  | nil => simp
  | cons b t ih =>
    have hb := b.toNat_lt
    have := code_sym b.toNat (by omega)
    rw [enc_cons, List.length_append, cbits_length, List.length_cons]; omega
end Go.Huf
