/- The code of texts (huffman): its tables, a row of bits, what a row of bits is read as; no condition, and nothing of the program · Numbers and texts of header blocks in octets: plain mathematics; nothing of the program · Words for memory that all proofs of this seat share: a block that is known whole, a slice that reads as a list, a frame, and laws for the walk (copy, append, a text of bytes). No condition; nothing of the program · The contracts of huffman's tables: symbolsByCode, codes, Code · The contracts of huffman's tables: codes · The contracts of huffman's writers: size, Size, Encode -/
import Derived.Lib.Hide
import Derived.WalkKit
import Derived.WalkSpells
import Derived.WalkLawsBesides
import Derived.Below
import Derived.Laws.CopyOwn
import Derived.Laws.OwnMore
import Derived.Laws.BitsAllLaws
import Derived.Laws.BytesString
import Derived.Laws.BytesArg
import Derived.Maps.AppendAt
import Derived.Deep.AppendLies
import Derived.Deep.Draws
import Derived.RegionTactic
import Derived.OwnWalk
import Derived.ProofKit
import Derived.SizedLaws
import Derived.Test.YtinieljgcenemaaDoorChecked
import Derived.Great.BuildSlice
import Derived.Deep.WholeRow
import Derived.Deep.LoopGhost
import Derived.Deep.QuietTactic
import Derived.BigQuiet
namespace Go.Huf

def cntL : List Nat := [0, 0, 0, 0, 0, 10, 26, 32, 6, 0, 5, 3, 2, 6, 2, 3, 0, 0, 0, 3, 8, 13, 26, 29, 12, 4, 15, 19, 29, 0, 4]
def symL : List Nat := [
    48, 49, 50, 97, 99, 101, 105, 111, 115, 116, 32, 37, 45, 46, 47, 51, 52, 53, 54, 55,
    56, 57, 61, 65, 95, 98, 100, 102, 103, 104, 108, 109, 110, 112, 114, 117, 58, 66, 67, 68,
    69, 70, 71, 72, 73, 74, 75, 76, 77, 78, 79, 80, 81, 82, 83, 84, 85, 86, 87, 89,
    106, 107, 113, 118, 119, 120, 121, 122, 38, 42, 44, 59, 88, 90, 33, 34, 40, 41, 63, 39,
    43, 124, 35, 62, 0, 36, 64, 91, 93, 126, 94, 125, 60, 96, 123, 92, 195, 208, 128, 130,
    131, 162, 184, 194, 224, 226, 153, 161, 167, 172, 176, 177, 179, 209, 216, 217, 227, 229, 230, 129,
    132, 133, 134, 136, 146, 154, 156, 160, 163, 164, 169, 170, 173, 178, 181, 185, 186, 187, 189, 190,
    196, 198, 228, 232, 233, 1, 135, 137, 138, 139, 140, 141, 143, 147, 149, 150, 151, 152, 155, 157,
    158, 165, 166, 168, 174, 175, 180, 182, 183, 188, 191, 197, 231, 239, 9, 142, 144, 145, 148, 159,
    171, 206, 215, 225, 236, 237, 199, 207, 234, 235, 192, 193, 200, 201, 202, 205, 210, 213, 218, 219,
    238, 240, 242, 243, 255, 203, 204, 211, 212, 214, 221, 222, 223, 241, 244, 245, 246, 247, 248, 250,
    251, 252, 253, 254, 2, 3, 4, 5, 6, 7, 8, 11, 12, 14, 15, 16, 17, 18, 19, 20,
    21, 23, 24, 25, 26, 27, 28, 29, 30, 31, 127, 220, 249, 10, 13, 22, 256]
/-- of each symbol its code as a number, and how many bits it has -/
def codeL : List (Nat × Nat) := [
    (8184, 13), (8388568, 23), (268435426, 28), (268435427, 28), (268435428, 28), (268435429, 28), (268435430, 28), (268435431, 28), (268435432, 28), (16777194, 24), (1073741820, 30), (268435433, 28),
    (268435434, 28), (1073741821, 30), (268435435, 28), (268435436, 28), (268435437, 28), (268435438, 28), (268435439, 28), (268435440, 28), (268435441, 28), (268435442, 28), (1073741822, 30), (268435443, 28),
    (268435444, 28), (268435445, 28), (268435446, 28), (268435447, 28), (268435448, 28), (268435449, 28), (268435450, 28), (268435451, 28), (20, 6), (1016, 10), (1017, 10), (4090, 12),
    (8185, 13), (21, 6), (248, 8), (2042, 11), (1018, 10), (1019, 10), (249, 8), (2043, 11), (250, 8), (22, 6), (23, 6), (24, 6),
    (0, 5), (1, 5), (2, 5), (25, 6), (26, 6), (27, 6), (28, 6), (29, 6), (30, 6), (31, 6), (92, 7), (251, 8),
    (32764, 15), (32, 6), (4091, 12), (1020, 10), (8186, 13), (33, 6), (93, 7), (94, 7), (95, 7), (96, 7), (97, 7), (98, 7),
    (99, 7), (100, 7), (101, 7), (102, 7), (103, 7), (104, 7), (105, 7), (106, 7), (107, 7), (108, 7), (109, 7), (110, 7),
    (111, 7), (112, 7), (113, 7), (114, 7), (252, 8), (115, 7), (253, 8), (8187, 13), (524272, 19), (8188, 13), (16380, 14), (34, 6),
    (32765, 15), (3, 5), (35, 6), (4, 5), (36, 6), (5, 5), (37, 6), (38, 6), (39, 6), (6, 5), (116, 7), (117, 7),
    (40, 6), (41, 6), (42, 6), (7, 5), (43, 6), (118, 7), (44, 6), (8, 5), (9, 5), (45, 6), (119, 7), (120, 7),
    (121, 7), (122, 7), (123, 7), (32766, 15), (2044, 11), (16381, 14), (8189, 13), (268435452, 28), (1048550, 20), (4194258, 22), (1048551, 20), (1048552, 20),
    (4194259, 22), (4194260, 22), (4194261, 22), (8388569, 23), (4194262, 22), (8388570, 23), (8388571, 23), (8388572, 23), (8388573, 23), (8388574, 23), (16777195, 24), (8388575, 23),
    (16777196, 24), (16777197, 24), (4194263, 22), (8388576, 23), (16777198, 24), (8388577, 23), (8388578, 23), (8388579, 23), (8388580, 23), (2097116, 21), (4194264, 22), (8388581, 23),
    (4194265, 22), (8388582, 23), (8388583, 23), (16777199, 24), (4194266, 22), (2097117, 21), (1048553, 20), (4194267, 22), (4194268, 22), (8388584, 23), (8388585, 23), (2097118, 21),
    (8388586, 23), (4194269, 22), (4194270, 22), (16777200, 24), (2097119, 21), (4194271, 22), (8388587, 23), (8388588, 23), (2097120, 21), (2097121, 21), (4194272, 22), (2097122, 21),
    (8388589, 23), (4194273, 22), (8388590, 23), (8388591, 23), (1048554, 20), (4194274, 22), (4194275, 22), (4194276, 22), (8388592, 23), (4194277, 22), (4194278, 22), (8388593, 23),
    (67108832, 26), (67108833, 26), (1048555, 20), (524273, 19), (4194279, 22), (8388594, 23), (4194280, 22), (33554412, 25), (67108834, 26), (67108835, 26), (67108836, 26), (134217694, 27),
    (134217695, 27), (67108837, 26), (16777201, 24), (33554413, 25), (524274, 19), (2097123, 21), (67108838, 26), (134217696, 27), (134217697, 27), (67108839, 26), (134217698, 27), (16777202, 24),
    (2097124, 21), (2097125, 21), (67108840, 26), (67108841, 26), (268435453, 28), (134217699, 27), (134217700, 27), (134217701, 27), (1048556, 20), (16777203, 24), (1048557, 20), (2097126, 21),
    (4194281, 22), (2097127, 21), (2097128, 21), (8388595, 23), (4194282, 22), (4194283, 22), (33554414, 25), (33554415, 25), (16777204, 24), (16777205, 24), (67108842, 26), (8388596, 23),
    (67108843, 26), (134217702, 27), (67108844, 26), (67108845, 26), (134217703, 27), (134217704, 27), (134217705, 27), (134217706, 27), (134217707, 27), (268435454, 28), (134217708, 27), (134217709, 27),
    (134217710, 27), (134217711, 27), (134217712, 27), (67108846, 26), (1073741823, 30)]

def cnt (n : Nat) : Nat := cntL.getD n 0
def sym (p : Nat) : Nat := symL.getD p 0
def code (s : Nat) : Nat × Nat := codeL.getD s (0, 0)
/-- the first code of length n -/
def frst : Nat → Nat
  | 0 => 0
  | n + 1 => 2 * (frst n + cnt n)
/-- the place of that code's symbol -/
def strt : Nat → Nat
  | 0 => 0
  | n + 1 => strt n + cnt n

theorem sym_code : ∀ n, n < 31 → ∀ j, j < cnt n → code (sym (strt n + j)) = (frst n + j, n) ∧ sym (strt n + j) ≤ 256 ∧ strt n + j < 257 := by decide +kernel
theorem code_sym : ∀ s, s < 257 → frst (code s).2 ≤ (code s).1 ∧ (code s).1 < frst (code s).2 + cnt (code s).2 ∧ sym (strt (code s).2 + ((code s).1 - frst (code s).2)) = s ∧ 5 ≤ (code s).2 ∧ (code s).2 ≤ 30 := by decide +kernel
theorem code_ones : ∀ s, s < 257 → (code s).1 + 1 = 2 ^ (code s).2 → 15 < (code s).2 := by decide +kernel
theorem frst_le : ∀ n, n < 31 → frst n + cnt n ≤ 2 ^ n := by decide +kernel
theorem last_ : frst 30 + cnt 30 = 2 ^ 30 := by decide +kernel
theorem code_lt (s : Nat) (h : s < 257) : (code s).1 < 2 ^ (code s).2 := by
  have h1 := code_sym s h
  have h2 := frst_le (code s).2 (by omega)
  omega
theorem eos_ : (code 256).2 = 30 := by decide +kernel

def numB (l : List Bool) : Nat := l.foldl (fun a b => 2 * a + b.toNat) 0
def bitsN : Nat → Nat → List Bool
  | 0, _ => []
  | n + 1, v => bitsN n (v / 2) ++ [v % 2 == 1]
theorem bitsN_length : ∀ n v, (bitsN n v).length = n
  | 0, _ => rfl
  | n + 1, v => by simp [bitsN, bitsN_length n]
theorem numB_nil : numB [] = 0 := rfl
theorem numB_snoc (l : List Bool) (b : Bool) : numB (l ++ [b]) = 2 * numB l + b.toNat := by simp [numB]
theorem bit_toNat (v : Nat) : (v % 2 == 1).toNat = v % 2 := by
  rcases Nat.mod_two_eq_zero_or_one v with h | h <;> simp [h]
theorem numB_bitsN : ∀ n v, numB (bitsN n v) = v % 2 ^ n
  | 0, v => by simp [bitsN, numB, Nat.mod_one]
  | n + 1, v => by
    rw [bitsN, numB_snoc, numB_bitsN n, bit_toNat, Nat.pow_succ', Nat.mod_mul]
    omega
theorem snoc_ind {P : List Bool → Prop} (h0 : P []) (hs : ∀ l b, P l → P (l ++ [b])) : ∀ l, P l := by
  intro l
  have key : ∀ m : List Bool, P m.reverse := by
    intro m
    induction m with
    | nil => exact h0
    | cons b m ih => rw [List.reverse_cons]; exact hs _ _ ih
  have := key l.reverse
  rwa [List.reverse_reverse] at this
theorem bitsN_snoc (n v : Nat) (b : Bool) : bitsN (n + 1) (2 * v + b.toNat) = bitsN n v ++ [b] := by
  cases b
  · have h1 : (2 * v + 0) / 2 = v := by omega
    have h2 : (2 * v + 0) % 2 = 0 := by omega
    simp only [bitsN, Bool.toNat_false, h1, h2]; rfl
  · have h1 : (2 * v + 1) / 2 = v := by omega
    have h2 : (2 * v + 1) % 2 = 1 := by omega
    simp only [bitsN, Bool.toNat_true, h1, h2]; rfl
theorem bitsN_numB (l : List Bool) : bitsN l.length (numB l) = l := by
  refine snoc_ind (P := fun l => bitsN l.length (numB l) = l) rfl (fun l b ih => ?_) l
  rw [numB_snoc, List.length_append, List.length_singleton, bitsN_snoc, ih]
theorem numB_lt (l : List Bool) : numB l < 2 ^ l.length := by
  refine snoc_ind (P := fun l => numB l < 2 ^ l.length) (by simp [numB]) (fun l b ih => ?_) l
  rw [numB_snoc, List.length_append, List.length_singleton, Nat.pow_succ]
  have : b.toNat ≤ 1 := by cases b <;> simp
  omega
theorem bitsN_add (m : Nat) : ∀ n v, bitsN (m + n) v = bitsN m (v / 2 ^ n) ++ bitsN n v
  | 0, v => by simp [bitsN]
  | n + 1, v => by
    rw [← Nat.add_assoc, bitsN, bitsN_add m n, bitsN, ← List.append_assoc, Nat.div_div_eq_div_mul, Nat.pow_succ' (n := n)]
theorem bitsN_cons (n v : Nat) : bitsN (n + 1) v = (v / 2 ^ n % 2 == 1) :: bitsN n v := by
  rw [Nat.add_comm, bitsN_add]; rfl
theorem bitsN_mod (n v : Nat) : bitsN n (v % 2 ^ n) = bitsN n v := by
  have := bitsN_numB (bitsN n v)
  rwa [numB_bitsN, bitsN_length] at this
theorem bitsN_ones (n : Nat) : bitsN n (2 ^ n - 1) = List.replicate n true := by
  induction n with
  | zero => rfl
  | succ n ih =>
    have hp := Nat.two_pow_pos n
    have h := bitsN_snoc n (2 ^ n - 1) true
    rw [ih] at h
    rw [List.replicate_succ', ← h]
    congr 1
    rw [Nat.pow_succ]; simp; omega
theorem numB_ones (l : List Bool) : numB l + 1 = 2 ^ l.length ↔ ∀ b ∈ l, b = true := by
  refine snoc_ind (P := fun l => numB l + 1 = 2 ^ l.length ↔ ∀ b ∈ l, b = true) (by simp [numB]) (fun l b ih => ?_) l
  have hl := numB_lt l
  rw [numB_snoc, List.length_append, List.length_singleton, Nat.pow_succ]
  simp only [List.mem_append, List.mem_singleton]
  cases b
  · simp only [Bool.toNat_false]
    constructor
    · intro h; omega
    · intro h; have := h false (Or.inr rfl); cases this
  · simp only [Bool.toNat_true]
    constructor
    · rintro h b (hb | rfl)
      · exact (ih.1 (by omega)) b hb
      · rfl
    · intro h
      have := ih.2 (fun b hb => h b (Or.inl hb))
      omega

/-- a symbol's code as bits -/
def cbits (s : Nat) : List Bool := bitsN (code s).2 (code s).1
/-- a text's codes -/
def enc (t : List UInt8) : List Bool := t.flatMap fun b => cbits b.toNat
/-- octets as bits -/
def bits8 (t : List UInt8) : List Bool := t.flatMap fun b => bitsN 8 b.toNat
/-- the octets xs are the bits bs, and ones behind -/
def Pk (bs : List Bool) (xs : List UInt8) : Prop := ∃ k, k < 8 ∧ bits8 xs = bs ++ List.replicate k true

theorem cbits_length (s : Nat) : (cbits s).length = (code s).2 := bitsN_length _ _
theorem enc_nil : enc [] = [] := rfl
theorem enc_cons (b : UInt8) (t : List UInt8) : enc (b :: t) = cbits b.toNat ++ enc t := by simp [enc]
theorem enc_append (t u : List UInt8) : enc (t ++ u) = enc t ++ enc u := by simp [enc]
theorem bits8_append (t u : List UInt8) : bits8 (t ++ u) = bits8 t ++ bits8 u := by simp [bits8]
theorem bits8_cons (b : UInt8) (t : List UInt8) : bits8 (b :: t) = bitsN 8 b.toNat ++ bits8 t := by simp [bits8]
theorem bits8_length (t : List UInt8) : (bits8 t).length = 8 * t.length := by
  induction t with
  | nil => rfl
  | cons b t ih => rw [bits8_cons, List.length_append, bitsN_length, ih, List.length_cons]; omega
theorem bits8_inj : ∀ {xs ys : List UInt8}, bits8 xs = bits8 ys → xs = ys
  | [], [], _ => rfl
  | [], y :: ys, h => by have := congrArg List.length h; simp [bits8_length] at this
  | x :: xs, [], h => by have := congrArg List.length h; simp [bits8_length] at this
  | x :: xs, y :: ys, h => by
    rw [bits8_cons, bits8_cons] at h
    obtain ⟨h1, h2⟩ := List.append_inj h (by simp [bitsN_length])
    have h3 := congrArg numB h1
    rw [numB_bitsN, numB_bitsN] at h3
    have hx := x.toNat_lt
    have hy := y.toNat_lt
    have : x.toNat = y.toNat := by omega
    rw [UInt8.toNat_inj.1 this, bits8_inj h2]
theorem Pk.len {bs : List Bool} {xs : List UInt8} (h : Pk bs xs) : xs.length = (bs.length + 7) / 8 := by
  obtain ⟨k, hk, h⟩ := h
  have := congrArg List.length h
  rw [bits8_length, List.length_append, List.length_replicate] at this
  omega
theorem Pk.uniq {bs : List Bool} {xs ys : List UInt8} (h : Pk bs xs) (h' : Pk bs ys) : xs = ys := by
  have hl := h.len.trans h'.len.symm
  obtain ⟨k, hk, h⟩ := h
  obtain ⟨k', hk', h'⟩ := h'
  have e1 := congrArg List.length h
  have e2 := congrArg List.length h'
  rw [bits8_length, List.length_append, List.length_replicate] at e1 e2
  obtain rfl : k = k' := by omega
  exact bits8_inj (h.trans h'.symm)

/-- what a row of bits is read as -/
inductive R where
  | ok (t : List UInt8)
  | form
  | long
/-- n bits are read, the number v; acc is told -/
def decP (most : Int) : List Bool → Nat → Nat → List UInt8 → R
  | [], n, v, acc => if n < 8 ∧ v + 1 = 2 ^ n then .ok acc else .form
  | b :: r, n, v, acc =>
    if 2 * v + b.toNat < frst (n + 1) + cnt (n + 1) then
      if sym (strt (n + 1) + (2 * v + b.toNat - frst (n + 1))) = 256 then .form
      else if most ≤ acc.length then .long
      else decP most r 0 0 (acc ++ [UInt8.ofNat (sym (strt (n + 1) + (2 * v + b.toNat - frst (n + 1))))])
    else decP most r (n + 1) (2 * v + b.toNat) acc
def dec (bs : List Bool) (most : Int) : R := decP most bs 0 0 []

/-- no code so far -/
def WS (n v : Nat) : Prop := n ≤ 29 ∧ frst n + cnt n ≤ v ∧ v < 2 ^ n
theorem WS.zero : WS 0 0 := ⟨by omega, by decide, by decide⟩
theorem WS.le {n v : Nat} (h : WS n v) (b : Bool) : frst (n + 1) ≤ 2 * v + b.toNat := by
  have := h.2.1
  rw [frst]; omega
theorem WS.lt {n v : Nat} (h : WS n v) (b : Bool) : 2 * v + b.toNat < 2 ^ (n + 1) := by
  have := h.2.2
  have : b.toNat ≤ 1 := by cases b <;> simp
  rw [Nat.pow_succ]; omega
theorem WS.next {n v : Nat} {b : Bool} (h : WS n v) (hn : ¬ 2 * v + b.toNat < frst (n + 1) + cnt (n + 1)) : WS (n + 1) (2 * v + b.toNat) := by
  have h1 := h.lt b
  refine ⟨?_, by omega, h1⟩
  have := h.1
  rcases Nat.lt_or_ge n 29 with hl | hl
  · omega
  · obtain rfl : n = 29 := by omega
    exact absurd (show 2 * v + b.toNat < frst (29 + 1) + cnt (29 + 1) by have h2 : 2 * v + b.toNat < 2 ^ 30 := h1; have := last_; show _ < frst 30 + cnt 30; omega) hn
/-- a code is read: its symbol -/
theorem WS.sym {n v : Nat} {b : Bool} (h : WS n v) (hn : 2 * v + b.toNat < frst (n + 1) + cnt (n + 1)) :
    code (sym (strt (n + 1) + (2 * v + b.toNat - frst (n + 1)))) = (2 * v + b.toNat, n + 1) ∧ sym (strt (n + 1) + (2 * v + b.toNat - frst (n + 1))) ≤ 256 ∧ strt (n + 1) + (2 * v + b.toNat - frst (n + 1)) < 257 := by
  have h1 := h.le b
  have h2 := h.1
  have := sym_code (n + 1) (by omega) (2 * v + b.toNat - frst (n + 1)) (by omega)
  rwa [show frst (n + 1) + (2 * v + b.toNat - frst (n + 1)) = 2 * v + b.toNat by omega] at this
theorem frst_mul (n : Nat) : ∀ k, 1 ≤ k → (frst n + cnt n) * 2 ^ k ≤ frst (n + k)
  | 1, _ => by rw [frst]; omega
  | k + 2, _ => by
    have ih := frst_mul n (k + 1) (by omega)
    rw [show n + (k + 2) = (n + (k + 1)) + 1 from rfl, frst]
    rw [Nat.pow_succ, ← Nat.mul_assoc]
    omega

theorem decP_code_from (most : Int) (s : Nat) (hs : s < 257) (r : List Bool) (acc : List UInt8) : ∀ j, j < (code s).2 →
    decP most (bitsN (j + 1) (code s).1 ++ r) ((code s).2 - (j + 1)) ((code s).1 / 2 ^ (j + 1)) acc = if s = 256 then .form else if most ≤ acc.length then .long else decP most r 0 0 (acc ++ [UInt8.ofNat s]) := by
  obtain ⟨h1, h2, h3, h4, h5⟩ := code_sym s hs
  intro j
  induction j with
  | zero =>
    intro hj
    have e : 2 * ((code s).1 / 2 ^ (0 + 1)) + ((code s).1 / 2 ^ 0 % 2 == 1).toNat = (code s).1 := by
      rw [bit_toNat, Nat.pow_zero, Nat.div_one, Nat.zero_add, Nat.pow_one]; omega
    rw [bitsN_cons, List.cons_append, decP, e, show (code s).2 - (0 + 1) + 1 = (code s).2 by omega, if_pos h2, h3]
    rfl
  | succ j ih =>
    intro hj
    have e : 2 * ((code s).1 / 2 ^ (j + 1 + 1)) + ((code s).1 / 2 ^ (j + 1) % 2 == 1).toNat = (code s).1 / 2 ^ (j + 1) := by
      rw [bit_toNat, Nat.pow_succ 2 (j + 1), ← Nat.div_div_eq_div_mul]; omega
    have hm := frst_mul ((code s).2 - (j + 1)) (j + 1) (by omega)
    rw [show (code s).2 - (j + 1) + (j + 1) = (code s).2 by omega] at hm
    have hd : frst ((code s).2 - (j + 1)) + cnt ((code s).2 - (j + 1)) ≤ (code s).1 / 2 ^ (j + 1) := by
      rw [Nat.le_div_iff_mul_le (Nat.two_pow_pos _)]; omega
    rw [bitsN_cons, List.cons_append, decP, e, show (code s).2 - (j + 1 + 1) + 1 = (code s).2 - (j + 1) by omega, if_neg (by omega)]
    exact ih (by omega)
theorem decP_code (most : Int) (s : Nat) (hs : s < 257) (r : List Bool) (acc : List UInt8) :
    decP most (cbits s ++ r) 0 0 acc = if s = 256 then .form else if most ≤ acc.length then .long else decP most r 0 0 (acc ++ [UInt8.ofNat s]) := by
  obtain ⟨_, _, _, h4, _⟩ := code_sym s hs
  have h := decP_code_from most s hs r acc ((code s).2 - 1) (by omega)
  rw [show (code s).2 - 1 + 1 = (code s).2 by omega, Nat.sub_self, Nat.div_eq_of_lt (code_lt s hs)] at h
  exact h
theorem cbits_of {s n v : Nat} (h : code s = (v, n)) : cbits s = bitsN n v := by rw [cbits, h]
theorem decP_none_from (most : Int) (acc : List UInt8) : ∀ (r p : List Bool), WS p.length (numB p) → (∀ s, s < 257 → ¬ cbits s <+: p ++ r) →
    decP most r p.length (numB p) acc = if (p ++ r).length < 8 ∧ (∀ b ∈ p ++ r, b = true) then .ok acc else .form
  | [], p, _, _ => by
    rw [decP, List.append_nil]
    simp only [numB_ones]
  | b :: r, p, hw, hn => by
    have hcode : ¬ 2 * numB p + b.toNat < frst (p.length + 1) + cnt (p.length + 1) := by
      intro hlt
      obtain ⟨h1, h2, _⟩ := hw.sym hlt
      generalize sym (strt (p.length + 1) + (2 * numB p + b.toNat - frst (p.length + 1))) = s at h1 h2
      refine hn s (by omega) ⟨r, ?_⟩
      rw [cbits_of h1, bitsN_snoc, bitsN_numB]
      simp
    rw [decP, if_neg hcode]
    have h := decP_none_from most acc r (p ++ [b]) (by rw [numB_snoc, List.length_append]; exact hw.next hcode) (by simpa using hn)
    rw [numB_snoc, List.length_append, List.length_singleton] at h
    rw [h]
    simp
theorem decP_none (most : Int) (acc : List UInt8) (r : List Bool) (h : ∀ s, s < 257 → ¬ cbits s <+: r) :
    decP most r 0 0 acc = if r.length < 8 ∧ (∀ b ∈ r, b = true) then .ok acc else .form := decP_none_from most acc r [] WS.zero h

theorem ofNat_toNat (s : Nat) (h : s < 256) : (UInt8.ofNat s).toNat = s := by simp; omega
/-- what is read was written so -/
theorem decP_ok (most : Int) : ∀ (bs : List Bool) (n v : Nat) (acc out : List UInt8), WS n v → decP most bs n v acc = .ok out → ∃ t k, out = acc ++ t ∧ k < 8 ∧ bitsN n v ++ bs = enc t ++ List.replicate k true
  | [], n, v, acc, out, _, h => by
    rw [decP] at h
    split at h
    · rename_i hc
      injection h with h
      subst h
      refine ⟨[], n, by simp, hc.1, ?_⟩
      rw [enc_nil, List.append_nil, List.nil_append, show v = 2 ^ n - 1 by omega, bitsN_ones]
    · cases h
  | b :: r, n, v, acc, out, hw, h => by
    rw [decP] at h
    split at h
    · rename_i hlt
      obtain ⟨h1, h2, _⟩ := hw.sym hlt
      split at h
      · cases h
      · rename_i h256
        split at h
        · cases h
        · generalize sym (strt (n + 1) + (2 * v + b.toNat - frst (n + 1))) = s at h1 h2 h h256
          obtain ⟨t, k, ht, hk, hb⟩ := decP_ok most r 0 0 _ out WS.zero h
          refine ⟨UInt8.ofNat s :: t, k, ?_, hk, ?_⟩
          · rw [ht, List.append_assoc]; rfl
          · rw [enc_cons, ofNat_toNat _ (by omega), cbits_of h1, bitsN_snoc]
            simp only [bitsN, List.nil_append] at hb
            rw [hb]
            simp
    · rename_i hn
      obtain ⟨t, k, ht, hk, hb⟩ := decP_ok most r (n + 1) _ acc out (hw.next hn) h
      refine ⟨t, k, ht, hk, ?_⟩
      rw [← hb, bitsN_snoc]
      simp
/-- what is written is read -/
theorem decP_enc (most : Int) : ∀ (t : List UInt8) (r : List Bool) (acc : List UInt8), ((acc.length + t.length : Nat) : Int) ≤ most → decP most (enc t ++ r) 0 0 acc = decP most r 0 0 (acc ++ t)
  | [], r, acc, _ => by simp [enc_nil]
  | b :: t, r, acc, h => by
    have hb := b.toNat_lt
    simp only [List.length_cons] at h
    rw [enc_cons, List.append_assoc, decP_code most b.toNat (by omega), if_neg (by omega), if_neg (by omega), decP_enc most t r _ (by simp; omega)]
    simp
theorem decP_long (most : Int) : ∀ (t : List UInt8) (r : List Bool) (acc : List UInt8), most < ((acc.length + t.length : Nat) : Int) → t ≠ [] → decP most (enc t ++ r) 0 0 acc = .long
  | [], _, _, _, h => absurd rfl h
  | b :: t, r, acc, h, _ => by
    have hb := b.toNat_lt
    simp only [List.length_cons] at h
    rw [enc_cons, List.append_assoc, decP_code most b.toNat (by omega), if_neg (by omega)]
    by_cases hm : most ≤ acc.length
    · rw [if_pos hm]
    · rw [if_neg hm, decP_long most t r _ (by simp; omega) (by rintro rfl; simp at h; omega)]
theorem no_ones (k : Nat) (hk : k ≤ 15) (s : Nat) (hs : s < 257) : ¬ cbits s <+: List.replicate k true := by
  rintro ⟨r, h⟩
  have hl := congrArg List.length h
  rw [List.length_append, cbits_length, List.length_replicate] at hl
  have hc := code_sym s hs
  have ho : ∀ b ∈ cbits s, b = true := fun b hb => by
    have : b ∈ List.replicate k true := by rw [← h]; exact List.mem_append_left _ hb
    exact (List.mem_replicate.1 this).2
  have := (numB_ones (cbits s)).2 ho
  rw [cbits_length, cbits, numB_bitsN, Nat.mod_eq_of_lt (code_lt s hs)] at this
  have := code_ones s hs this
  omega
theorem decP_ones (most : Int) (k : Nat) (hk : k ≤ 15) (acc : List UInt8) : decP most (List.replicate k true) 0 0 acc = if k < 8 then .ok acc else .form := by
  rw [decP_none most acc _ (no_ones k hk)]
  simp
theorem no_short (r : List Bool) (hr : r.length < 5) (s : Nat) (hs : s < 257) : ¬ cbits s <+: r := by
  rintro ⟨q, h⟩
  have hl := congrArg List.length h
  rw [List.length_append, cbits_length] at hl
  have hc := code_sym s hs
  omega
/-- a few bits behind a text, one of them 0: none, or a longer text -/
theorem decP_turned (most : Int) (r : List Bool) (hr : r.length < 8) (hf : false ∈ r) (acc : List UInt8) (hm : (acc.length : Int) < most) :
    decP most r 0 0 acc = .form ∨ ∃ u, decP most r 0 0 acc = .ok u ∧ acc.length < u.length := by
  by_cases h : ∃ s, s < 257 ∧ cbits s <+: r
  · obtain ⟨s, hs, q, rfl⟩ := h
    have hc := code_sym s hs
    rw [List.length_append, cbits_length] at hr
    have h256 : s ≠ 256 := by rintro rfl; have := eos_; omega
    rw [decP_code most s hs, if_neg h256, if_neg (by omega), decP_none most _ q (no_short q (by omega))]
    split
    · exact .inr ⟨_, rfl, by simp⟩
    · exact .inl rfl
  · rw [decP_none most acc r (fun s hs hp => h ⟨s, hs, hp⟩), if_neg]
    · exact .inl rfl
    · rintro ⟨_, ha⟩
      have := ha _ hf
      cases this
theorem enc_le (t : List UInt8) : (enc t).length ≤ 30 * t.length := by
  induction t with
  | nil => simp [enc_nil]
  | cons b t ih =>
    have hb := b.toNat_lt
    have := code_sym b.toNat (by omega)
    rw [enc_cons, List.length_append, cbits_length, List.length_cons]; omega
theorem enc_ge (t : List UInt8) : 5 * t.length ≤ (enc t).length := by
  induction t with
  | nil => simp
  | cons b t ih =>
    have hb := b.toNat_lt
    have := code_sym b.toNat (by omega)
    rw [enc_cons, List.length_append, cbits_length, List.length_cons]; omega
end Go.Huf
namespace Go.Hin
open Go.Huf

theorem ofn (n : Nat) (h : n < 256) : (UInt8.ofNat n).toNat = n := by
  rw [UInt8.toNat_ofNat']; omega

/-- what is more than the prefix: seven bits an octet, the lowest first -/
def grp (v : Nat) : List UInt8 :=
  if v < 128 then [UInt8.ofNat v] else UInt8.ofNat (v % 128 + 128) :: grp (v / 128)
termination_by v
decreasing_by omega
theorem grp_small {v : Nat} (h : v < 128) : grp v = [UInt8.ofNat v] := by rw [grp, if_pos h]
theorem grp_big {v : Nat} (h : ¬ v < 128) : grp v = UInt8.ofNat (v % 128 + 128) :: grp (v / 128) := by rw [grp, if_neg h]
/-- the octets of a number: m the greatest prefix, top the other bits -/
def putB (m top v : Nat) : List UInt8 := if v < m then [UInt8.ofNat (top + v)] else UInt8.ofNat (top + m) :: grp (v - m)
/-- what octets begin with -/
inductive G where
  | ok (v n : Nat)
  | arg
  | more
  | form
def gbeh : Nat → Nat → List UInt8 → G
  | _, _, [] => .more
  | i, acc, x :: r =>
    if i = 5 then .form
    else if 2147483647 < acc + x.toNat % 128 * 128 ^ i then .form
    else if x.toNat < 128 then .ok (acc + x.toNat % 128 * 128 ^ i) (i + 2)
    else gbeh (i + 1) (acc + x.toNat % 128 * 128 ^ i) r
def getN (p : Nat) : List UInt8 → G
  | [] => .more
  | x :: r => if x.toNat % 2 ^ p < 2 ^ p - 1 then .ok (x.toNat % 2 ^ p) 1 else gbeh 0 (2 ^ p - 1) r
def getI (xs : List UInt8) (p : Int) : G := if 1 ≤ p ∧ p ≤ 8 then getN p.toNat xs else .arg

theorem pow128 (i : Nat) : 128 ^ (i + 1) = 128 * 128 ^ i := by rw [Nat.pow_succ, Nat.mul_comm]
theorem pow_pos128 (i : Nat) : 0 < 128 ^ i := Nat.pow_pos (by omega)
theorem split128 (d i : Nat) : d % 128 * 128 ^ i + d / 128 * 128 ^ (i + 1) = d * 128 ^ i := by
  rw [pow128, ← Nat.mul_assoc, ← Nat.add_mul]
  congr 1
  omega
theorem grp_ne (d : Nat) : grp d ≠ [] := by
  by_cases h : d < 128
  · rw [grp_small h]; simp
  · rw [grp_big h]; simp
theorem grp_pos (d : Nat) : 1 ≤ (grp d).length := List.length_pos_iff.2 (grp_ne d)
theorem grp_le : ∀ (k d : Nat), d < 128 ^ (k + 1) → (grp d).length ≤ k + 1
  | 0, d, h => by rw [grp_small (by simpa using h)]; simp
  | k + 1, d, h => by
    by_cases hs : d < 128
    · rw [grp_small hs]; simp
    · rw [grp_big hs, List.length_cons]
      have := grp_le k (d / 128) (by rw [Nat.div_lt_iff_lt_mul (by omega)]; rw [pow128] at h; omega)
      omega
theorem grp_mono (d' : Nat) : ∀ d, d ≤ d' → (grp d).length ≤ (grp d').length := by
  induction d' using Nat.strongRecOn with
  | _ d' ih =>
    intro d hd
    by_cases hs : d < 128
    · rw [grp_small hs]; exact grp_pos d'
    · rw [grp_big hs, grp_big (by omega : ¬ d' < 128), List.length_cons, List.length_cons]
      have := ih (d' / 128) (by omega) (d / 128) (by omega)
      omega
theorem two_pow_le (p : Nat) (hp : p ≤ 8) : 2 ^ p ≤ 256 := Nat.pow_le_pow_right (n := 2) (by omega) hp
theorem putB_pos (m top v : Nat) : 1 ≤ (putB m top v).length := by
  unfold putB
  split <;> simp
theorem putB_le (m top v : Nat) (hv : v ≤ 2147483647) : (putB m top v).length ≤ 6 := by
  unfold putB
  split
  · simp
  · rw [List.length_cons]
    have := grp_le 4 (v - m) (by omega)
    omega
theorem putB_mono (m top top' v v' : Nat) (h : v ≤ v') : (putB m top v).length ≤ (putB m top' v').length := by
  unfold putB
  split
  · split <;> simp
  · rw [if_neg (by omega), List.length_cons, List.length_cons]
    have := grp_mono (v' - m) (v - m) (by omega)
    omega

/-- the octets behind are read as what they were written for -/
theorem gbeh_grp (r : List UInt8) : ∀ (k i acc d : Nat), i + k = 4 → d < 128 ^ (k + 1) → acc + d * 128 ^ i ≤ 2147483647 → gbeh i acc (grp d ++ r) = .ok (acc + d * 128 ^ i) (i + 1 + (grp d).length)
  | k, i, acc, d, hik, hd, hm => by
    have hx := split128 d i
    by_cases hs : d < 128
    · rw [grp_small hs, List.singleton_append, gbeh, if_neg (by omega), ofn d (by omega), Nat.mod_eq_of_lt hs, if_neg (by omega), if_pos hs]
      rfl
    · match k with
      | 0 => exact absurd (by simpa using hd) hs
      | k + 1 =>
        have h1 : d / 128 < 128 ^ (k + 1) := by rw [Nat.div_lt_iff_lt_mul (by omega)]; rw [pow128] at hd; omega
        rw [grp_big hs, List.cons_append, gbeh, if_neg (by omega), ofn _ (by omega), show (d % 128 + 128) % 128 = d % 128 by omega, if_neg (by omega), if_neg (by omega),
          gbeh_grp r k (i + 1) _ _ (by omega) h1 (by omega), List.length_cons]
        congr 1 <;> omega
theorem gbeh_cut : ∀ (k i acc d j : Nat), i + k = 4 → d < 128 ^ (k + 1) → acc + d * 128 ^ i ≤ 2147483647 → j < (grp d).length → gbeh i acc ((grp d).take j) = .more
  | k, i, acc, d, j, hik, hd, hm, hj => by
    have hx := split128 d i
    match j with
    | 0 => rfl
    | j + 1 =>
      by_cases hs : d < 128
      · rw [grp_small hs] at hj; simp at hj
      · match k with
        | 0 => exact absurd (by simpa using hd) hs
        | k + 1 =>
          have h1 : d / 128 < 128 ^ (k + 1) := by rw [Nat.div_lt_iff_lt_mul (by omega)]; rw [pow128] at hd; omega
          rw [grp_big hs, List.length_cons] at hj
          rw [grp_big hs, List.take_succ_cons, gbeh, if_neg (by omega), ofn _ (by omega), show (d % 128 + 128) % 128 = d % 128 by omega, if_neg (by omega), if_neg (by omega),
            gbeh_cut k (i + 1) _ _ j (by omega) h1 (by omega) (by omega)]
/-- what is read behind is a number of so many octets, and nobody writes it in more -/
theorem gbeh_ok : ∀ (xs : List UInt8) (i acc v n : Nat), gbeh i acc xs = .ok v n → i ≤ 5 → ∃ j d, n = i + 1 + j ∧ 1 ≤ j ∧ j ≤ xs.length ∧ i + j ≤ 5 ∧ v = acc + d * 128 ^ i ∧ v ≤ 2147483647 ∧ (grp d).length ≤ j ∧ ((grp d).length = j → grp d = xs.take j)
  | [], i, acc, v, n, h, _ => by simp [gbeh] at h
  | x :: r, i, acc, v, n, h, hi => by
    have hxl := x.toNat_lt
    rw [gbeh] at h
    split at h
    · cases h
    · split at h
      · cases h
      · split at h
        · rename_i h5 hm hx
          injection h with hv hn
          refine ⟨1, x.toNat, by omega, by omega, by simp, by omega, by rw [← hv, Nat.mod_eq_of_lt hx], by omega, by rw [grp_small hx]; simp, fun _ => ?_⟩
          rw [grp_small hx, List.take_succ_cons, List.take_zero]
          simp
        · rename_i h5 hm hx
          obtain ⟨j, d, hn, hj1, hj2, hj3, hv, hmv, hl, he⟩ := gbeh_ok r (i + 1) _ v n h (by omega)
          have hxd : x.toNat % 128 + 128 = x.toNat := by omega
          have hs := split128 (x.toNat % 128 + 128 * d) i
          rw [show (x.toNat % 128 + 128 * d) % 128 = x.toNat % 128 by omega, show (x.toNat % 128 + 128 * d) / 128 = d by omega] at hs
          refine ⟨j + 1, x.toNat % 128 + 128 * d, by omega, by omega, by simpa using hj2, by omega, by omega, hmv, ?_, ?_⟩
          · by_cases h0 : d = 0
            · rw [grp_small (by omega)]; simp
            · rw [grp_big (by omega), List.length_cons, show (x.toNat % 128 + 128 * d) / 128 = d by omega]
              omega
          · intro hl2
            by_cases h0 : d = 0
            · rw [grp_small (by omega)] at hl2
              simp at hl2
              omega
            · rw [grp_big (by omega), List.length_cons, show (x.toNat % 128 + 128 * d) / 128 = d by omega] at hl2
              rw [grp_big (by omega), show (x.toNat % 128 + 128 * d) / 128 = d by omega, show (x.toNat % 128 + 128 * d) % 128 = x.toNat % 128 by omega, he (by omega), List.take_succ_cons, hxd]
              simp

/-- the other bits of a first octet -/
def topOf (x p : Nat) : Nat := x / 2 ^ p * 2 ^ p
theorem topOf_add (x p : Nat) : topOf x p + x % 2 ^ p = x := by unfold topOf; have := Nat.div_add_mod x (2 ^ p); rw [Nat.mul_comm] at this; omega
theorem topOf_lt (x p : Nat) (hx : x < 256) (hp : p ≤ 8) : topOf x p + (2 ^ p - 1) < 256 := by
  unfold topOf
  have h256 : 2 ^ p * 2 ^ (8 - p) = 256 := by rw [← Nat.pow_add, show p + (8 - p) = 8 by omega]
  have hpos := Nat.two_pow_pos p
  have h1 : x / 2 ^ p < 2 ^ (8 - p) := by rw [Nat.div_lt_iff_lt_mul hpos, Nat.mul_comm, h256]; exact hx
  have h2 : (x / 2 ^ p + 1) * 2 ^ p ≤ 2 ^ (8 - p) * 2 ^ p := Nat.mul_le_mul_right _ h1
  rw [Nat.add_mul, Nat.mul_comm (2 ^ (8 - p)), h256] at h2
  omega
theorem topOf_mod (x p v : Nat) (hv : v < 2 ^ p) : (topOf x p + v) % 2 ^ p = v := by
  unfold topOf
  rw [Nat.add_comm, Nat.add_mul_mod_self_right, Nat.mod_eq_of_lt hv]
theorem topOf_div (x p v : Nat) (hv : v < 2 ^ p) : (topOf x p + v) / 2 ^ p = x / 2 ^ p := by
  unfold topOf
  rw [Nat.add_comm, Nat.add_mul_div_right _ _ (Nat.two_pow_pos p), Nat.div_eq_of_lt hv]
  omega
/-- a number that is written is read as it was -/
theorem getN_put (x p v : Nat) (hx : x < 256) (hp : p ≤ 8) (hv : v ≤ 2147483647) (r : List UInt8) : getN p (putB (2 ^ p - 1) (topOf x p) v ++ r) = .ok v (putB (2 ^ p - 1) (topOf x p) v).length := by
  have ht := topOf_lt x p hx hp
  have hpos := Nat.two_pow_pos p
  unfold putB
  split
  · rename_i h
    rw [List.singleton_append, getN, ofn _ (by omega), topOf_mod x p v (by omega), if_pos h]
    rfl
  · rename_i h
    rw [List.cons_append, getN, ofn _ (by omega), topOf_mod x p (2 ^ p - 1) (by omega), if_neg (by omega), gbeh_grp r 4 0 _ _ rfl (by omega) (by omega), List.length_cons]
    congr 1 <;> omega
theorem getN_cut (x p v i : Nat) (hx : x < 256) (hp : p ≤ 8) (hv : v ≤ 2147483647) (hi : i < (putB (2 ^ p - 1) (topOf x p) v).length) : getN p ((putB (2 ^ p - 1) (topOf x p) v).take i) = .more := by
  have ht := topOf_lt x p hx hp
  have hpos := Nat.two_pow_pos p
  match i with
  | 0 => rfl
  | i + 1 =>
    unfold putB at hi ⊢
    split at hi
    · simp at hi
    · rename_i h
      rw [if_neg h, List.take_succ_cons, getN, ofn _ (by omega), topOf_mod x p (2 ^ p - 1) (by omega), if_neg (by omega)]
      rw [List.length_cons] at hi
      exact gbeh_cut 4 0 _ _ i rfl (by omega) (by omega) (by omega)
/-- the first octet -/
def headB (m top v : Nat) : Nat := if v < m then top + v else top + m
theorem putB_head (m top v : Nat) : ∃ r, putB m top v = UInt8.ofNat (headB m top v) :: r := by
  unfold putB headB
  split
  · exact ⟨_, rfl⟩
  · exact ⟨_, rfl⟩
theorem headB_lt (x p v : Nat) (hx : x < 256) (hp : p ≤ 8) : headB (2 ^ p - 1) (topOf x p) v < 256 := by
  have ht := topOf_lt x p hx hp
  unfold headB
  split <;> omega
theorem headB_div (x p v : Nat) : headB (2 ^ p - 1) (topOf x p) v / 2 ^ p = x / 2 ^ p := by
  have hpos := Nat.two_pow_pos p
  unfold headB
  split <;> exact topOf_div x p _ (by omega)
/-- nobody writes a number shorter -/
theorem getN_least {p : Nat} {xs : List UInt8} {v n : Nat} (h : getN p xs = .ok v n) : ∃ x r, xs = x :: r ∧ 1 ≤ n ∧ n ≤ xs.length ∧ n ≤ 6 ∧ v ≤ 2147483647 := by
  match xs, h with
  | [], h => simp [getN] at h
  | x :: r, h =>
    have hx := x.toNat_lt
    rw [getN] at h
    split at h
    · injection h with hv hn
      have h2 := Nat.two_pow_pos p
      have := Nat.mod_le x.toNat (2 ^ p)
      exact ⟨x, r, rfl, by omega, by simp; omega, by omega, by omega⟩
    · obtain ⟨j, d, hn, hj1, hj2, hj3, hv, hmv, _⟩ := gbeh_ok r 0 _ v n h (by omega)
      exact ⟨x, r, rfl, by omega, by simp; omega, by omega, hmv⟩
theorem put_least {p : Nat} {x : UInt8} {r : List UInt8} {v n : Nat} (h : getN p (x :: r) = .ok v n) :
    (putB (2 ^ p - 1) (topOf x.toNat p) v).length ≤ n ∧ headB (2 ^ p - 1) (topOf x.toNat p) v = x.toNat ∧ ((putB (2 ^ p - 1) (topOf x.toNat p) v).length = n ↔ putB (2 ^ p - 1) (topOf x.toNat p) v = (x :: r).take n) := by
  have hx := x.toNat_lt
  have hpos := Nat.two_pow_pos p
  have hta := topOf_add x.toNat p
  have hlt := Nat.mod_lt x.toNat hpos
  rw [getN] at h
  split at h
  · rename_i hs
    injection h with hv hn
    subst hv hn
    have e : putB (2 ^ p - 1) (topOf x.toNat p) (x.toNat % 2 ^ p) = [x] := by rw [putB, if_pos hs, hta]; simp
    rw [e]
    refine ⟨by simp, by rw [headB, if_pos hs, hta], by simp⟩
  · rename_i hs
    obtain ⟨j, d, hn, hj1, hj2, hj3, hv, hmv, hl, he⟩ := gbeh_ok r 0 _ v n h (by omega)
    rw [Nat.pow_zero, Nat.mul_one] at hv
    have hxe : topOf x.toNat p + (2 ^ p - 1) = x.toNat := by omega
    have e : putB (2 ^ p - 1) (topOf x.toNat p) v = x :: grp d := by
      rw [putB, if_neg (by omega), hxe, show v - (2 ^ p - 1) = d by omega]; simp
    rw [e]
    refine ⟨by rw [List.length_cons]; omega, by rw [headB, if_neg (by omega), hxe], ?_⟩
    subst hn
    rw [show 0 + 1 + j = j + 1 by omega, List.take_succ_cons, List.length_cons]
    constructor
    · intro e2
      rw [he (by omega)]
    · intro e2
      injection e2 with _ e2
      rw [e2, List.length_take]
      omega
end Go.Hin
namespace Go.Own
open Go.RowKit

theorem ret_bool {a b : Bool} (h : a = b) : Ending.returned (.bool a) = .returned (.bool b) := by rw [h]
theorem ret_int {k : IntKind} {a b : Int} (h : a = b) : Ending.returned (.int k a) = .returned (.int k b) := by rw [h]

/-- the value of a byte -/
def BV (b : UInt8) : Value := .int .u8 (b.toNat : Int)
theorem BV_one (xs : List UInt8) : ∀ v ∈ xs.map BV, v.oneCell' = true := by
  intro v hv
  obtain ⟨y, _, rfl⟩ := List.mem_map.1 hv
  rfl

/-- block g holds just the cells cs, of elements of type t -/
def Blk (w : World) (g : Nat) (t : TypeId) (cs : List Value) : Prop := w.heap[g]? = some (.cells cs.toArray t (0, 0))
/-- what S does not name is as it was -/
structure Fr (S : Nat → Prop) (w w' : World) : Prop where
  os : w'.os = w.os
  tape : w'.tape = w.tape
  output : w'.output = w.output
  size : w.heap.size ≤ w'.heap.size
  block : ∀ k, k < w.heap.size → ¬ S k → w'.heap[k]? = w.heap[k]?
/-- the slice A of n elements, of size cells each, reads as the values vs -/
def Rd (w : World) (size : Nat) (A : Option Addr) (n : Nat) (vs : List Value) : Prop :=
  vs.length = n * size ∧ (0 < n → ∃ b o, A = some ⟨b, o, none⟩ ∧ ∀ j v, vs[j]? = some v → w.cell? ⟨b, o + j, none⟩ = some v)

section
variable {w w' w'' : World} {g size n : Nat} {t : TypeId} {cs : List Value} {S S' : Nat → Prop} {A : Option Addr} {vs : List Value}
theorem Blk.lt (h : Blk w g t cs) : g < w.heap.size := by
  rcases Nat.lt_or_ge g w.heap.size with hlt | hge
  · exact hlt
  · unfold Blk at h; rw [Array.getElem?_eq_none hge] at h; cases h
theorem Blk.cell (h : Blk w g t cs) (i : Nat) : w.cell? ⟨g, i, none⟩ = cs[i]? := by
  rw [cell_of_row w g i cs.toArray t (0, 0) h]; simp
theorem Blk.frozen (h : Blk w g t cs) (i : Nat) : w.frozen? ⟨g, i, none⟩ = false := frozen_of_row w g i cs.toArray t h
theorem Blk.new (w : World) (t : TypeId) (cs : List Value) : Blk (w.alloc (.cells cs.toArray t)) w.heap.size t cs := heap_alloc_new w _
theorem Blk.drew (h : Blk w g t cs) : Blk w.drew g t cs := h
theorem Blk.drewN (h : Blk w g t cs) (n : Nat) : Blk (w.drewN n) g t cs := h
theorem Blk.alloc (h : Blk w g t cs) (o : Obj) : Blk (w.alloc o) g t cs := (Below.heap_alloc w o g h.lt).trans h
theorem Blk.set_ (h : Blk w g t cs) (i : Nat) (u : Value) : Blk (w.setCell ⟨g, i, none⟩ u) g t (cs.set i u) := by
  unfold Blk at h ⊢
  simp [World.setCell, Array.getElem?_modify, h]
theorem Blk.far (h : Blk w g t cs) {p : Addr} (hp : g ≠ p.block) (u : Value) : Blk (w.setCell p u) g t cs := (Below.heap_setCell w p u g hp).trans h
theorem Blk.fr (h : Blk w g t cs) (hf : Fr S w w') (hg : ¬ S g) : Blk w' g t cs := (hf.block g h.lt hg).trans h
theorem Blk.below {B : Nat} (h : Blk w g t cs) (hb : Below B w w') (hg : g < B) : Blk w' g t cs := (hb.block g hg).trans h
theorem Blk.ne_ {g' : Nat} {t' : TypeId} {cs' : List Value} (h : Blk w g t cs) (h' : Blk w g' t' cs') (hne : t ≠ t') : g ≠ g' := by
  rintro rfl
  unfold Blk at h h'
  rw [h] at h'
  injection h' with h'
  injection h' with _ ht
  exact hne ht

theorem Fr.refl (S : Nat → Prop) (w : World) : Fr S w w := ⟨rfl, rfl, rfl, Nat.le_refl _, fun _ _ _ => rfl⟩
theorem Fr.trans (h : Fr S w w') (k : Fr S' w' w'') (hs : ∀ i, i < w.heap.size → S' i → S i) : Fr S w w'' :=
  ⟨k.os.trans h.os, k.tape.trans h.tape, k.output.trans h.output, Nat.le_trans h.size k.size, fun i hi hn =>
    (k.block i (Nat.lt_of_lt_of_le hi h.size) (fun hs' => hn (hs i hi hs'))).trans (h.block i hi hn)⟩
theorem Fr.mono (h : Fr S w w') (hs : ∀ i, i < w.heap.size → S i → S' i) : Fr S' w w' :=
  ⟨h.os, h.tape, h.output, h.size, fun i hi hn => h.block i hi (fun x => hn (hs i hi x))⟩
theorem Fr.below {B : Nat} (h : Fr S w w') (hB : B ≤ w.heap.size) (hs : ∀ i, i < w.heap.size → S i → B ≤ i) : Below B w w' :=
  ⟨h.os, h.tape, h.output, h.size, fun k hk => h.block k (by omega) (fun x => by have := hs k (by omega) x; omega)⟩
theorem Fr.of_below {B : Nat} (h : Below B w w') (hs : ∀ i, i < w.heap.size → B ≤ i → S i) : Fr S w w' :=
  ⟨h.os, h.tape, h.output, h.size, fun k hk hn => h.block k (Nat.lt_of_not_le fun x => hn (hs k hk x))⟩
theorem Fr.of_grown {row : Option Nat} (h : w.grownBy w' row) (hs : ∀ i, i < w.heap.size → some i = row → S i) : Fr S w w' :=
  ⟨h.os, h.tape, h.output, h.size, fun k hk hn => h.block k hk (fun e => hn (hs k hk e))⟩
theorem Fr.drew (h : Fr S w w') : Fr S w w'.drew := ⟨h.os, h.tape, h.output, h.size, h.block⟩
theorem Fr.drewN (h : Fr S w w') (n : Nat) : Fr S w (w'.drewN n) := ⟨h.os, h.tape, h.output, h.size, h.block⟩
theorem Fr.alloc (h : Fr S w w') (o : Obj) : Fr S w (w'.alloc o) :=
  ⟨h.os, h.tape, h.output, Nat.le_trans h.size (by simp), fun i hi hn => (Below.heap_alloc w' o i (Nat.lt_of_lt_of_le hi h.size)).trans (h.block i hi hn)⟩
theorem Fr.setCell (h : Fr S w w') {p : Addr} (hp : S p.block ∨ w.heap.size ≤ p.block) (u : Value) : Fr S w (w'.setCell p u) :=
  ⟨h.os, h.tape, h.output, by simpa [World.setCell] using h.size, fun i hi hn => (Below.heap_setCell w' p u i (by
    rintro rfl
    rcases hp with hp | hp
    · exact hn hp
    · omega)).trans (h.block i hi hn)⟩
theorem Fr.cell (h : Fr S w w') {p : Addr} {v : Value} (hc : w.cell? p = some v) (hp : ¬ S p.block) : w'.cell? p = some v :=
  (World.cell?_of_block (h.block p.block (World.block_lt_of_cell? w p hc) hp)).trans hc

theorem below_drewN {B : Nat} {a w : World} (h : Below B a w) (n : Nat) : Below B a (w.drewN n) := ⟨h.os, h.tape, h.output, h.size, h.block⟩
theorem Rd.nil (w : World) (size : Nat) (A : Option Addr) : Rd w size A 0 [] := ⟨by simp, fun h => absurd h (by omega)⟩
theorem Rd.at_ {k : Nat} (h : Rd w 1 A n vs) (hk : k < n) : ∃ b o u, A = some ⟨b, o, none⟩ ∧ vs[k]? = some u ∧ w.cell? ⟨b, o + k, none⟩ = some u := by
  obtain ⟨b, o, e, hc⟩ := h.2 (by omega)
  have hl : k < vs.length := by have := h.1; omega
  exact ⟨b, o, vs[k], e, List.getElem?_eq_getElem hl, hc k _ (List.getElem?_eq_getElem hl)⟩
theorem Rd.keep (h : Rd w size A n vs) (hk : ∀ p : Addr, ∀ v, (∀ a, A = some a → p.block = a.block) → w.cell? p = some v → w'.cell? p = some v) : Rd w' size A n vs :=
  ⟨h.1, fun hn => by
    obtain ⟨b, o, e, hc⟩ := h.2 hn
    exact ⟨b, o, e, fun j u hu => hk _ _ (by rw [e]; rintro a ⟨⟩; rfl) (hc j u hu)⟩⟩
theorem Rd.fr (h : Rd w size A n vs) (hf : Fr S w w') (hs : ∀ a, A = some a → ¬ S a.block) : Rd w' size A n vs := by
  refine ⟨h.1, fun hn => ?_⟩
  obtain ⟨b, o, e, hc⟩ := h.2 hn
  exact ⟨b, o, e, fun j u hu => hf.cell (hc j u hu) (show ¬ S b from hs _ e)⟩
theorem Rd.below (h : Rd w size A n vs) (hb : Below w.heap.size w w') : Rd w' size A n vs := by
  refine ⟨h.1, fun hn => ?_⟩
  obtain ⟨b, o, e, hc⟩ := h.2 hn
  exact ⟨b, o, e, fun j u hu => (hb.cell (World.block_lt_of_cell? w _ (hc j u hu))).trans (hc j u hu)⟩
theorem Rd.of_blk (h : Blk w g t cs) (hl : n * size ≤ cs.length) : Rd w size (some ⟨g, 0, none⟩) n (cs.take (n * size)) := by
  refine ⟨by simp; omega, fun _ => ⟨g, 0, rfl, fun j v hv => ?_⟩⟩
  rw [Nat.zero_add, h.cell]
  rw [List.getElem?_take] at hv
  split at hv
  · exact hv
  · cases hv
theorem Rd.take {k : Nat} (h : Rd w size A n vs) (hk : k ≤ n) : Rd w size A k (vs.take (k * size)) := by
  have hm : k * size ≤ n * size := Nat.mul_le_mul_right _ hk
  refine ⟨by rw [List.length_take, h.1]; omega, fun hp => ?_⟩
  obtain ⟨b, o, e, hc⟩ := h.2 (by omega)
  refine ⟨b, o, e, fun j u hu => hc j u ?_⟩
  rw [List.getElem?_take] at hu
  split at hu
  · exact hu
  · cases hu
theorem add_plain (b o j : Nat) : (⟨b, o, none⟩ : Addr).add j = ⟨b, o + j, none⟩ := by unfold Addr.add; split <;> simp [*]
theorem Rd.drop {k cap : Nat} (h : Rd w size A n vs) (hk : k ≤ n) (hc : n ≤ cap) :
    Rd w size (if cap = k then A else A.map (·.add (k * size))) (n - k) (vs.drop (k * size)) := by
  refine ⟨by rw [List.length_drop, h.1, Nat.sub_mul], fun hn => ?_⟩
  obtain ⟨b, o, rfl, hcell⟩ := h.2 (by omega)
  rw [if_neg (by omega)]
  refine ⟨b, o + k * size, by simp [add_plain], fun j u hu => ?_⟩
  rw [Nat.add_assoc]
  exact hcell _ u (by rw [← hu, List.getElem?_drop])
theorem Rd.of_own {base : Nat} {e : TypeId} {c : Nat} (h : w.ownsRow base e size (.slice A n c) n vs) : Rd w size A n vs := by
  refine ⟨h.1, fun hn => ?_⟩
  obtain ⟨g, cap, hv, _, hlt⟩ := h.form hn
  have hA : A = some ⟨g, 0, none⟩ := by injection hv
  subst hA
  exact ⟨g, 0, rfl, fun j u hu => by have := h.cells (g := g) rfl j u hu; rwa [add_plain] at this⟩
end

/-- copy onto a block that is known whole -/
theorem wpList_copy_blk {P : Program} {w : World} {ops : Array Oper} {rest : List Oper} {o : Oper} {a : Act} {Q : Exit → Act → World → Prop} (hgd : o.guard = none) (d s : Operand) (dT sT : TypeId)
    (ho : o.op = .call { callee := .builtin .copy, args := #[d, s], argTypes := #[dT, sT] }) (elem : TypeId) (hu : P.underlying dT = some (.slice elem)) (hsz : (P.info? elem).map (·.size) = some 1)
    (dp sp : Option Addr) (dLen dCap sLen sCap : Nat) (hd : a.eval d = .slice dp dLen dCap) (hs : a.eval s = .slice sp sLen sCap)
    (g off : Nat) (cur : List Value) (t : TypeId) (hg : Blk w g t cur) (vs : List Value) (hr : Rd w 1 sp sLen vs) (h1 : ∀ v ∈ vs, v.oneCell' = true)
    (hdp : 0 < Nat.min sLen dLen → dp = some ⟨g, off, none⟩) (hfit : off + Nat.min sLen dLen ≤ cur.length)
    (h : ∀ w' m, Hid (m = Nat.min sLen dLen) → Blk w' g t (splice cur off (vs.take m)) → Fr (· = g) w w' → wpList P ops Q rest (a.put o.dst (goInt m)) w') :
    wpList P ops Q (o :: rest) a w := by
  have hl : vs.length = sLen := by simpa using hr.1
  have hmin : Nat.min sLen dLen ≤ sLen := Nat.min_le_left _ _
  have hcl : (vs.take (Nat.min sLen dLen)).length = Nat.min sLen dLen := by rw [List.length_take, hl]; omega
  by_cases h0 : Nat.min sLen dLen = 0
  · refine wpList_copy_nothing hgd d s dT sT ho elem hu hsz dp sp dLen dCap sLen sCap hd hs h0 ?_
    exact h w 0 h0.symm (by simpa [splice] using hg) (Fr.refl _ _)
  · obtain ⟨b, o', rfl, hsrc⟩ := hr.2 (by omega)
    have hdp' := hdp (by omega)
    subst hdp'
    refine wpList_copy_own hgd d s dT sT ho elem hu hsz g off dLen dCap ⟨b, o', none⟩ sLen sCap hd hs cur.toArray t hg (vs.take (Nat.min sLen dLen)) hcl ?_ (by simp only [List.size_toArray]; omega) (fun v hv => h1 v (List.mem_of_mem_take hv)) ?_
    · intro j v hv
      rw [add_plain]
      refine hsrc j v ?_
      rw [List.getElem?_take] at hv
      split at hv
      · exact hv
      · cases hv
    · rw [hcl]
      refine h _ _ rfl (show _ = _ by rw [splice, hcl]; exact setRow_heap w g _ _ t _ hg) ⟨rfl, rfl, rfl, by simp [World.setRow], fun k _ hk => setRow_other w g k _ hk⟩

/-- string(b) of a slice of bytes -/
theorem run_conv_bytes {P : Program} {w : World} {src dst e : TypeId} (hs : P.underlying src = some (.slice e)) (he : P.underlying e = some (.int .u8)) (hd : P.underlying dst = some .string)
    {A : Option Addr} {n c : Nat} {xs : List UInt8} (hr : Rd w 1 A n (xs.map BV)) : (convert src dst (.slice A n c)).run P w = .ok (.string ⟨xs.toArray⟩) w := by
  have hl : xs.length = n := by simpa using hr.1
  rcases Nat.eq_zero_or_pos n with h0 | h0
  · subst h0
    obtain rfl : xs = [] := List.eq_nil_of_length_eq_zero hl
    rw [run_convert_bytes_string w src dst e _ 0 c hs he hd]
    rcases A with _ | a
    · simp [Conv.bytesToString]; rfl
    · rw [run_bytesToString w a 0 c [] (by simpa using run_loadCells (P := P) (w := w) a 0 (fun _ => .int .u8 0) (by omega))]
      rfl
  · obtain ⟨b, o, rfl, hc⟩ := hr.2 h0
    rw [run_convert_bytes_arg w src e hs he b o n c (xs.map fun x => (x.toNat : Int)) (by simpa using hl) (fun i hi => ?_) dst hd]
    · congr 2
      have hm : xs.map ((fun n : Int => UInt8.ofNat n.toNat) ∘ fun x : UInt8 => (x.toNat : Int)) = xs := by
        have : xs.map ((fun n : Int => UInt8.ofNat n.toNat) ∘ fun x : UInt8 => (x.toNat : Int)) = xs.map id := List.map_congr_left (fun x _ => by simp)
        simpa using this
      simp [strOfNums, hm]
    · have := hc i (BV xs[i]) (by simp [List.getElem?_eq_getElem (show i < xs.length by omega)])
      rw [this]
      simp [BV, List.getD, List.getElem?_eq_getElem (show i < xs.length by omega)]
theorem wpList_conv_bytes {P : Program} {w : World} {ops : Array Oper} {rest : List Oper} {o : Oper} {a : Act} {Q : Exit → Act → World → Prop} (hgd : o.guard = none) (s : Operand) (src dst : TypeId)
    (ho : o.op = .convert src dst s) (e : TypeId) (hs : P.underlying src = some (.slice e)) (he : P.underlying e = some (.int .u8)) (hd : P.underlying dst = some .string)
    (A : Option Addr) (n c : Nat) (hv : a.eval s = .slice A n c) (xs : List UInt8) (hr : Rd w 1 A n (xs.map BV))
    (h : wpList P ops Q rest (a.put o.dst (.string ⟨xs.toArray⟩)) w) : wpList P ops Q (o :: rest) a w := by
  refine wpList_plain hgd fun K hK => ?_
  have hrun := run_conv_bytes (P := P) hs he hd (c := c) hr
  unfold Oper.wp
  simp [execOp, ho, hv, hrun, Result.andThen]
  exact hK _ _ h

/-- what a law on append asks of a slice's type -/
structure Elt (P : Program) (t e : TypeId) (z : Value) (size bytes : Nat) : Prop where
  ht : P.underlying t = some (.slice e)
  hi : ∃ i, P.info? e = some i ∧ i.zero = some z ∧ i.size = size ∧ i.bytes = bytes
  hzs : z.cells.size = size
  hsz : 0 < size

/-- n times the zero value: a definition of its own, so that the walk lets it stand -/
def zeros (z : Value) (n : Nat) : List Value := List.replicate n z
theorem zeros_length (z : Value) (n : Nat) : (zeros z n).length = n := by simp [zeros]
/-- make([]T, n) of elements of one cell -/
theorem run_make_zeros {P : Program} {t e : TypeId} {z : Value} {bytes : Nat} (E : Elt P t e z 1 bytes) (hz : z.cells = #[z]) (kl kc : IntKind) (k : Int) (n : Nat) (hk : k = n) (hb : bytes * n ≤ 281474976710656) (h63 : n ≤ 9223372036854775807) :
    ∀ w : World, (Instr.makeSlice t (.int kl k) (.int kc k)).run P w = .ok (.slice (some ⟨w.heap.size, 0, none⟩) n n) (w.alloc (.cells (zeros z n).toArray e)) := by
  intro w
  obtain ⟨ht, ⟨i, hi, hz0, hsize, hby⟩, hzs, hsz⟩ := E
  subst hk
  subst hby
  have hb' : (i.bytes : Int) * (n : Int) ≤ 281474976710656 := by
    have h : ((i.bytes * n : Nat) : Int) ≤ 281474976710656 := by omega
    rwa [Int.natCast_mul] at h
  have hr := run_make (P := P) w t e i z ht hi hz0 kl kc n n (by omega) (Int.le_refl _) hb' (by omega)
  simp only [Int.toNat_natCast, hsize, Nat.mul_one, hz] at hr
  rw [hr]
  congr 3
  apply Array.toList_inj.1
  rw [toList_madeCells_one]
  rfl

theorem own_shape {w : World} {base : Nat} {e : TypeId} {size : Nat} {v : Value} {n : Nat} {xs : List Value} (h : w.ownsRow base e size v n xs) :
    ∃ A c, v = .slice A n c ∧ n ≤ c ∧ c ≤ maxLen ∧ Rd w size A n xs ∧ (∀ a, A = some a → a.off = 0 ∧ a.spot = none) := by
  have h' := h
  rcases h.2 with ⟨rfl, rfl⟩ | ⟨g, cap, cur, rfl, _, _, h1, h2, _⟩
  · exact ⟨none, 0, rfl, Nat.le_refl _, by simp [maxLen], ⟨h.1, fun h => absurd h (by omega)⟩, by simp⟩
  · exact ⟨_, cap, rfl, h1, h2, Rd.of_own h', by rintro a ⟨⟩; exact ⟨rfl, rfl⟩⟩
theorem run_append_rd {P : Program} {w : World} {t ty e : TypeId} {z : Value} {size bytes : Nat} (E : Elt P t e z size bytes) {base : Nat}
    {v : Value} {n : Nat} {xs : List Value} (hown : w.ownsRow base e size v n xs) {A : Option Addr} {m c : Nat} {news : List Value} (hr : Rd w size A m news) (h1 : ∀ u ∈ news, u.oneCell' = true)
    (hb : (n + m) * bytes ≤ 140737488355328) (h63 : n + m ≤ maxLen) (hbase : base ≤ w.heap.size) :
    ∃ v' w', (Builtin.append_ #[t, t] ty #[v, .slice A m c]).run P w = .ok v' w' ∧ w'.ownsRow base e size v' (n + m) (xs ++ news) ∧ Fr (fun i => some i = v.ownBlock) w w' ∧
      (v'.ownBlock = v.ownBlock ∨ v'.ownBlock = some w.heap.size) := by
  obtain ⟨ht, ⟨i, hi, hz, hsize, hby⟩, hzs, hsz⟩ := E
  rcases A with _ | ad
  · have hm : m = 0 := by
      rcases Nat.eq_zero_or_pos m with h0 | h0
      · exact h0
      · obtain ⟨b, o, h, _⟩ := hr.2 h0
        cases h
    subst hm
    have hn : news = [] := List.eq_nil_of_length_eq_zero (by simpa using hr.1)
    subst hn
    refine ⟨v, w, ?_, by simpa using hown, Fr.refl _ _, .inl rfl⟩
    rcases hown.2 with ⟨rfl, rfl⟩ | ⟨g, cap, cur, rfl, _, _, hnc, _⟩
    · simp [Builtin.append_, run_underlying ht, sizeOf, typeInfo, hi, Builtin.lenOf, Builtin.firstCells]
    · simp [Builtin.append_, run_underlying ht, sizeOf, typeInfo, hi, Builtin.lenOf, Builtin.firstCells, hnc, storeCells]
  · have hcells : ∀ j u, news[j]? = some u → w.cell? (ad.add j) = some u := by
      intro j u hu
      rcases Nat.eq_zero_or_pos m with h0 | h0
      · subst h0
        have hn : news = [] := List.eq_nil_of_length_eq_zero (by simpa using hr.1)
        subst hn
        simp at hu
      · obtain ⟨b, o, h, hc⟩ := hr.2 h0
        injection h with h
        subst h
        rw [add_plain]
        exact hc j u hu
    obtain ⟨v', w', hrun, h2, h3, _, h5⟩ := run_append_own_at (P := P) w base t ty e i z size bytes ht hi hz hsize hby hzs hsz v n xs hown ad m c news hr.1 hcells h1 h63 hb hbase
    exact ⟨v', w', hrun, h2, Fr.of_grown h3 (fun _ _ h => h), h5⟩
theorem wp_append_rd {P : Program} {w : World} {o : Oper} {a : Act} {K : Act → World → Prop} {Q : Exit → Act → World → Prop} (s x : Operand) (t : TypeId)
    (ho : o.op = .call { callee := .builtin .append, args := #[s, x], argTypes := #[t, t] }) {e : TypeId} {z : Value} {size bytes : Nat} (E : Elt P t e z size bytes) {base : Nat}
    (v : Value) (n : Nat) (xs : List Value) (hs : a.eval s = v) (hown : w.ownsRow base e size v n xs) (A : Option Addr) (m c : Nat) (news : List Value) (hx : a.eval x = .slice A m c)
    (hr : Rd w size A m news) (h1 : ∀ u ∈ news, u.oneCell' = true)
    (hb : (n + m) * bytes ≤ 140737488355328) (h63 : n + m ≤ maxLen) (hbase : base ≤ w.heap.size)
    (h : ∀ A' c' w', w'.ownsRow base e size (.slice A' (n + m) c') (n + m) (xs ++ news) → Fr (fun i => some i = v.ownBlock) w w' → ((Value.slice A' (n + m) c').ownBlock = v.ownBlock ∨ (Value.slice A' (n + m) c').ownBlock = some w.heap.size) → K (a.put o.dst (.slice A' (n + m) c')) w') : o.wp P a w K Q := by
  obtain ⟨v', w', hrun, h2, h3, h4⟩ := run_append_rd (ty := o.type) (c := c) E hown hr h1 hb h63 hbase
  unfold Oper.wp execOp
  obtain ⟨A', c', rfl, _⟩ := own_shape h2
  simp only [ho, resolve, invoke, builtin, Sem.run_bind, Sem.run_pure, Result.andThen_ok, List.map_toArray, List.map_cons, List.map_nil, hs, hx, hrun]
  exact h A' c' w' h2 h3 h4
theorem wpList_append_rd {P : Program} {w : World} {ops : Array Oper} {rest : List Oper} {o : Oper} {a : Act} {Q : Exit → Act → World → Prop} (hgd : o.guard = none) (s x : Operand) (t : TypeId)
    (ho : o.op = .call { callee := .builtin .append, args := #[s, x], argTypes := #[t, t] }) {e : TypeId} {z : Value} {size bytes : Nat} (E : Elt P t e z size bytes) {base : Nat}
    (v : Value) (n : Nat) (xs : List Value) (hs : a.eval s = v) (hown : w.ownsRow base e size v n xs) (A : Option Addr) (m c : Nat) (news : List Value) (hx : a.eval x = .slice A m c)
    (hr : Rd w size A m news) (h1 : ∀ u ∈ news, u.oneCell' = true)
    (hb : (n + m) * bytes ≤ 140737488355328) (h63 : n + m ≤ maxLen) (hbase : base ≤ w.heap.size)
    (h : ∀ A' c' w', w'.ownsRow base e size (.slice A' (n + m) c') (n + m) (xs ++ news) → Fr (fun i => some i = v.ownBlock) w w' → ((Value.slice A' (n + m) c').ownBlock = v.ownBlock ∨ (Value.slice A' (n + m) c').ownBlock = some w.heap.size) → wpList P ops Q rest (a.put o.dst (.slice A' (n + m) c')) w') : wpList P ops Q (o :: rest) a w :=
  wpList_plain hgd fun _ hK => wp_append_rd s x t ho E v n xs hs hown A m c news hx hr h1 hb h63 hbase fun A' c' w' h2 h3 h4 => hK _ _ (h A' c' w' h2 h3 h4)
theorem step_append_rd {P : Program} {w : World} {ops : Array Oper} {o : Oper} {a : Act} {K : Act → World → Prop} {Q : Exit → Act → World → Prop} {E' : Prop} (hgd : o.guard = none) (s x : Operand) (t : TypeId)
    (ho : o.op = .call { callee := .builtin .append, args := #[s, x], argTypes := #[t, t] }) {e : TypeId} {z : Value} {size bytes : Nat} (E : Elt P t e z size bytes) {base : Nat}
    (v : Value) (n : Nat) (xs : List Value) (hs : a.eval s = v) (hown : w.ownsRow base e size v n xs) (A : Option Addr) (m c : Nat) (news : List Value) (hx : a.eval x = .slice A m c)
    (hr : Rd w size A m news) (h1 : ∀ u ∈ news, u.oneCell' = true)
    (hb : (n + m) * bytes ≤ 140737488355328) (h63 : n + m ≤ maxLen) (hbase : base ≤ w.heap.size)
    (h : ∀ A' c' w', w'.ownsRow base e size (.slice A' (n + m) c') (n + m) (xs ++ news) → Fr (fun i => some i = v.ownBlock) w w' → ((Value.slice A' (n + m) c').ownBlock = v.ownBlock ∨ (Value.slice A' (n + m) c').ownBlock = some w.heap.size) → K (a.put o.dst (.slice A' (n + m) c')) w') :
    if Region.wanted o (yielded ops a.tmps) = true then Oper.wp P o a w K Q else E' := by
  have hw : Region.wanted o (yielded ops a.tmps) = true := by simp [Region.wanted, hgd]
  rw [if_pos hw]
  exact wp_append_rd s x t ho E v n xs hs hown A m c news hx hr h1 hb h63 hbase h

theorem own_fr {w w' : World} {base : Nat} {e : TypeId} {size : Nat} {v : Value} {n : Nat} {xs : List Value} {S : Nat → Prop} (h : w.ownsRow base e size v n xs) (hf : Fr S w w') (hs : ∀ g, v.ownBlock = some g → ¬ S g) : w'.ownsRow base e size v n xs := by
  refine ⟨h.1, ?_⟩
  rcases h.2 with hn | ⟨g, cap, cur, rfl, hb, hgg, rest⟩
  · exact .inl hn
  · refine .inr ⟨g, cap, cur, rfl, hb, ?_, rest⟩
    rw [hf.block g (Array.getElem?_eq_some_iff.1 hgg).1 (hs g rfl)]
    exact hgg
theorem own_lt {w : World} {base : Nat} {e : TypeId} {size : Nat} {v : Value} {n : Nat} {xs : List Value} (h : w.ownsRow base e size v n xs) {g : Nat} (hg : v.ownBlock = some g) : g < w.heap.size := (h.lt g hg).2
theorem own_ne_blk {w : World} {base : Nat} {e : TypeId} {size n g : Nat} {v : Value} {xs cs : List Value} {t : TypeId} (h : w.ownsRow base e size v n xs) (hg : Blk w g t cs) (hne : e ≠ t) : v.ownBlock ≠ some g := by
  rcases h.2 with ⟨rfl, _⟩ | ⟨g', cap, cur, rfl, _, hh, _⟩
  · simp [Value.ownBlock]
  · intro he
    have : g' = g := by simpa [Value.ownBlock] using he
    subst this
    unfold Blk at hg
    rw [hg] at hh
    injection hh with hh
    injection hh with _ ht
    exact hne ht.symm
/-- copy onto a slice that is owned, of elements of one cell -/
theorem run_copy_owned {P : Program} {w : World} {dT sT ty e : TypeId} (hu : P.underlying dT = some (.slice e)) (hsz : (P.info? e).map (·.size) = some 1) {base : Nat}
    {v : Value} {n : Nat} {xs : List Value} (hown : w.ownsRow base e 1 v n xs) {A : Option Addr} {m c : Nat} {vs : List Value} (hr : Rd w 1 A m vs) (h1 : ∀ u ∈ vs, u.oneCell' = true) :
    ∃ w', (Builtin.copy_ #[dT, sT] ty #[v, .slice A m c]).run P w = .ok (goInt (Nat.min m n : Nat)) w' ∧ w'.ownsRow base e 1 v n (vs.take (Nat.min m n) ++ xs.drop (Nat.min m n)) ∧ Fr (fun i => some i = v.ownBlock) w w' := by
  by_cases h0 : Nat.min m n = 0
  · obtain ⟨B, d, rfl, _⟩ := own_shape hown
    refine ⟨w, ?_, by rw [h0]; simpa using hown, Fr.refl _ _⟩
    rw [h0]
    exact run_copy_none (P := P) w dT sT ty e B A n d m c hu hsz h0
  · have hvs : vs.length = m := by simpa using hr.1
    have hxs : xs.length = n := by simpa using hown.1
    have hm1 : Nat.min m n ≤ m := Nat.min_le_left _ _
    have hm2 : Nat.min m n ≤ n := Nat.min_le_right _ _
    obtain ⟨b, o, rfl, hc⟩ := hr.2 (by omega)
    rcases hown.2 with ⟨_, hn⟩ | ⟨g, cap, cur, rfl, hb, hg, hnc, hcm, hcs, htake⟩
    · omega
    · have hcl : (vs.take (Nat.min m n)).length = Nat.min m n := by rw [List.length_take]; omega
      have hrun := run_copy_row (P := P) w dT sT ty e g 0 n cap ⟨b, o, none⟩ m c cur e (vs.take (Nat.min m n)) hu hsz hg hcl
        (fun j v hv => by
          rw [add_plain]
          refine hc j v ?_
          rw [List.getElem?_take] at hv
          split at hv
          · exact hv
          · cases hv) (by omega) (fun v hv => h1 v (List.mem_of_mem_take hv))
      rw [hcl] at hrun
      refine ⟨_, hrun, ⟨by rw [List.length_append, hcl, List.length_drop]; omega, .inr ⟨g, cap, _, rfl, hb, setRow_heap w g cur _ e _ hg, hnc, hcm, ?_, ?_⟩⟩, ⟨rfl, rfl, rfl, by simp [World.setRow], fun k _ hk => setRow_other w g k _ (fun e => hk (by rw [e]; rfl))⟩⟩
      · have : cur.toList.length = cap * 1 := by simpa using hcs
        simp only [List.take_zero, List.nil_append, List.size_toArray, List.length_append, hcl, List.length_drop]
        omega
      · have hcl2 : cur.toList.length = cap * 1 := by simpa using hcs
        rw [← htake]
        simp only [List.take_zero, List.nil_append, Nat.zero_add, Nat.mul_one]
        rw [List.take_append, hcl]
        rw [List.take_take, Nat.min_eq_right hm2]
        congr 1
        rw [List.take_drop]
        congr 2
        omega
theorem wp_copy_owned {P : Program} {w : World} {o : Oper} {a : Act} {K : Act → World → Prop} {Q : Exit → Act → World → Prop} (d s : Operand) (dT sT : TypeId)
    (ho : o.op = .call { callee := .builtin .copy, args := #[d, s], argTypes := #[dT, sT] }) {e : TypeId} (hu : P.underlying dT = some (.slice e)) (hsz : (P.info? e).map (·.size) = some 1) {base : Nat}
    (v : Value) (n : Nat) (xs : List Value) (hd : a.eval d = v) (hown : w.ownsRow base e 1 v n xs) (A : Option Addr) (m c : Nat) (vs : List Value) (hs : a.eval s = .slice A m c) (hr : Rd w 1 A m vs) (h1 : ∀ u ∈ vs, u.oneCell' = true)
    (h : ∀ w' k, Hid (k = Nat.min m n) → w'.ownsRow base e 1 v n (vs.take k ++ xs.drop k) → Fr (fun i => some i = v.ownBlock) w w' → K (a.put o.dst (goInt (k : Nat))) w') : o.wp P a w K Q := by
  obtain ⟨w', hrun, h2, h3⟩ := run_copy_owned (ty := o.type) (sT := sT) (c := c) hu hsz hown hr h1
  unfold Oper.wp
  simp [execOp, ho, resolve, invoke, builtin, hd, hs, hrun, Result.andThen]
  exact h w' _ rfl h2 h3
theorem wpList_copy_owned {P : Program} {w : World} {ops : Array Oper} {rest : List Oper} {o : Oper} {a : Act} {Q : Exit → Act → World → Prop} (hgd : o.guard = none) (d s : Operand) (dT sT : TypeId)
    (ho : o.op = .call { callee := .builtin .copy, args := #[d, s], argTypes := #[dT, sT] }) {e : TypeId} (hu : P.underlying dT = some (.slice e)) (hsz : (P.info? e).map (·.size) = some 1) {base : Nat}
    (v : Value) (n : Nat) (xs : List Value) (hd : a.eval d = v) (hown : w.ownsRow base e 1 v n xs) (A : Option Addr) (m c : Nat) (vs : List Value) (hs : a.eval s = .slice A m c) (hr : Rd w 1 A m vs) (h1 : ∀ u ∈ vs, u.oneCell' = true)
    (h : ∀ w' k, Hid (k = Nat.min m n) → w'.ownsRow base e 1 v n (vs.take k ++ xs.drop k) → Fr (fun i => some i = v.ownBlock) w w' → wpList P ops Q rest (a.put o.dst (goInt (k : Nat))) w') : wpList P ops Q (o :: rest) a w :=
  wpList_plain hgd fun _ hK => wp_copy_owned d s dT sT ho hu hsz v n xs hd hown A m c vs hs hr h1 fun w' k h2 h3 h4 => hK _ _ (h w' k h2 h3 h4)
theorem step_copy_owned {P : Program} {w : World} {ops : Array Oper} {o : Oper} {a : Act} {K : Act → World → Prop} {Q : Exit → Act → World → Prop} {E' : Prop} (hgd : o.guard = none) (d s : Operand) (dT sT : TypeId)
    (ho : o.op = .call { callee := .builtin .copy, args := #[d, s], argTypes := #[dT, sT] }) {e : TypeId} (hu : P.underlying dT = some (.slice e)) (hsz : (P.info? e).map (·.size) = some 1) {base : Nat}
    (v : Value) (n : Nat) (xs : List Value) (hd : a.eval d = v) (hown : w.ownsRow base e 1 v n xs) (A : Option Addr) (m c : Nat) (vs : List Value) (hs : a.eval s = .slice A m c) (hr : Rd w 1 A m vs) (h1 : ∀ u ∈ vs, u.oneCell' = true)
    (h : ∀ w' k, Hid (k = Nat.min m n) → w'.ownsRow base e 1 v n (vs.take k ++ xs.drop k) → Fr (fun i => some i = v.ownBlock) w w' → K (a.put o.dst (goInt (k : Nat))) w') :
    if Region.wanted o (yielded ops a.tmps) = true then Oper.wp P o a w K Q else E' := by
  have hw : Region.wanted o (yielded ops a.tmps) = true := by simp [Region.wanted, hgd]
  rw [if_pos hw]
  exact wp_copy_owned d s dT sT ho hu hsz v n xs hd hown A m c vs hs hr h1 h
theorem own_take {w : World} {base : Nat} {e : TypeId} {size n k c : Nat} {A : Option Addr} {xs : List Value} (h : w.ownsRow base e size (.slice A n c) n xs) (hk : k ≤ n) : w.ownsRow base e size (.slice A k c) k (xs.take (k * size)) := by
  have hle : k * size ≤ n * size := Nat.mul_le_mul_right _ hk
  refine ⟨by rw [List.length_take, h.1]; omega, ?_⟩
  rcases h.2 with ⟨h', h0⟩ | ⟨g, cap, cur, h', hb, hg, h1, h2, h3, h4⟩
  · subst h0
    obtain rfl : k = 0 := by omega
    exact .inl ⟨h', rfl⟩
  · simp only [Value.slice.injEq] at h'
    obtain ⟨rfl, _, rfl⟩ := h'
    refine .inr ⟨g, c, cur, rfl, hb, hg, by omega, h2, h3, ?_⟩
    rw [← h4, List.take_take, Nat.min_eq_left hle]
/-- a block that is known whole, as the slice that owns it -/
theorem own_of_blk {w : World} {e : TypeId} {size n g cap : Nat} {cs : List Value} (h : Blk w g e cs) (hc : cs.length = cap * size) (hn : n ≤ cap) (hm : cap ≤ maxLen) : w.ownsRow 0 e size (.slice (some ⟨g, 0, none⟩) n cap) n (cs.take (n * size)) := by
  have hle : n * size ≤ cap * size := Nat.mul_le_mul_right _ hn
  exact ⟨by rw [List.length_take]; omega, .inr ⟨g, cap, cs.toArray, rfl, Nat.zero_le _, h, hn, hm, by simpa using hc, by simp⟩⟩
theorem own_blk {w : World} {base : Nat} {e : TypeId} {size n g cap : Nat} {xs : List Value} (h : w.ownsRow base e size (.slice (some ⟨g, 0, none⟩) n cap) n xs) : ∃ cur : List Value, Blk w g e cur ∧ n ≤ cap ∧ cap ≤ maxLen ∧ cur.length = cap * size ∧ cur.take (n * size) = xs := by
  rcases h.2 with ⟨h', _⟩ | ⟨g', cap', cur, h', _, hg, h1, h2, h3, h4⟩
  · simp at h'
  · simp only [Value.slice.injEq, Option.some.injEq, Addr.mk.injEq, and_true, true_and] at h'
    obtain ⟨rfl, rfl⟩ := h'
    exact ⟨cur.toList, by simpa [Blk] using hg, h1, h2, by simpa using h3, h4⟩

section
open Go.ChangeShapes Go.WideShapes Go.ChangeAt
/-- numbers that fit a byte are bytes -/
theorem bytes_of_wf (zs : List Int) (h : ∀ n ∈ zs, (Lit.int .u8 n).wf = true) : zs.map (Value.int .u8) = (zs.map fun n => UInt8.ofNat n.toNat).map BV := by
  rw [List.map_map]
  refine List.map_congr_left fun n hn => ?_
  have hw := h n hn
  have hb : 0 ≤ n ∧ n ≤ 255 := by simpa [Lit.wf, IntKind.min, IntKind.max, IntKind.signed, IntKind.bits] using hw
  simp only [Function.comp_apply, BV]
  congr 1
  simp
  omega
theorem opened_bytes {H : Type} {enc : TypeId × Value → H} {P : Program} {W : World} {base : Nat} {t e : TypeId} {v : Value} {d : DataW H} {ps : List MemPlace} (ht : P.underlying t = some (.slice e)) (he : P.underlying e = some (.int .u8)) (hc : P.cellsOf e = 1) (hby : P.bytesOf e = 1)
    (hv : Value.okWide P W .any base t v) (h : DataW.Trod enc P W 0 (fun _ => true) true t v d ps)
    (hsz : ∀ elems spare, d = .slice elems spare → (elems.length + spare.length) * P.bytesOf e ≤ reachBytes) :
    ∃ (A : Option Addr) (len cap : Nat) (xs : List UInt8), v = .slice A len cap ∧ Rd W 1 A len (xs.map BV) ∧ len ≤ cap ∧ cap ≤ 140737488351232 := by
  obtain ⟨A, len, cap, rfl⟩ := okWide_slice ht hv
  obtain ⟨fuel, hf⟩ := h
  rcases open_ints ht he hc hf with ⟨hcs, _⟩ | ⟨x, l, c, zs, hcs, _, hl, hm, hz, hd, hcell, hwz⟩
  · simp [Value.cells] at hcs
    obtain ⟨rfl, rfl, rfl⟩ := hcs
    exact ⟨none, 0, 0, [], rfl, Rd.nil _ _ _, Nat.le_refl _, by omega⟩
  · simp [Value.cells] at hcs
    obtain ⟨rfl, rfl, rfl⟩ := hcs
    have hz' : zs.length = cap := by simpa using hz
    have hb := hsz (lits .u8 (zs.take len)) (lits .u8 (zs.drop len)) (by simp only [Prod.mk.injEq] at hd; exact hd.1)
    rw [hby] at hb
    simp only [lits, List.length_map, List.length_take, List.length_drop, reachBytes] at hb
    refine ⟨some x, len, cap, (zs.take len).map fun n => UInt8.ofNat n.toNat, rfl, ⟨by simp; omega, fun hn => ?_⟩, hl, by omega⟩
    have h0 := hcell 0 (by omega)
    obtain ⟨b, o, spot⟩ := x
    have hspot : spot = none := by simpa [Addr.add] using World.cell?_spot h0
    subst hspot
    refine ⟨b, o, rfl, fun j u hu => ?_⟩
    rw [← bytes_of_wf _ (fun n hn => hwz n (List.mem_of_mem_take hn))] at hu
    simp only [List.getElem?_map, Option.map_eq_some_iff] at hu
    obtain ⟨y, hy, rfl⟩ := hu
    rw [List.getElem?_take] at hy
    split at hy
    · have := hcell j (by omega)
      rw [add_plain] at this
      rw [this, List.getD_eq_getElem?_getD, hy]
      rfl
    · cases hy
end
end Go.Own
namespace Go.Proofs.YtinieljgcenemaaDoor
open Go.RowKit Go.Own Go.Huf
set_option linter.unusedVariables false

/-- the variable counts holds what the text says -/
def Cnt (w : World) : Prop := ∀ i, i < 31 → w.cell? ⟨0, i, none⟩ = some (.int .u32 ((cnt i : Nat) : Int))
theorem Cnt.pos {w : World} (h : Cnt w) : 0 < w.heap.size := World.block_lt_of_cell? w _ (h 0 (by omega))
theorem Cnt.below {w w' : World} (h : Cnt w) (hb : Below w.heap.size w w') : Cnt w' := fun i hi => (hb.cell (World.block_lt_of_cell? w _ (h i hi))).trans (h i hi)
theorem Cnt.fr {w w' : World} {S : Nat → Prop} (h : Cnt w) (hf : Fr S w w') (hs : ¬ S 0) : Cnt w' := fun i hi => hf.cell (h i hi) hs
theorem Cnt.drewN {w : World} (h : Cnt w) (n : Nat) : Cnt (w.drewN n) := h

def symZ : List Int := symL.map Int.ofNat
def symCells : List Value := symZ.map (Value.int .i16)
theorem symL_length : symL.length = 257 := by decide +kernel
theorem symCells_length : symCells.length = 257 := by rw [symCells, symZ, List.length_map, List.length_map, symL_length]
theorem symCells_at (p : Nat) (h : p < 257) : symCells[p]? = some (.int .i16 ((sym p : Nat) : Int)) := by
  have hl := symL_length
  rw [symCells, symZ, List.getElem?_map, List.getElem?_map, sym, List.getD_eq_getElem?_getD, List.getElem?_eq_getElem (show p < symL.length by omega)]
  rfl
theorem int_one (k : IntKind) (zs : List Int) : ((zs.map (Value.int k)).toArray).all (·.oneCell') = true := by
  rw [Array.all_eq_true_iff_forall_mem]
  intro v hv
  simp only [List.mem_toArray] at hv
  obtain ⟨z, _, rfl⟩ := List.mem_map.1 hv
  rfl
theorem zero_syms : (∀ w, (zeroValue 150).run Tryd.prog w = .ok (.agg (Array.replicate 257 (.int .i16 0))) w) ∧ (Tryd.prog.info? 150).map (·.size) = some 257 := zero_of_info (by kernel_rfl)
theorem info_syms : ((Tryd.prog.info? 150).bind (·.zero)).map (·.cells.size) = some 257 := by kernel_rfl

/-- the literal of the symbols -/
theorem wpList_syms {ops : Array Oper} {rest : List Oper} {o : Oper} {a : Act} {w : World} {Q : Exit → Act → World → Prop} (hg : o.guard = none) (parts : Array (Nat × Operand)) (ho : o.op = .build 150 parts)
    (hparts : parts.toList = (symZ.zipIdx 0).map fun x => (x.2, Operand.const (Value.int .i16 x.1)))
    (h : wpList Tryd.prog ops Q rest (a.put o.dst (.agg symCells.toArray)) w) : wpList Tryd.prog ops Q (o :: rest) a w :=
  wpList_buildFlatArr hg 150 149 257 parts ho .i16 symZ Tryd.underlying150 (by kernel_rfl) (by rw [info_syms, symZ, List.length_map, symL_length]) hparts h
theorem wpList_store_syms {ops : Array Oper} {rest : List Oper} {o : Oper} {a : Act} {w : World} {Q : Exit → Act → World → Prop} (hgd : o.guard = none) (x y : Operand) (ho : o.op = .store 150 x y)
    (hx : a.eval x = .pointer (some ⟨w.heap.size, 0, none⟩)) (hy : a.eval y = .agg symCells.toArray)
    (h : wpList Tryd.prog ops Q rest (a.put o.dst undef) (w.alloc (.cells symCells.toArray 150))) : wpList Tryd.prog ops Q (o :: rest) a (w.alloc (.cells (Array.replicate 257 (.int .i16 0)) 150)) := by
  refine wpList_store_row hgd 150 x y ho w.heap.size symCells.toArray hx hy 150 _ (heap_alloc_new w _) (by rw [zero_syms.2]; simp [symCells_length]) (by simp [symCells_length]) (int_one _ _) ?_
  rw [World.setRow_alloc_new]
  exact h
theorem results_syms {tmps : Array Value} {w : World} {g : Nat} (hp : tmps.getD 0 undef = .pointer (some ⟨g, 0, none⟩)) (hb : Blk w g 150 symCells) : (results Tryd.f107 tmps).run Tryd.prog w = .ok (.agg symCells.toArray) w :=
  results_cell_row (p := 0) (ty := 150) (by kernel_rfl) tmps w g 150 symCells.toArray (0, 0) _ hp hb Tryd.underlying150 rfl (by rw [zero_syms.2]; simp [symCells_length])

set_option maxRecDepth 100000 in
set_option maxHeartbeats 2000000 in
theorem syms_any (w : World) : Calls Tryd.prog 107 #[] w fun e w' => e = .returned (.agg symCells.toArray) ∧ Below w.heap.size w w' := by
  have hz := zero_syms.1
  go_enter Tryd.func107, Tryd.ntmps107
  go_wp2_with (first
    | (refine wpList_syms rfl _ rfl (by kernel_rfl) ?_)
    | (refine wpList_store_syms rfl _ _ rfl rfl rfl ?_))
  exact bodyPost_ret (v := .agg symCells.toArray) (results_syms rfl (Blk.new w 150 symCells)) rfl ⟨rfl, (Below.refl _ _).alloc (Nat.le_refl _) _⟩

/-- codes as the cells of an array -/
def cellsP (l : List (Nat × Nat)) : List Value := l.flatMap fun c => [.int .u32 ((c.1 : Nat) : Int), .int .i64 ((c.2 : Nat) : Int)]
theorem cellsP_cons (c : Nat × Nat) (l : List (Nat × Nat)) : cellsP (c :: l) = .int .u32 ((c.1 : Nat) : Int) :: .int .i64 ((c.2 : Nat) : Int) :: cellsP l := rfl
theorem cellsP_length : ∀ l, (cellsP l).length = l.length * 2
  | [] => rfl
  | c :: l => by rw [cellsP_cons, List.length_cons, List.length_cons, cellsP_length l, List.length_cons]; omega
theorem cellsP_at : ∀ (l : List (Nat × Nat)) (s : Nat) (c : Nat × Nat), l[s]? = some c → (cellsP l)[s * 2]? = some (.int .u32 ((c.1 : Nat) : Int)) ∧ (cellsP l)[s * 2 + 1]? = some (.int .i64 ((c.2 : Nat) : Int))
  | [], s, c, h => by simp at h
  | x :: l, 0, c, h => by
    simp only [List.getElem?_cons_zero, Option.some.injEq] at h
    subst h
    exact ⟨rfl, rfl⟩
  | x :: l, s + 1, c, h => by
    rw [cellsP_cons, show (s + 1) * 2 = s * 2 + 1 + 1 by omega]
    simp only [List.getElem?_cons_succ]
    exact cellsP_at l s c (by simpa using h)
theorem cellsP_set : ∀ (l : List (Nat × Nat)) (s : Nat) (c : Nat × Nat), ((cellsP l).set (s * 2) (.int .u32 ((c.1 : Nat) : Int))).set (s * 2 + 1) (.int .i64 ((c.2 : Nat) : Int)) = cellsP (l.set s c)
  | [], s, c => rfl
  | x :: l, 0, c => rfl
  | x :: l, s + 1, c => by
    rw [cellsP_cons, show (s + 1) * 2 = s * 2 + 1 + 1 by omega]
    simp only [List.set_cons_succ]
    rw [cellsP_cons, cellsP_set l s c]
def outP : Nat → List (Nat × Nat)
  | 0 => List.replicate 257 (0, 0)
  | p + 1 => (outP p).set (sym p) (code (sym p))
theorem outP_length : ∀ p, (outP p).length = 257
  | 0 => List.length_replicate
  | p + 1 => by rw [outP, List.length_set, outP_length p]
theorem outP_all : outP 257 = codeL := by decide +kernel
theorem strt_all : strt 31 = 257 := by decide +kernel
/-- what next is ahead of the round n -/
def nx : Nat → Nat
  | 0 => 0
  | n + 1 => frst n + cnt n
theorem nx_two (n : Nat) : 2 * nx n = frst n := by cases n <;> rfl
theorem nx_le : ∀ n, n < 31 → frst n + cnt n ≤ 1073741824 ∧ cnt n ≤ 32 ∧ strt n + cnt n ≤ 257 := by decide +kernel
def codeCells : List Value := cellsP codeL
theorem codeL_length : codeL.length = 257 := by decide +kernel
theorem codeCells_length : codeCells.length = 514 := by rw [codeCells, cellsP_length, codeL_length]
theorem zero_codes : (∀ w, (zeroValue 137).run Tryd.prog w = .ok (.agg (cellsP (outP 0)).toArray) w) ∧ (Tryd.prog.info? 137).map (·.size) = some 514 := zero_of_info (by kernel_rfl)
theorem cellsP_one (l : List (Nat × Nat)) : (cellsP l).toArray.all (·.oneCell') = true := by
  rw [Array.all_eq_true_iff_forall_mem]
  intro v hv
  simp only [List.mem_toArray, cellsP, List.mem_flatMap, List.mem_cons, List.not_mem_nil, or_false] at hv
  obtain ⟨c, _, rfl | rfl⟩ := hv <;> rfl
theorem wpList_load_codes {ops : Array Oper} {rest : List Oper} {o : Oper} {a : Act} {w : World} {Q : Exit → Act → World → Prop} (hgd : o.guard = none) (x : Operand) (ho : o.op = .load 137 x)
    (g : Nat) (hx : a.eval x = .pointer (some ⟨g, 0, none⟩)) (l : List (Nat × Nat)) (hl : l.length = 257) (hg : Blk w g 137 (cellsP l))
    (h : wpList Tryd.prog ops Q rest (a.put o.dst (.agg (cellsP l).toArray)) w) : wpList Tryd.prog ops Q (o :: rest) a w :=
  wpList_load_row hgd 137 x ho g hx 137 (cellsP l).toArray (0, 0) _ hg Tryd.underlying137 rfl (by rw [zero_codes.2]; simp [cellsP_length, hl]) h
theorem wpList_store_codes {ops : Array Oper} {rest : List Oper} {o : Oper} {a : Act} {w : World} {Q : Exit → Act → World → Prop} (hgd : o.guard = none) (x y : Operand) (ho : o.op = .store 137 x y)
    (g : Nat) (hx : a.eval x = .pointer (some ⟨g, 0, none⟩)) (l m : List (Nat × Nat)) (hl : l.length = 257) (hm : m.length = 257) (hy : a.eval y = .agg (cellsP m).toArray) (hg : Blk w g 137 (cellsP l))
    (h : ∀ w', Blk w' g 137 (cellsP m) → Fr (· = g) w w' → wpList Tryd.prog ops Q rest (a.put o.dst undef) w') : wpList Tryd.prog ops Q (o :: rest) a w := by
  refine wpList_store_row hgd 137 x y ho g (cellsP m).toArray hx hy 137 _ hg (by rw [zero_codes.2]; simp [cellsP_length, hm]) (by simp [cellsP_length, hl, hm]) (cellsP_one _) ?_
  exact h _ (setRow_heap w g _ _ 137 _ hg) ⟨rfl, rfl, rfl, by simp [World.setRow], fun k _ hk => setRow_other w g k _ hk⟩
theorem results_codes {tmps : Array Value} {w : World} {g : Nat} {l : List (Nat × Nat)} (hl : l.length = 257) (hp : tmps.getD 0 undef = .pointer (some ⟨g, 0, none⟩)) (hb : Blk w g 137 (cellsP l)) : (results Tryd.f98 tmps).run Tryd.prog w = .ok (.agg (cellsP l).toArray) w :=
  results_cell_row (p := 0) (ty := 137) (by kernel_rfl) tmps w g 137 (cellsP l).toArray (0, 0) _ hp hb Tryd.underlying137 rfl (by rw [zero_codes.2]; simp [cellsP_length, hl])
end Go.Proofs.YtinieljgcenemaaDoor
namespace Go.Proofs.YtinieljgcenemaaDoor
open Go.RowKit Go.Own Go.Huf
set_option linter.unusedVariables false

/-- the world behind p codes -/
structure CW (w : World) (g2 p : Nat) (w' : World) : Prop where
  below : Below w.heap.size w w'
  cnt : Cnt w'
  b0 : Blk w' w.heap.size 137 (cellsP (outP 0))
  b1 : Blk w' (w.heap.size + 1) 137 (cellsP (outP p))
  b2 : Blk w' g2 150 symCells
  lt : w.heap.size + 1 < g2
theorem sym_lt (n j : Nat) (hn : n < 31) (hj : j < cnt n) : sym (strt n + j) < 257 := by have := (sym_code n hn j hj).2.1; omega
theorem CW.next {w w' : World} {g2 p s v n : Nat} (h : CW w g2 p w') (hs : sym p = s) (hc : code s = (v, n)) :
    CW w g2 (p + 1) ((w'.setCell ⟨w.heap.size + 1, s * 2, none⟩ (.int .u32 (v : Int))).setCell ⟨w.heap.size + 1, s * 2 + 1, none⟩ (.int .i64 (n : Int))) := by
  have hf : Fr (· = w.heap.size + 1) w' ((w'.setCell ⟨w.heap.size + 1, s * 2, none⟩ (.int .u32 (v : Int))).setCell ⟨w.heap.size + 1, s * 2 + 1, none⟩ (.int .i64 (n : Int))) :=
    ((Fr.refl (· = w.heap.size + 1) w').setCell (p := ⟨w.heap.size + 1, s * 2, none⟩) (.inl rfl) _).setCell (p := ⟨w.heap.size + 1, s * 2 + 1, none⟩) (.inl rfl) _
  have hpos : 0 < w.heap.size + 1 ∧ w.heap.size ≤ w'.heap.size := ⟨by have := h.cnt.pos; have := h.b0.lt; omega, h.below.size⟩
  have hl := h.lt
  refine ⟨h.below.trans (hf.below (by omega) (fun i _ e => by omega)), h.cnt.fr hf (by omega), h.b0.fr hf (by omega), ?_, h.b2.fr hf (by omega), h.lt⟩
  have := (h.b1.set_ (s * 2) (.int .u32 (v : Int))).set_ (s * 2 + 1) (.int .i64 (n : Int))
  rw [outP, hs, hc, ← cellsP_set (outP p) s (v, n)]
  exact this

set_option maxRecDepth 100000 in
set_option maxHeartbeats 2000000 in
theorem codes_any (w : World) (hC : Cnt w) : Calls Tryd.prog 98 #[] w fun e w' => e = .returned (.agg codeCells.toArray) ∧ Below w.heap.size w w' := by
  have hz := zero_codes.1
  have hzs := zero_syms.1
  go_enter Tryd.func98, Tryd.ntmps98
  go_wp2_with (first
    | (go_at_call 107; (with_reducible refine (syms_any _).mono ?_); rintro e w1 ⟨rfl, hb1⟩; have Hb1 := Lib.hid hb1; clear hb1)
    | (refine wpList_store_syms rfl _ _ rfl rfl rfl ?_))
  clear hz hzs
  go_loopg [7, 3, 4] 31 (fun g i s3 s4 w' => ∃ n : Nat, g + n = 31 ∧ i = .int .i64 n ∧ s3 = .int .u32 (nx n : Nat) ∧ s4 = .int .i64 (strt n : Nat) ∧ CW w w1.heap.size (strt n) w')
  case atStart =>
    have hb := Hb1.out
    have hlt := hb.size
    simp at hlt
    have hb' : Below w.heap.size w w1 := (((Below.refl _ _).alloc (Nat.le_refl _) _).alloc (by simp) _).trans (hb.mono (by simp; omega))
    refine ⟨0, by omega, rfl, rfl, rfl, ⟨hb'.trans ((Below.refl _ _).alloc hb'.size _), hC.below (hb'.trans ((Below.refl _ _).alloc hb'.size _)), ?_, ?_, Blk.new _ _ _, by omega⟩⟩
    · exact (((Blk.new w 137 (cellsP (outP 0))).alloc _).below hb (by simp; omega)).alloc _
    · have := (((Blk.new (w.alloc (.cells (cellsP (outP 0)).toArray 137)) 137 (cellsP (outP 0)))).below hb (by simp)).alloc (.cells symCells.toArray 150)
      simpa [strt] using this
  case round =>
    obtain ⟨n, hg, rfl, rfl, rfl, hw⟩ := hrel
    have HW := Lib.hid hw
    clear hw hC
    cases gk with
    | succ g =>
      have hn : n < 31 := by omega
      have hc := HW.out.cnt n hn
      have hnx := nx_le n hn
      have hn2 := nx_two n
      have e2 : IntKind.u32.wrap ((nx n : Int) * 2) = (frst n : Nat) := by rw [← hn2]; rw [IntKind.wrap_u32]; omega
      go_wp2
      go_loopg [15, 3, 4] (cnt n) (fun g j s3 s4 w' => ∃ k : Nat, g + k = cnt n ∧ j = .int .u32 k ∧ s3 = .int .u32 ((frst n + k : Nat) : Int) ∧ s4 = .int .i64 ((strt n + k : Nat) : Int) ∧ CW w w1.heap.size (strt n + k) w')
      case atStart => exact ⟨0, by omega, rfl, by simp, rfl, HW.out⟩
      case round =>
        obtain ⟨k, hk, rfl, rfl, rfl, hw⟩ := hrel
        have HW2 := Lib.hid hw
        clear hw hc hn2 e2 HW
        cases gk with
        | succ g2 =>
          have hkn : k < cnt n := by omega
          have hsc := sym_code n hn k hkn
          obtain ⟨s, hs⟩ : ∃ s, sym (strt n + k) = s := ⟨_, rfl⟩
          rw [hs] at hsc
          have hp := hsc.2.2
          have hs2 := hsc.2.1
          have Hs := Lib.hid hs
          have Hsc := Lib.hid hsc.1
          clear hsc hs
          have hcell : wr.cell? ⟨w1.heap.size, strt n + k, none⟩ = some (.int .i16 (s : Int)) := by
            rw [HW2.out.b2.cell, symCells_at _ hp, Hs.out]
          have hl1 : (cellsP (outP (strt n + k))).length = 514 := by rw [cellsP_length, outP_length]
          obtain ⟨v0, hv0⟩ : ∃ v, wr.cell? ⟨w.heap.size + 1, s * 2, none⟩ = some v := ⟨_, (HW2.out.b1.cell _).trans (List.getElem?_eq_getElem (by rw [hl1]; omega))⟩
          obtain ⟨v1, hv1⟩ : ∃ v, wr.cell? ⟨w.heap.size + 1, s * 2 + 1, none⟩ = some v := ⟨_, (HW2.out.b1.cell _).trans (List.getElem?_eq_getElem (by rw [hl1]; omega))⟩
          have hf0 := HW2.out.b1.frozen (s * 2)
          have hf1 := HW2.out.b1.frozen (s * 2 + 1)
          clear hl1
          go_wp2
          go_roundg g2
          case measure => omega
          case rel => exact ⟨k + 1, by omega, by go_num, by go_num, by go_num, HW2.out.next Hs.out Hsc.out⟩
        | zero =>
          obtain rfl : k = cnt n := by omega
          go_wp2
          go_roundg g
          case measure => omega
          case rel => exact ⟨n + 1, by omega, by go_num, rfl, rfl, HW2.out⟩
    | zero =>
      obtain rfl : n = 31 := by omega
      go_wp2_with (first
        | (refine wpList_load_codes rfl _ rfl _ rfl (outP (strt 31)) (outP_length _) HW.out.b1 ?_)
        | (refine wpList_store_codes rfl _ _ rfl _ rfl _ _ (outP_length 0) (outP_length _) rfl HW.out.b0 ?_; intro w5 hb5 hf5))
      have hb : Below w.heap.size w w5 := HW.out.below.trans (hf5.below HW.out.below.size (fun i _ e => by omega))
      rw [show strt 31 = 257 from strt_all, outP_all] at *
      exact bodyPost_ret (v := .agg codeCells.toArray) (results_codes codeL_length rfl hb5) rfl ⟨rfl, hb⟩

theorem code_at (s : Nat) (hs : s < 257) : codeL[s]? = some (code s) := by
  rw [code, List.getD_eq_getElem?_getD, List.getElem?_eq_getElem (by rw [codeL_length]; omega)]
  rfl
theorem idx_codes (s : Nat) (hs : s < 257) (w : World) : (Instr.index 137 (.agg codeCells.toArray) (.int .i64 (s : Int))).run Tryd.prog w = .ok (.agg #[.int .u32 (((code s).1 : Nat) : Int), .int .i64 (((code s).2 : Nat) : Int)]) w := by
  have h := cellsP_at codeL s _ (code_at s hs)
  have hl := codeCells_length
  have he : codeCells.toArray.extract (s * 2) (s * 2 + 2) = #[.int .u32 (((code s).1 : Nat) : Int), .int .i64 (((code s).2 : Nat) : Int)] := by
    have h0 : (codeCells)[s * 2]'(by omega) = .int .u32 (((code s).1 : Nat) : Int) := by
      have := h.1; rw [← codeCells, List.getElem?_eq_getElem (by omega)] at this; exact Option.some.inj this
    have h1 : (codeCells)[s * 2 + 1]'(by omega) = .int .i64 (((code s).2 : Nat) : Int) := by
      have := h.2; rw [← codeCells, List.getElem?_eq_getElem (by omega)] at this; exact Option.some.inj this
    rw [List.extract_toArray]
    congr 1
    rw [List.extract_eq_take_drop, List.drop_eq_getElem_cons (by omega), List.drop_eq_getElem_cons (by omega), h0, h1, show s * 2 + 2 - s * 2 = 2 by omega]
    rfl
  have hz := zero_codes.2
  have h2 : ∀ w, (sizeOf 136).run Tryd.prog w = .ok 2 w := fun w => by kernel_rfl
  have h3 : ∀ w, (isAgg 136).run Tryd.prog w = .ok true w := fun w => by kernel_rfl
  simp [Instr.index, asIntOf, run_underlying Tryd.underlying137, h2, part, h3]
  rw [if_pos hs]
  simpa using he

end Go.Proofs.YtinieljgcenemaaDoor
namespace Go.Proofs.YtinieljgcenemaaDoor
open Go.RowKit Go.Own Go.Huf
set_option linter.unusedVariables false

theorem enc_take (s : ByteArray) (k : Nat) (h : k < s.size) : enc (s.data.toList.take (k + 1)) = enc (s.data.toList.take k) ++ cbits (s[k]).toNat := by
  rw [List.take_succ_eq_append_getElem (by simpa using h), enc_append]
  simp [enc]
  rfl
theorem enc_take_len (s : ByteArray) (k : Nat) (h : k < s.size) : (enc (s.data.toList.take (k + 1))).length = (enc (s.data.toList.take k)).length + (code (s[k]).toNat).2 := by
  rw [enc_take s k h, List.length_append, cbits_length]
theorem blk_code {w : World} {g : Nat} (hg : Blk w g 137 codeCells) (x : UInt8) :
    w.cell? ⟨g, x.toNat * 2, none⟩ = some (.int .u32 (((code x.toNat).1 : Nat) : Int)) ∧ w.cell? ⟨g, x.toNat * 2 + 1, none⟩ = some (.int .i64 (((code x.toNat).2 : Nat) : Int)) := by
  have hx := x.toNat_lt
  have h := cellsP_at codeL x.toNat _ (code_at x.toNat (by omega))
  exact ⟨(hg.cell _).trans h.1, (hg.cell _).trans h.2⟩
theorem code_bd (x : UInt8) : 5 ≤ (code x.toNat).2 ∧ (code x.toNat).2 ≤ 30 ∧ (code x.toNat).1 < 2 ^ (code x.toNat).2 := by
  have hx := x.toNat_lt
  have := code_sym x.toNat (by omega)
  exact ⟨this.2.2.2.1, this.2.2.2.2, code_lt _ (by omega)⟩

set_option maxRecDepth 100000 in
set_option maxHeartbeats 2000000 in
theorem size_any (s : ByteArray) (g : Nat) (w : World) (hg : Blk w g 137 codeCells) (hs : s.size ≤ 140737488355328) :
    Calls Tryd.prog 99 #[.string s, .pointer (some ⟨g, 0, none⟩)] w fun e w' => e = .returned (.int .i64 ((((enc s.data.toList).length + 7) / 8 : Nat) : Int)) ∧ ∃ k, w' = w.drewN k := by
  have Hg := Lib.hid hg
  clear hg
  go_enter Tryd.func99, Tryd.ntmps99
  go_wp2
  go_loopg [9, 5] s.size (fun gh i b w' => ∃ (k q : Nat), gh + k = s.size ∧ i = .int .i64 k ∧ b = .int .i64 ((enc (s.data.toList.take k)).length : Nat) ∧ w' = w.drewN q)
  case atStart => exact ⟨0, 0, by omega, rfl, rfl, rfl⟩
  case round =>
    obtain ⟨k, q, hk, rfl, rfl, rfl⟩ := hrel
    have hle := enc_le (s.data.toList.take k)
    have hkl : (s.data.toList.take k).length ≤ k := List.length_take_le _ _
    cases gk with
    | succ g1 =>
      have hlt : k < s.size := by omega
      obtain ⟨x, hx⟩ : ∃ x : UInt8, s[k] = x := ⟨_, rfl⟩
      have he := enc_take_len s k hlt
      rw [hx] at he
      have He := Lib.hid he
      have hb := code_bd x
      have hc := (blk_code Hg.out x).2
      obtain ⟨L, hL⟩ : ∃ L, (enc (s.data.toList.take k)).length = L := ⟨_, rfl⟩
      rw [hL] at hle ⊢
      have HL := Lib.hid hL
      obtain ⟨m, hm⟩ : ∃ m, (code x.toNat).2 = m := ⟨_, rfl⟩
      rw [hm] at hb hc
      have Hm := Lib.hid hm
      have hxl := x.toNat_lt
      have hx1 : (0 : Int) ≤ (x.toNat : Int) := by omega
      have hx2 : (x.toNat : Int) < 257 := by omega
      have hw : IntKind.i64.wrap ((L : Int) + m) = (L : Int) + m := by rw [IntKind.wrap_i64]; omega
      clear he hL hm
      go_wp2
      go_quiet (fail)
      go_wp2
      go_roundg g1
      case measure => omega
      case rel => exact ⟨k + 1, _, by omega, by go_num, by rw [He.out, HL.out, Hm.out]; go_num, rfl⟩
    | zero =>
      obtain rfl : k = s.size := by omega
      have HL : Hid (s.data.toList.take s.size = s.data.toList) := List.take_of_length_le (by simp)
      rw [HL.out] at hle hkl ⊢
      obtain ⟨L, hL⟩ : ∃ L, (enc s.data.toList).length = L := ⟨_, rfl⟩
      rw [hL] at hle ⊢
      have HL2 := Lib.hid hL
      clear hL HL
      go_wp2
      go_ret
      exact ⟨ret_int (by have := HL2.out; omega), q, rfl⟩

set_option maxRecDepth 100000 in
set_option maxHeartbeats 2000000 in
theorem Size_any (s : ByteArray) (w : World) (hC : Cnt w) (hs : s.size ≤ 140737488355328) :
    Calls Tryd.prog 82 #[.string s] w fun e w' => e = .returned (.int .i64 ((((enc s.data.toList).length + 7) / 8 : Nat) : Int)) ∧ Below w.heap.size w w' := by
  have hz := zero_codes.1
  go_enter Tryd.func82, Tryd.ntmps82
  go_wp2_with (first
    | (go_at_call 98; (with_reducible refine (codes_any _ hC).mono ?_); rintro e w1 ⟨rfl, hb1⟩; have Hb1 := Lib.hid hb1; clear hb1)
    | (refine wpList_store_codes rfl _ _ rfl _ rfl (outP 0) codeL (outP_length 0) codeL_length rfl (Blk.new _ _ _) ?_; intro w2 hb2 hf2; have HB2 := Lib.hid hb2; have Hf2 := Lib.hid hf2; clear hb2 hf2)
    | (go_at_call 99; (with_reducible refine (size_any s _ _ HB2.out hs).mono ?_); rintro e w' ⟨rfl, q, rfl⟩))
  go_ret
  exact ⟨rfl, below_drewN (Hb1.out.trans (((Below.refl _ _).alloc Hb1.out.size _).trans (Hf2.out.below (by simp; have := Hb1.out.size; omega) (fun i _ e => by have := Hb1.out.size; omega)))) _⟩
end Go.Proofs.YtinieljgcenemaaDoor
