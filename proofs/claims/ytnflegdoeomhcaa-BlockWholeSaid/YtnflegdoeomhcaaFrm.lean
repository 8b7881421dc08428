/- Frames: plain mathematics: what a frame is written as, what octets are read as; that what was written is read as it was. Nothing of the program. -/
import Derived.Lib.Hide
namespace Go.Frm
set_option linter.unusedVariables false

/-- the number of some octets, the highest first -/
def num (xs : List UInt8) : Nat := xs.foldl (fun v b => v * 256 + b.toNat) 0
theorem num_snoc (xs : List UInt8) (b : UInt8) : num (xs ++ [b]) = num xs * 256 + b.toNat := by simp [num]
theorem num_take_succ (xs : List UInt8) (k : Nat) (h : k < xs.length) : num (xs.take (k + 1)) = num (xs.take k) * 256 + xs[k].toNat := by
  rw [List.take_succ_eq_append_getElem h, num_snoc]
theorem num_lt (xs : List UInt8) : num xs < 256 ^ xs.length := by
  suffices h : ∀ n, ∀ xs : List UInt8, xs.length = n → num xs < 256 ^ n from h _ xs rfl
  intro n
  induction n with
  | zero => intro xs h; have := List.eq_nil_of_length_eq_zero h; subst this; simp [num]
  | succ n ih =>
    intro xs h
    have hne : xs ≠ [] := by intro e; subst e; simp at h
    obtain ⟨ys, y, rfl⟩ : ∃ ys y, xs = ys ++ [y] := ⟨xs.dropLast, xs.getLast hne, (List.dropLast_concat_getLast hne).symm⟩
    rw [num_snoc]
    have := ih ys (by simpa using h)
    have hy := y.toNat_lt
    rw [Nat.pow_succ]
    omega
theorem num_take_lt (xs : List UInt8) (k : Nat) : num (xs.take k) < 256 ^ k := by
  have h1 := num_lt (xs.take k)
  have h2 : (xs.take k).length ≤ k := List.length_take_le _ _
  exact Nat.lt_of_lt_of_le h1 (Nat.pow_le_pow_right (by omega) h2)
/-- the lowest n octets of v, the highest first -/
def be (v : Nat) : Nat → List UInt8
  | 0 => []
  | n + 1 => be (v / 256) n ++ [UInt8.ofNat v]
theorem be_length (v n : Nat) : (be v n).length = n := by
  induction n generalizing v with
  | zero => rfl
  | succ n ih => simp [be, ih]
theorem be_succ (v n : Nat) : be v (n + 1) = UInt8.ofNat (v / 256 ^ n) :: be v n := by
  induction n generalizing v with
  | zero => simp [be]
  | succ n ih =>
    rw [be, ih (v / 256), be, Nat.div_div_eq_div_mul, Nat.pow_succ, Nat.mul_comm 256]; rfl
theorem num_be (v n : Nat) : num (be v n) = v % 256 ^ n := by
  induction n generalizing v with
  | zero => simp [be, num, Nat.mod_one]
  | succ n ih =>
    rw [be, num_snoc, ih, Nat.pow_succ, Nat.mul_comm (256 ^ n) 256, Nat.mod_mul]
    have : (UInt8.ofNat v).toNat = v % 256 := by simp
    omega
theorem num_be_eq {v n : Nat} (h : v < 256 ^ n) : num (be v n) = v := by rw [num_be, Nat.mod_eq_of_lt h]

structure Fm where
  kind : Int
  stream : Int
  fin : Bool
  eh : Bool
  ack : Bool
  prio : Bool
  pay : List UInt8
  flags : Int
  pad : Int
  depend : Int
  excl : Bool
  weight : Int
  code : Nat
  list : List (Int × Nat)
  last : Int
  inc : Int
/-- a fault -/
structure Flt where
  is : Bool
  code : Nat
  stream : Int
def zeroF : Fm := ⟨0, 0, false, false, false, false, [], 0, 0, 0, false, 0, 0, [], 0, 0⟩
def noF : Flt := ⟨false, 0, 0⟩
def conF (c : Nat) : Flt := ⟨true, c, 0⟩

/-! what a kind has -/
def hE (k : Nat) : Bool := k == 0 || k == 1
def hP (k : Nat) : Bool := k == 0 || k == 1 || k == 5
def hH (k : Nat) : Bool := k == 1 || k == 5 || k == 9
def hR (k : Nat) : Bool := k == 1
def hW (k : Nat) : Bool := k == 2
def hC (k : Nat) : Bool := k == 3 || k == 7
def hA (k : Nat) : Bool := k == 4 || k == 6
def hL (k : Nat) : Bool := k == 4
def hT (k : Nat) : Bool := k == 5 || k == 7
def hI (k : Nat) : Bool := k == 8
def hF (k : Nat) : Bool := decide (10 ≤ k)
def hB (k : Nat) : Bool := k == 0 || k == 1 || k == 5 || k == 6 || k == 7 || k == 9 || decide (10 ≤ k)
/-- must it be on a stream, must it not -/
def onS (k : Nat) : Bool := decide (k < 4) || k == 5 || k == 9
def onC (k : Nat) : Bool := k == 4 || k == 6 || k == 7
def stray (k : Nat) (stream : Int) : Bool := onS k && stream == 0 || onC k && stream != 0

/-! what may be -/
def Fm.k (f : Fm) : Nat := f.kind.toNat
def Fm.weighed (f : Fm) : Bool := hW f.k || hR f.k && f.prio
def headOk (f : Fm) : Bool := decide (0 ≤ f.kind) && decide (f.kind ≤ 255) && decide (0 ≤ f.stream) && decide (f.stream ≤ 2147483647) && !stray f.k f.stream
def only (f : Fm) : Bool :=
  (!f.fin || hE f.k) && (!f.eh || hH f.k) && (!f.ack || hA f.k) && (!f.prio || hR f.k) && (f.pay.isEmpty || hB f.k) && (f.flags == 0 || hF f.k) && (f.pad == 0 || hP f.k) && (f.code == 0 || hC f.k)
    && (f.list.isEmpty || hL f.k) && (f.last == 0 || hT f.k) && (f.inc == 0 || hI f.k) && (f.weighed || (f.depend == 0 && !f.excl && f.weight == 0))
def idsOk (l : List (Int × Nat)) : Bool := l.all fun s => decide (0 ≤ s.1) && decide (s.1 ≤ 65535)
def bounds (f : Fm) : Bool :=
  decide (0 ≤ f.pad) && decide (f.pad ≤ 256) && decide (0 ≤ f.flags) && decide (f.flags ≤ 255) && decide (0 ≤ f.last) && decide (f.last ≤ 2147483647) && (f.k != 5 || f.last != 0)
    && (!f.weighed || (decide (0 ≤ f.depend) && decide (f.depend ≤ 2147483647) && decide (1 ≤ f.weight) && decide (f.weight ≤ 256)))
    && idsOk f.list && (!f.ack || f.list.isEmpty) && (f.k != 6 || f.pay.length == 8) && (f.k != 8 || (decide (1 ≤ f.inc) && decide (f.inc ≤ 2147483647)))
def mayB (f : Fm) : Bool := headOk f && only f && bounds f
/-- what comes by the types of its numbers -/
def okF (f : Fm) : Prop := f.code < 4294967296 ∧ ∀ s ∈ f.list, s.2 < 4294967296

/-! what is written -/
def listB (l : List (Int × Nat)) : List UInt8 := l.flatMap fun s => be s.1.toNat 2 ++ be s.2 4
def padA (f : Fm) : List UInt8 := bif decide (0 < f.pad) then be (f.pad - 1).toNat 1 else []
def padZ (f : Fm) : List UInt8 := bif decide (0 < f.pad) then List.replicate (f.pad - 1).toNat 0 else []
def depN (f : Fm) : Nat := f.depend.toNat + (bif f.excl then 2147483648 else 0)
def prioB (f : Fm) : List UInt8 := bif f.prio || hW f.k then be (depN f) 4 ++ be (f.weight - 1).toNat 1 else []
def lastB (f : Fm) : List UInt8 := bif hT f.k then be f.last.toNat 4 else []
def codeB (f : Fm) : List UInt8 := bif hC f.k then be f.code 4 else []
def incB (f : Fm) : List UInt8 := bif hI f.k then be f.inc.toNat 4 else []
def mustB (f : Fm) : List UInt8 := prioB f ++ (lastB f ++ (codeB f ++ (incB f ++ listB f.list)))
def body (f : Fm) : List UInt8 := padA f ++ (mustB f ++ (f.pay ++ padZ f))
def flagsN (f : Fm) : Nat := f.flags.toNat + (bif f.fin || f.ack then 1 else 0) + (bif f.eh then 4 else 0) + (bif decide (0 < f.pad) then 8 else 0) + (bif f.prio then 32 else 0)
def headB (n k fl s : Nat) : List UInt8 := be n 3 ++ (be k 1 ++ (be fl 1 ++ be s 4))
def wr (f : Fm) : List UInt8 := headB (body f).length f.k (flagsN f) f.stream.toNat ++ body f
/-- the octets, and the error -/
def writeP (f : Fm) : List UInt8 × Int := bif mayB f then (bif decide ((body f).length ≤ 16777215) then (wr f, 0) else ([], 4)) else ([], 1)

/-! what is read -/
def padded (k fl : Nat) : Bool := hP k && fl.testBit 3
def withP (k fl : Nat) : Bool := hR k && fl.testBit 5
def withA (k fl : Nat) : Bool := hA k && fl.testBit 0
def base (k : Nat) : Nat := if k = 2 then 5 else if k = 3 then 4 else if k = 5 then 4 else if k = 6 then 8 else if k = 7 then 8 else if k = 8 then 4 else 0
def must (k fl : Nat) : Nat := base k + (bif padded k fl then 1 else 0) + (bif withP k fl then 5 else 0)
def just (k : Nat) : Bool := k == 2 || k == 3 || k == 6 || k == 8
def badSize (k fl n : Nat) : Bool := decide (n < must k fl) || just k && n != must k fl || k == 4 && (n % 6 != 0 || withA k fl && decide (0 < n))
def settsN : Nat → List UInt8 → List (Int × Nat)
  | 0, _ => []
  | n + 1, s => ((num (s.take 2) : Int), num ((s.drop 2).take 4)) :: settsN n (s.drop 6)
def low (n : Nat) : Nat := n % 2147483648
def hi31 (n : Nat) : Bool := decide (2147483648 ≤ n)
def unpad (pd : Bool) (s : List UInt8) : List UInt8 := bif pd then (s.drop 1).take (s.length - 1 - (s.headD 0).toNat) else s
/-- the frame, of a payload without its padding -/
def readB (k fl stream padN : Nat) (s : List UInt8) : Fm :=
  let w := withP k fl || hW k
  let s2 := bif w then s.drop 5 else s
  let s3 := bif hT k then s2.drop 4 else s2
  let s4 := bif hC k then s3.drop 4 else s3
  { kind := k, stream := stream, fin := hE k && fl.testBit 0, eh := hH k && fl.testBit 2, ack := withA k fl, prio := withP k fl,
    pay := bif hB k then s4 else [], flags := bif hF k then (fl : Int) else 0, pad := padN,
    depend := bif w then (low (num (s.take 4)) : Int) else 0, excl := w && hi31 (num (s.take 4)), weight := bif w then ((s.drop 4).headD 0).toNat + 1 else 0,
    code := bif hC k then num (s3.take 4) else 0, list := bif hL k then settsN (s4.length / 6) s4 else [], last := bif hT k then (low (num (s2.take 4)) : Int) else 0, inc := bif hI k then (low (num (s4.take 4)) : Int) else 0 }
def readP (k fl stream : Nat) (s : List UInt8) : Fm := readB k fl stream (bif padded k fl then (s.headD 0).toNat + 1 else 0) (unpad (padded k fl) s)
def unfitP (f : Fm) : Flt := bif f.kind == 5 && f.last == 0 then conF 1 else bif f.kind == 8 && f.inc == 0 then ⟨true, 1, f.stream⟩ else noF
def parseP (k fl stream : Nat) (s : List UInt8) : Fm × Flt :=
  bif stray k stream then (zeroF, conF 1)
  else bif badSize k fl s.length then (zeroF, ⟨true, 6, bif k == 2 then (stream : Int) else 0⟩)
  else bif padded k fl && decide (s.length - must k fl < (s.headD 0).toNat) then (zeroF, conF 1)
  else bif (unfitP (readP k fl stream s)).is then (zeroF, unfitP (readP k fl stream s)) else (readP k fl stream s, noF)

/-! a parser -/
structure Pst where
  held : List UInt8
  done : Bool
structure Out where
  f : Fm
  x : Flt
  ok : Bool
def hdN (s : List UInt8) : Nat := num (s.take 3)
def hdK (s : List UInt8) : Nat := num ((s.drop 3).take 1)
def hdF (s : List UInt8) : Nat := num ((s.drop 4).take 1)
def hdS (s : List UInt8) : Nat := low (num ((s.drop 5).take 4))
def clampM (n : Int) : Nat := (min (max n 16384) 16777215).toNat
def feedN (m : Nat) (p : Pst) (n : Nat) : Nat := bif p.done then 0 else min n (m + 9 - p.held.length)
def feedP (m : Nat) (p : Pst) (b : List UInt8) : Pst := ⟨p.held ++ b.take (feedN m p b.length), p.done⟩
/-- behind a fault of the connection nothing is held -/
def settle (o : Fm × Flt) (rest : List UInt8) : Out × Pst := (⟨o.1, o.2, true⟩, bif o.2.is && o.2.stream == 0 then ⟨[], true⟩ else ⟨rest, false⟩)
def none_ : Out := ⟨zeroF, noF, false⟩
def nextP (m : Nat) (p : Pst) : Out × Pst :=
  bif p.done || decide (p.held.length < 9) then (none_, p)
  else bif decide (m < hdN p.held) then settle (zeroF, conF 6) []
  else bif decide (p.held.length < 9 + hdN p.held) then (none_, p)
  else settle (parseP (hdK p.held) (hdF p.held) (hdS p.held) ((p.held.drop 9).take (hdN p.held))) (p.held.drop (9 + hdN p.held))
/-- what a parser is: done it holds nothing; it holds no more than a frame -/
def Pst.ok (p : Pst) : Prop := p.done = true → p.held = []
end Go.Frm
