/- Stage 10: what fields may be a message's: plain mathematics; nothing of the program. -/
import Derived.Test.YtilabahcngjflaaDoorTbl
import Derived.Lib.Strings
import Derived.Lib.Atoi
import Derived.Lib.SlicesS
namespace Go.Fie
open Go.Tbl
set_option linter.unusedVariables false
set_option linter.unusedSimpArgs false

abbrev nMethod : ByteArray := ⟨#[58, 109, 101, 116, 104, 111, 100]⟩
abbrev nScheme : ByteArray := ⟨#[58, 115, 99, 104, 101, 109, 101]⟩
abbrev nAuth : ByteArray := ⟨#[58, 97, 117, 116, 104, 111, 114, 105, 116, 121]⟩
abbrev nPath : ByteArray := ⟨#[58, 112, 97, 116, 104]⟩
abbrev nStatus : ByteArray := ⟨#[58, 115, 116, 97, 116, 117, 115]⟩
abbrev nCL : ByteArray := ⟨#[99, 111, 110, 116, 101, 110, 116, 45, 108, 101, 110, 103, 116, 104]⟩
abbrev nTe : ByteArray := ⟨#[116, 101]⟩
abbrev nVia : ByteArray := ⟨#[118, 105, 97]⟩
abbrev nFwd : ByteArray := ⟨#[102, 111, 114, 119, 97, 114, 100, 101, 100]⟩
abbrev nHop : ByteArray := ⟨#[120, 45, 104, 111, 112, 45]⟩
abbrev nTrailers : ByteArray := ⟨#[116, 114, 97, 105, 108, 101, 114, 115]⟩
abbrev nConnection : ByteArray := ⟨#[99, 111, 110, 110, 101, 99, 116, 105, 111, 110]⟩
abbrev nProxy : ByteArray := ⟨#[112, 114, 111, 120, 121, 45, 99, 111, 110, 110, 101, 99, 116, 105, 111, 110]⟩
abbrev nKeep : ByteArray := ⟨#[107, 101, 101, 112, 45, 97, 108, 105, 118, 101]⟩
abbrev nTransfer : ByteArray := ⟨#[116, 114, 97, 110, 115, 102, 101, 114, 45, 101, 110, 99, 111, 100, 105, 110, 103]⟩
abbrev nUpgrade : ByteArray := ⟨#[117, 112, 103, 114, 97, 100, 101]⟩
abbrev nConnect : ByteArray := ⟨#[67, 79, 78, 78, 69, 67, 84]⟩
abbrev nOptions : ByteArray := ⟨#[79, 80, 84, 73, 79, 78, 83]⟩
abbrev nStar : ByteArray := ⟨#[42]⟩
abbrev nSlash : ByteArray := ⟨#[47]⟩
abbrev nColon : ByteArray := ⟨#[58]⟩
abbrev nNone : ByteArray := ⟨#[]⟩

/-- a byte of a name, of a value; a blank; a digit -/
def nbN (n : Nat) : Bool := decide (33 ≤ n) && decide (n ≤ 126) && !(decide (65 ≤ n) && decide (n ≤ 90)) && decide (n ≠ 58)
def vbN (n : Nat) : Bool := decide (n ≠ 0) && decide (n ≠ 10) && decide (n ≠ 13)
def blN (n : Nat) : Bool := decide (n = 32) || decide (n = 9)
def dgN (n : Nat) : Bool := decide (48 ≤ n) && decide (n ≤ 57)
def nb (b : UInt8) : Bool := nbN b.toNat
def vb (b : UInt8) : Bool := vbN b.toNat
def bl (b : UInt8) : Bool := blN b.toNat
def dg (b : UInt8) : Bool := dgN b.toNat
def okN (s : ByteArray) : Bool := s.data.toList.all nb && decide (s.size ≠ 0)
def okV (s : ByteArray) : Bool := s.data.toList.all vb && (decide (s.size = 0) || !bl (s.data.toList.getD 0 0) && !bl (s.data.toList.getD (s.size - 1) 0))
def digs (s : ByteArray) : Bool := s.data.toList.all dg
def okL (s : ByteArray) : Bool := decide (s.size ≠ 0) && decide (s.size ≤ 15) && digs s
def okS (s : ByteArray) : Bool := decide (s.size = 3) && digs s && decide ((s.data.toList.getD 0 0).toNat ≠ 48)
def psd (f : Fld) : Bool := Lib.hasPrefix f.n.data.toList [58]
/-- is a name among these? -/
def mem (ns : List ByteArray) (n : ByteArray) : Bool := ns.any fun x => decide (n = x)
theorem mem_iff {ns : List ByteArray} {n : ByteArray} : mem ns n = true ↔ n ∈ ns := by
  unfold mem
  rw [List.any_eq_true]
  constructor
  · rintro ⟨x, h1, h2⟩; rw [of_decide_eq_true h2]; exact h1
  · intro h; exact ⟨n, h, by simp⟩
def five : List ByteArray := [nConnection, nProxy, nKeep, nTransfer, nUpgrade]
def conn (f : Fld) : Bool := mem five f.n || (decide (f.n = nTe) && decide (f.v ≠ nTrailers))

/-- what was seen: by names -/
abbrev Sn := ByteArray → Option Fld
def none0 : Sn := fun _ => none
def upd (g : Sn) (k : ByteArray) (f : Fld) : Sn := fun x => if x = k then some f else g x
def val (g : Sn) (k : ByteArray) : ByteArray := match g k with | some f => f.v | none => nNone
def has (g : Sn) (k : ByteArray) : Bool := (g k).isSome
def addP (ns : List ByteArray) (g : Sn) (f : Fld) : Option Sn := bif mem ns f.n && !has g f.n then some (upd g f.n f) else none
def addL (g : Sn) (f : Fld) : Option Sn := bif okL f.v && (!has g nCL || decide (val g nCL = f.v)) then some (upd g nCL f) else none
def addO (g : Sn) (f : Fld) : Option Sn := bif okN f.n && !conn f then (bif decide (f.n = nCL) then addL g f else some g) else none
def step1 (ns : List ByteArray) (a : Bool) (g : Sn) (f : Fld) : Option Sn := bif okV f.v then (bif a && psd f then addP ns g f else addO g f) else none
def lookF (ns : List ByteArray) : Bool → Sn → List Fld → Option Sn
  | _, g, [] => some g
  | a, g, f :: r => match step1 ns a g f with
    | none => none
    | some g' => lookF ns (a && psd f) g' r
/-- a number of digits -/
def numV (s : ByteArray) : Nat := (Lib.decFrom 0 s.data.toList).getD 0
def numb (g : Sn) (k : ByteArray) (d : Int) : Int := match g k with | some f => (numV f.v : Int) | none => d
/-- a message -/
structure Msg where
  m : ByteArray
  s : ByteArray
  a : ByteArray
  p : ByteArray
  st : Int
  len : Int
def msg0 : Msg := ⟨nNone, nNone, nNone, nNone, 0, 0⟩
def msg (g : Sn) : Msg := ⟨val g nMethod, val g nScheme, val g nAuth, val g nPath, numb g nStatus 0, numb g nCL (-1)⟩
def says (g : Sn) (k : ByteArray) : Bool := decide (val g k ≠ nNone)
def pathR (g : Sn) : Bool := Lib.hasPrefix (val g nPath).data.toList [47] || (decide (val g nPath = nStar) && decide (val g nMethod = nOptions))
def mustQ (g : Sn) : Bool := says g nMethod && (bif decide (val g nMethod = nConnect) then says g nAuth && !has g nScheme && !has g nPath else says g nScheme && pathR g)
def mustS (g : Sn) : Bool := okS (val g nStatus)
def four : List ByteArray := [nMethod, nScheme, nAuth, nPath]
def request (l : List Fld) : Option Msg := match lookF four true none0 l with | some g => bif mustQ g then some (msg g) else none | none => none
def response (l : List Fld) : Option Msg := match lookF [nStatus] true none0 l with | some g => bif mustS g then some (msg g) else none | none => none
def trailers (l : List Fld) : Bool := (lookF [] true none0 l).isSome
def stays (n : ByteArray) : Bool := decide (n = nTe) || decide (n = nVia) || decide (n = nFwd) || Lib.hasPrefix n.data.toList nHop.data.toList
def fwd (l : List Fld) : List Fld := l.filter fun f => !stays f.n

/-! what follows -/
theorem all_getD {p : UInt8 → Bool} {l : List UInt8} (h : ∀ j, j < l.length → p (l.getD j 0) = true) : l.all p = true := by
  rw [List.all_eq_true]
  intro x hx
  obtain ⟨i, hi, rfl⟩ := List.getElem_of_mem hx
  have := h i hi
  rwa [List.getD_eq_getElem?_getD, List.getElem?_eq_getElem hi, Option.getD_some] at this
theorem all_not {p : UInt8 → Bool} {l : List UInt8} {j : Nat} (hj : j < l.length) (h : p (l.getD j 0) = false) : l.all p = false := by
  cases ha : l.all p with
  | false => rfl
  | true =>
    rw [List.all_eq_true] at ha
    have := ha l[j] (List.getElem_mem hj)
    rw [List.getD_eq_getElem?_getD, List.getElem?_eq_getElem hj, Option.getD_some] at h
    rw [h] at this
    cases this
theorem psd_iff (f : Fld) : psd f = true ↔ ∃ r, f.n.data.toList = 58 :: r := by
  unfold psd Lib.hasPrefix
  cases h : f.n.data.toList with
  | nil =>
    constructor
    · intro h; cases h
    · rintro ⟨r, h⟩; cases h
  | cons b r =>
    rw [List.isPrefixOf_cons_cons, List.isPrefixOf_nil_left, Bool.and_true, beq_iff_eq]
    constructor
    · intro h; exact ⟨r, by rw [h]⟩
    · rintro ⟨r', h⟩; injection h with h1; exact h1.symm
theorem okN_psd {f : Fld} (h : okN f.n = true) : psd f = false := by
  cases hp : psd f with
  | false => rfl
  | true =>
    obtain ⟨r, hr⟩ := (psd_iff f).1 hp
    simp only [okN, Bool.and_eq_true] at h
    have h := h.1
    rw [hr] at h
    rw [List.all_cons, show nb 58 = false by decide +kernel] at h
    cases h
theorem has_upd (g : Sn) (k : ByteArray) (f : Fld) (x : ByteArray) : has (upd g k f) x = (decide (x = k) || has g x) := by
  unfold has upd
  by_cases h : x = k <;> simp [h]
theorem addO_ok {g g' : Sn} {f : Fld} (h : addO g f = some g') : okN f.n = true ∧ conn f = false ∧ psd f = false := by
  unfold addO at h
  cases h1 : okN f.n
  · simp [h1] at h
  · cases h2 : conn f
    · exact ⟨rfl, rfl, okN_psd h1⟩
    · simp [h1, h2] at h
theorem step1_V {ns : List ByteArray} {a : Bool} {g g' : Sn} {f : Fld} (h : step1 ns a g f = some g') : okV f.v = true := by
  unfold step1 at h
  cases hv : okV f.v
  · simp [hv] at h
  · rfl
theorem look_app (ns : List ByteArray) : ∀ (a : Bool) (g : Sn) (x y : List Fld), lookF ns a g (x ++ y) = (lookF ns a g x).bind fun g' => lookF ns (a && x.all psd) g' y
  | a, g, [], y => by simp [lookF]
  | a, g, f :: r, y => by
    rw [List.cons_append, lookF, lookF]
    cases step1 ns a g f with
    | none => rfl
    | some g' =>
      simp only
      rw [look_app ns _ g' r y]
      simp [Bool.and_assoc]
/-- who goes through behind other fields goes through ahead of them -/
theorem look_true (ns : List ByteArray) (g g' : Sn) : ∀ (l : List Fld), lookF ns false g l = some g' → lookF ns true g l = some g'
  | [], h => h
  | f :: r, h => by
    rw [lookF] at h
    cases hs : step1 ns false g f with
    | none => rw [hs] at h; cases h
    | some g1 =>
      rw [hs] at h
      simp only [Bool.false_and] at h
      have hv := step1_V hs
      have ho : addO g f = some g1 := by simpa [step1, hv] using hs
      obtain ⟨_, _, hp⟩ := addO_ok ho
      have hs2 : step1 ns true g f = some g1 := by simp [step1, hv, hp, ho]
      rw [lookF, hs2]
      simp only [hp, Bool.and_false]
      exact h
/-- all pseudo fields of what goes through have names that may be -/
theorem look_psd (ns : List ByteArray) : ∀ (a : Bool) (g g' : Sn) (l : List Fld), lookF ns a g l = some g' → ∀ f ∈ l, psd f = true → f.n ∈ ns
  | a, g, g', [], _, f, hf, _ => by cases hf
  | a, g, g', x :: r, h, f, hf, hp => by
    rw [lookF] at h
    cases hs : step1 ns a g x with
    | none => rw [hs] at h; cases h
    | some g1 =>
      rw [hs] at h
      rcases List.mem_cons.1 hf with rfl | hf
      · have hv := step1_V hs
        cases ha : a && psd f
        · simp only [step1, hv, ha, cond_true, cond_false] at hs
          rw [(addO_ok hs).2.2] at hp
          cases hp
        · simp only [step1, hv, ha, cond_true] at hs
          unfold addP at hs
          cases hd : mem ns f.n
          · simp [hd] at hs
          · exact mem_iff.1 hd
      · exact look_psd ns _ g1 g' r h f hf hp
/-- what was seen stays seen; what is seen was there -/
theorem look_keep (ns : List ByteArray) (k : ByteArray) (hk : k ≠ nCL) : ∀ (a : Bool) (g g' : Sn) (l : List Fld), lookF ns a g l = some g' → ∀ f, g k = some f → g' k = some f
  | a, g, g', [], h, f, hf => by simp [lookF] at h; rw [← h]; exact hf
  | a, g, g', x :: r, h, f, hf => by
    rw [lookF] at h
    cases hs : step1 ns a g x with
    | none => rw [hs] at h; cases h
    | some g1 =>
      rw [hs] at h
      refine look_keep ns k hk _ g1 g' r h f ?_
      have hv := step1_V hs
      cases ha : a && psd x
      · simp only [step1, hv, ha, cond_true, cond_false] at hs
        unfold addO at hs
        cases h1 : okN x.n && !conn x
        · simp [h1] at hs
        · rw [h1] at hs
          simp only [cond_true] at hs
          cases h2 : decide (x.n = nCL)
          · rw [h2] at hs; simp at hs; rw [← hs]; exact hf
          · rw [h2] at hs
            simp only [cond_true, addL] at hs
            cases h3 : okL x.v && (!has g nCL || decide (val g nCL = x.v))
            · simp [h3] at hs
            · rw [h3] at hs
              simp at hs
              rw [← hs]
              simp [upd, hk, hf]
      · simp only [step1, hv, ha, cond_true] at hs
        unfold addP at hs
        cases h1 : mem ns x.n && !has g x.n
        · simp [h1] at hs
        · rw [h1] at hs
          simp at hs
          rw [← hs]
          have hne : k ≠ x.n := by
            rintro rfl
            simp [has, hf] at h1
          simp [upd, hne, hf]
theorem look_from (ns : List ByteArray) (k : ByteArray) (hk : k ≠ nCL) : ∀ (a : Bool) (g g' : Sn) (l : List Fld), lookF ns a g l = some g' → ∀ f, g' k = some f → g k = some f ∨ (f ∈ l ∧ f.n = k ∧ k ∈ ns)
  | a, g, g', [], h, f, hf => by simp [lookF] at h; rw [h]; exact .inl hf
  | a, g, g', x :: r, h, f, hf => by
    rw [lookF] at h
    cases hs : step1 ns a g x with
    | none => rw [hs] at h; cases h
    | some g1 =>
      rw [hs] at h
      rcases look_from ns k hk _ g1 g' r h f hf with h0 | ⟨h1, h2, h3⟩
      · have hv := step1_V hs
        cases ha : a && psd x
        · simp only [step1, hv, ha, cond_true, cond_false] at hs
          unfold addO at hs
          cases h1 : okN x.n && !conn x
          · simp [h1] at hs
          · rw [h1] at hs
            simp only [cond_true] at hs
            cases h2 : decide (x.n = nCL)
            · rw [h2] at hs; simp at hs; rw [hs]; exact .inl h0
            · rw [h2] at hs
              simp only [cond_true, addL] at hs
              cases h3 : okL x.v && (!has g nCL || decide (val g nCL = x.v))
              · simp [h3] at hs
              · rw [h3] at hs
                simp at hs
                rw [← hs] at h0
                simp [upd, hk] at h0
                exact .inl h0
        · simp only [step1, hv, ha, cond_true] at hs
          unfold addP at hs
          cases h1 : mem ns x.n && !has g x.n
          · simp [h1] at hs
          · rw [h1] at hs
            simp at hs
            rw [← hs] at h0
            by_cases hne : k = x.n
            · subst hne
              simp [upd] at h0
              subst h0
              simp at h1
              exact .inr ⟨List.mem_cons_self, rfl, mem_iff.1 h1.1⟩
            · simp [upd, hne] at h0
              exact .inl h0
      · exact .inr ⟨List.mem_cons_of_mem _ h1, h2, h3⟩
/-- the length that was seen is right -/
theorem look_len (ns : List ByteArray) (hn : nCL ∉ ns) : ∀ (a : Bool) (g g' : Sn) (l : List Fld), lookF ns a g l = some g' → (∀ f, g nCL = some f → okL f.v = true) → ∀ f, g' nCL = some f → okL f.v = true
  | a, g, g', [], h, h0 => by simp [lookF] at h; rw [← h]; exact h0
  | a, g, g', x :: r, h, h0 => by
    rw [lookF] at h
    cases hs : step1 ns a g x with
    | none => rw [hs] at h; cases h
    | some g1 =>
      rw [hs] at h
      refine look_len ns hn _ g1 g' r h ?_
      intro f hf
      have hv := step1_V hs
      cases ha : a && psd x
      · simp only [step1, hv, ha, cond_true, cond_false] at hs
        unfold addO at hs
        cases h1 : okN x.n && !conn x
        · simp [h1] at hs
        · rw [h1] at hs
          simp only [cond_true] at hs
          cases h2 : decide (x.n = nCL)
          · rw [h2] at hs; simp at hs; rw [← hs] at hf; exact h0 f hf
          · rw [h2] at hs
            simp only [cond_true, addL] at hs
            cases h3 : okL x.v && (!has g nCL || decide (val g nCL = x.v))
            · simp [h3] at hs
            · rw [h3] at hs
              simp at hs
              rw [← hs] at hf
              simp [upd] at hf
              subst hf
              simp at h3
              exact h3.1
      · simp only [step1, hv, ha, cond_true] at hs
        unfold addP at hs
        cases h1 : mem ns x.n && !has g x.n
        · simp [h1] at hs
        · rw [h1] at hs
          simp at hs
          rw [← hs] at hf
          have hne : nCL ≠ x.n := by
            rintro e
            simp at h1
            exact hn (e ▸ mem_iff.1 h1.1)
          simp [upd, hne] at hf
          exact h0 f hf
end Go.Fie
