/- Stage 11: what comes in, by its type. -/
import Derived.Test.YtbjjphpkpmikjaaKiS
namespace Go.Proofs.Ytbjjphpkpmikjaa
open Go.RowKit Go.Own Go.Sch
set_option linter.unusedVariables false
set_option linter.unusedSimpArgs false
set_option maxRecDepth 100000
theorem rows_of {α : Type} (enc : α → List Value) (p : α → Prop) (k : Nat) (hk : ∀ x, (enc x).length = k) : ∀ (n : Nat) (vs : List Value), vs.length = n * k → (∀ i, i < n → ∃ x, (vs.drop (i * k)).take k = enc x ∧ p x) → ∃ l : List α, vs = l.flatMap enc ∧ l.length = n ∧ ∀ x ∈ l, p x
  | 0, vs, h, _ => ⟨[], List.eq_nil_of_length_eq_zero (by simpa using h), rfl, fun x hx => by cases hx⟩
  | n + 1, vs, h, hx => by
    obtain ⟨x, h0, hp⟩ := hx 0 (by omega)
    rw [Nat.zero_mul, List.drop_zero] at h0
    have hnk : (n + 1) * k = n * k + k := by rw [Nat.add_mul, Nat.one_mul]
    obtain ⟨l, hl, hn, hl2⟩ := rows_of enc p k hk n (vs.drop k) (by rw [List.length_drop]; omega) (fun i hi => by
      obtain ⟨y, hy, hp⟩ := hx (i + 1) (by omega)
      refine ⟨y, ?_, hp⟩
      rw [List.drop_drop, ← hy]
      congr 2
      rw [Nat.add_mul, Nat.one_mul]
      omega)
    refine ⟨x :: l, ?_, by rw [List.length_cons, hn], fun y hy => ?_⟩
    · rw [List.flatMap_cons, ← hl, ← h0, List.take_append_drop]
    · rcases List.mem_cons.1 hy with rfl | hy
      · exact hp
      · exact hl2 y hy
theorem flat_one {α : Type} (f : α → Value) : ∀ l : List α, l.flatMap (fun x => [f x]) = l.map f
  | [] => rfl
  | x :: l => by rw [List.flatMap_cons, flat_one f l]; rfl
theorem HoldsT.str11 {P : Program} {W : World} {d : Nat} {t : TypeId} {cs : List Value} {fs : Array Field} (ht : P.underlying t = some (.struct fs)) (h : HoldsT P W (d + 1) t cs) :
    cs.length = P.cellsOf t ∧ ∀ (i : Nat) (f : Field), fs[i]? = some f → HoldsT P W d f.type ((cs.drop f.offset).take (P.cellsOf f.type)) := by
  unfold HoldsT at h
  rw [ht] at h
  exact h
theorem i64_11 {n : Int} (h : (Lit.int .i64 n).wf = true) : -9223372036854775808 ≤ n ∧ n ≤ 9223372036854775807 := by
  simpa [Lit.wf, IntKind.min, IntKind.max, IntKind.signed, IntKind.bits] using h
theorem flows_arg {W : World} {A : Option Addr} {n c : Nat} (h : HoldsT Try.prog W 9 22 [.slice A n c]) : ∃ l : List Rw, Rd W 3 A n (rcells l) ∧ l.length = n ∧ n ≤ c ∧ c ≤ 9223372036854775807 := by
  obtain ⟨h1, h2, h3, vs, hr, hv⟩ := HoldsT.slice (d := 8) Try.underlying22 h
  have hc : Try.prog.cellsOf 32 = 3 := by kernel_rfl
  have hci : Try.prog.cellsOf 3 = 1 := by kernel_rfl
  have hcb : Try.prog.cellsOf 4 = 1 := by kernel_rfl
  rw [hc] at hr hv
  have hrd := hr (by omega)
  obtain ⟨l, hl, hn, _⟩ := rows_of rcell (fun _ => True) 3 (fun _ => rfl) n vs hrd.1 (fun i hi => by
    obtain ⟨hlen, hf⟩ := HoldsT.str11 (d := 7) Try.underlying32 (hv i hi)
    rw [hc] at hlen
    obtain ⟨cs, hcs⟩ : ∃ cs, (vs.drop (i * 3)).take 3 = cs := ⟨_, rfl⟩
    rw [hcs] at hlen hf ⊢
    match cs, hlen with
    | [u, v, s], _ =>
      have f0 := hf 0 _ rfl
      have f1 := hf 1 _ rfl
      have f2 := hf 2 _ rfl
      simp only [List.getElem_toArray, List.getElem_cons_zero, List.getElem_cons_succ, hci, hcb, List.drop_zero, List.drop_succ_cons, List.take_succ_cons, List.take_zero] at f0 f1 f2
      obtain ⟨a, rfl, _⟩ := HoldsT.int Try.underlying3 f0
      obtain ⟨b, rfl, _⟩ := HoldsT.int Try.underlying3 f1
      obtain ⟨e, rfl⟩ := HoldsT.bool Try.underlying4 f2
      exact ⟨⟨a, b, e⟩, rfl, trivial⟩)
  subst hl
  exact ⟨l, hrd, hn, h1, h2⟩
theorem ints_arg {W : World} {A : Option Addr} {n c : Nat} (h : HoldsT Try.prog W 9 23 [.slice A n c]) : ∃ l : List Int, Rd W 1 A n (l.map (Value.int .i64)) ∧ l.length = n ∧ (∀ x ∈ l, -9223372036854775808 ≤ x ∧ x ≤ 9223372036854775807) ∧ n ≤ c ∧ c ≤ 9223372036854775807 := by
  obtain ⟨h1, h2, h3, vs, hr, hv⟩ := HoldsT.slice (d := 8) Try.underlying23 h
  have hci : Try.prog.cellsOf 3 = 1 := by kernel_rfl
  rw [hci] at hr hv
  have hrd := hr (by omega)
  obtain ⟨l, hl, hn, hp⟩ := rows_of (fun x : Int => [Value.int .i64 x]) (fun x => -9223372036854775808 ≤ x ∧ x ≤ 9223372036854775807) 1 (fun _ => rfl) n vs hrd.1 (fun i hi => by
    have hx := hv i hi
    obtain ⟨cs, hcs⟩ : ∃ cs, (vs.drop (i * 1)).take 1 = cs := ⟨_, rfl⟩
    rw [hcs] at hx ⊢
    have hlen : cs.length = 1 := by rw [← hcs, List.length_take, List.length_drop, hrd.1]; omega
    match cs, hlen with
    | [u], _ =>
      obtain ⟨a, rfl, ha⟩ := HoldsT.int Try.underlying3 hx
      exact ⟨a, rfl, i64_11 ha⟩)
  rw [flat_one] at hl
  subst hl
  exact ⟨l, hrd, hn, hp, h1, h2⟩
theorem bools_arg {W : World} {A : Option Addr} {n c : Nat} (h : HoldsT Try.prog W 9 54 [.slice A n c]) : ∃ l : List Bool, Rd W 1 A n (l.map Value.bool) ∧ l.length = n ∧ n ≤ c ∧ c ≤ 9223372036854775807 := by
  obtain ⟨h1, h2, h3, vs, hr, hv⟩ := HoldsT.slice (d := 8) Try.underlying54 h
  have hci : Try.prog.cellsOf 4 = 1 := by kernel_rfl
  rw [hci] at hr hv
  have hrd := hr (by omega)
  obtain ⟨l, hl, hn, hp⟩ := rows_of (fun x : Bool => [Value.bool x]) (fun _ => True) 1 (fun _ => rfl) n vs hrd.1 (fun i hi => by
    have hx := hv i hi
    obtain ⟨cs, hcs⟩ : ∃ cs, (vs.drop (i * 1)).take 1 = cs := ⟨_, rfl⟩
    rw [hcs] at hx ⊢
    have hlen : cs.length = 1 := by rw [← hcs, List.length_take, List.length_drop, hrd.1]; omega
    match cs, hlen with
    | [u], _ =>
      obtain ⟨a, rfl⟩ := HoldsT.bool Try.underlying4 hx
      exact ⟨a, rfl, trivial⟩)
  rw [flat_one] at hl
  subst hl
  exact ⟨l, hrd, hn, h1, h2⟩
/-- a row of octets among rows of octets -/
theorem bytes_arg {W : World} {A : Option Addr} {n c k : Nat} (h : HoldsT Try.prog W 9 46 [.slice A n c]) (hk : k < n) : ∃ (b o : Nat) (B : Option Addr) (m d : Nat) (xs : List UInt8), A = some ⟨b, o, none⟩ ∧ W.cell? ⟨b, o + k, none⟩ = some (.slice B m d) ∧ Rd W 1 B m (xs.map BV) ∧ xs.length = m ∧ m ≤ d ∧ d ≤ 140737488351232 := by
  obtain ⟨b, o, v, hA, hc, hv⟩ := HoldsT.at_ (d := 8) Try.underlying46 (by kernel_rfl) h hk
  have hv' := hv
  unfold HoldsT at hv'
  rw [Try.underlying33] at hv'
  obtain ⟨B, m, d, vs0, e1, _⟩ := hv'
  obtain rfl : v = .slice B m d := by simpa using e1
  obtain ⟨h1, h2, h3, vs, hr, hx⟩ := HoldsT.slice (d := 7) Try.underlying33 hv
  have hcu : Try.prog.cellsOf 5 = 1 := by kernel_rfl
  have hbu : Try.prog.bytesOf 5 = 1 := by kernel_rfl
  rw [hcu] at hr hx
  rw [hbu] at h3
  have hrd := hr (by omega)
  obtain ⟨l, hl, hn, hp⟩ := rows_of (fun x : UInt8 => [BV x]) (fun _ => True) 1 (fun _ => rfl) m vs hrd.1 (fun i hi => by
    have hy := hx i hi
    obtain ⟨cs, hcs⟩ : ∃ cs, (vs.drop (i * 1)).take 1 = cs := ⟨_, rfl⟩
    rw [hcs] at hy ⊢
    have hlen : cs.length = 1 := by rw [← hcs, List.length_take, List.length_drop, hrd.1]; omega
    match cs, hlen with
    | [u], _ =>
      obtain ⟨a, rfl, ha⟩ := HoldsT.int Try.underlying5 hy
      have hr2 : 0 ≤ a ∧ a ≤ 255 := by simpa [Lit.wf, IntKind.min, IntKind.max, IntKind.signed, IntKind.bits] using ha
      refine ⟨UInt8.ofNat a.toNat, ?_, trivial⟩
      unfold BV
      rw [UInt8.toNat_ofNat', Nat.mod_eq_of_lt (by omega)]
      congr 2
      omega)
  rw [flat_one] at hl
  subst hl
  exact ⟨b, o, B, m, d, l, hA, hc, hrd, hn, h1, by omega⟩
end Go.Proofs.Ytbjjphpkpmikjaa
