/- Stage 12: frames that are handed in, by their type. -/
import Derived.Test.YtnflegdoeomhcaaVp
import Derived.Test.YtnflegdoeomhcaaVk
namespace Go.Proofs.Ytnflegdoeomhcaa
open Go.RowKit Go.Own Go.Frm
set_option linter.unusedVariables false
set_option maxRecDepth 100000
theorem HoldsT.flds {P : Program} {W : World} {d : Nat} {t : TypeId} {cs : List Value} {fs : Array Field} (ht : P.underlying t = some (.struct fs)) (h : HoldsT P W (d + 1) t cs) : cs.length = P.cellsOf t ∧ ∀ (i : Nat) (f : Field), fs[i]? = some f → HoldsT P W d f.type ((cs.drop f.offset).take (P.cellsOf f.type)) := by
  unfold HoldsT at h
  rw [ht] at h
  exact h
theorem fld1 {P : Program} {W : World} {d : Nat} {cs : List Value} {fs : Array Field} (h : ∀ (i : Nat) (f : Field), fs[i]? = some f → HoldsT P W d f.type ((cs.drop f.offset).take (P.cellsOf f.type))) (i : Nat) (t : TypeId) (o : Nat) (hf : (fs[i]?).map (fun f => (f.type, f.offset)) = some (t, o)) (hc : P.cellsOf t = 1) : HoldsT P W d t ((cs.drop o).take 1) := by
  cases hfi : fs[i]? with
  | none => rw [hfi] at hf; cases hf
  | some f =>
    rw [hfi] at hf
    simp only [Option.map_some, Option.some.injEq, Prod.mk.injEq] at hf
    obtain ⟨h1, h2⟩ := hf
    have := h i f hfi
    rw [h1, h2, hc] at this
    exact this
theorem c_int : Try.prog.cellsOf 3 = 1 := by kernel_rfl
theorem c_bool : Try.prog.cellsOf 4 = 1 := by kernel_rfl
theorem c_bytes : Try.prog.cellsOf 22 = 1 := by kernel_rfl
theorem c_code : Try.prog.cellsOf 29 = 1 := by kernel_rfl
theorem c_setts : Try.prog.cellsOf 30 = 1 := by kernel_rfl
theorem c_u32 : Try.prog.cellsOf 28 = 1 := by kernel_rfl
theorem c_set : Try.prog.cellsOf 54 = 2 := by kernel_rfl
theorem c_frame : Try.prog.cellsOf 32 = 16 := by kernel_rfl
def setOk (s : Int × Nat) : Prop := (-9223372036854775808 ≤ s.1 ∧ s.1 ≤ 9223372036854775807) ∧ s.2 < 4294967296
theorem u32_of' {n : Int} (h : (Lit.int .u32 n).wf = true) : 0 ≤ n ∧ n ≤ 4294967295 := by
  simpa [Lit.wf, IntKind.min, IntKind.max, IntKind.signed, IntKind.bits] using h
theorem set_cells {W : World} {d : Nat} {cs : List Value} (h : HoldsT Try.prog W (d + 2) 54 cs) : ∃ s, cs = scell s ∧ setOk s := by
  obtain ⟨hl, hf⟩ := HoldsT.flds Try.underlying54 h
  rw [c_set] at hl
  have g0 := fld1 hf 0 3 0 rfl c_int
  have g1 := fld1 hf 1 28 1 rfl c_u32
  match cs, hl with
  | [c0, c1], _ =>
    obtain ⟨a, rfl, ha⟩ := HoldsT.int (d := d) Try.underlying3 g0
    obtain ⟨b, rfl, hb⟩ := HoldsT.int (d := d) Try.underlying28 g1
    have hb2 := u32_of' hb
    refine ⟨(a, b.toNat), ?_, i64_of ha, by show b.toNat < 4294967296; omega⟩
    unfold scell
    rw [Int.toNat_of_nonneg hb2.1]
theorem sets_of : ∀ (n : Nat) (vs : List Value), vs.length = n * 2 → (∀ i, i < n → ∃ s, (vs.drop (i * 2)).take 2 = scell s ∧ setOk s) → ∃ l : List (Int × Nat), vs = scells l ∧ ∀ s ∈ l, setOk s
  | 0, vs, h, _ => ⟨[], by have := List.eq_nil_of_length_eq_zero (l := vs) (by omega); rw [this]; rfl, fun s hs => by cases hs⟩
  | n + 1, vs, h, hp => by
    obtain ⟨s, hs, ok⟩ := hp 0 (by omega)
    obtain ⟨l, hl, hall⟩ := sets_of n (vs.drop 2) (by rw [List.length_drop]; omega) (fun i hi => by
      obtain ⟨s', h1, h2⟩ := hp (i + 1) (by omega)
      refine ⟨s', ?_, h2⟩
      rw [List.drop_drop, show 2 + i * 2 = (i + 1) * 2 by omega]
      exact h1)
    refine ⟨s :: l, ?_, fun x hx => by rcases List.mem_cons.1 hx with rfl | hx; exact ok; exact hall x hx⟩
    have e : scells (s :: l) = scell s ++ scells l := by simp [scells]
    rw [e, ← hl, ← hs]
    simp
theorem setts_arg {W : World} {d : Nat} {A : Option Addr} {n c : Nat} (h : HoldsT Try.prog W (d + 3) 30 [.slice A n c]) : ∃ l : List (Int × Nat), Rd W 2 A n (scells l) ∧ (∀ s ∈ l, setOk s) ∧ l.length = n ∧ n ≤ c ∧ c ≤ 140737488351232 := by
  obtain ⟨h1, h2, h3, vs, hr, hv⟩ := HoldsT.slice (d := d + 2) Try.underlying30 h
  rw [c_set] at hr hv
  have hrd := hr (by omega)
  obtain ⟨l, rfl, hall⟩ := sets_of n vs hrd.1 (fun i hi => set_cells (hv i hi))
  have hb : Try.prog.bytesOf 54 = 16 := by kernel_rfl
  rw [hb] at h3
  exact ⟨l, hrd, hall, rd_set_len hrd, h1, by omega⟩
/-- what is known of a frame that is handed in -/
structure FrArg (W : World) (cs : List Value) (f : Fm) (P : Option Addr) (pc : Nat) (B : Option Addr) (lc : Nat) : Prop where
  hcs : cs = frC f (.slice P f.pay.length pc) (.slice B f.list.length lc)
  pay : Rd W 1 P f.pay.length (f.pay.map BV)
  list : Rd W 2 B f.list.length (scells f.list)
  hpc : f.pay.length ≤ pc
  hpc2 : pc ≤ 140737488351232
  hlc : f.list.length ≤ lc
  hlc2 : lc ≤ 140737488351232
  ok : okF f
  kind : -9223372036854775808 ≤ f.kind ∧ f.kind ≤ 9223372036854775807
theorem frame_arg {W : World} {d : Nat} {cs : List Value} (h : HoldsT Try.prog W (d + 4) 32 cs) : ∃ f P pc B lc, FrArg W cs f P pc B lc := by
  obtain ⟨hl, hf⟩ := HoldsT.flds (d := d + 3) Try.underlying32 h
  rw [c_frame] at hl
  have g0 := fld1 hf 0 3 0 rfl c_int
  have g1 := fld1 hf 1 3 1 rfl c_int
  have g2 := fld1 hf 2 4 2 rfl c_bool
  have g3 := fld1 hf 3 4 3 rfl c_bool
  have g4 := fld1 hf 4 4 4 rfl c_bool
  have g5 := fld1 hf 5 4 5 rfl c_bool
  have g6 := fld1 hf 6 22 6 rfl c_bytes
  have g7 := fld1 hf 7 3 7 rfl c_int
  have g8 := fld1 hf 8 3 8 rfl c_int
  have g9 := fld1 hf 9 3 9 rfl c_int
  have g10 := fld1 hf 10 4 10 rfl c_bool
  have g11 := fld1 hf 11 3 11 rfl c_int
  have g12 := fld1 hf 12 29 12 rfl c_code
  have g13 := fld1 hf 13 30 13 rfl c_setts
  have g14 := fld1 hf 14 3 14 rfl c_int
  have g15 := fld1 hf 15 3 15 rfl c_int
  match cs, hl with
  | [c0, c1, c2, c3, c4, c5, c6, c7, c8, c9, c10, c11, c12, c13, c14, c15], _ =>
    obtain ⟨a0, rfl, h0⟩ := HoldsT.int (d := d + 2) Try.underlying3 g0
    obtain ⟨a1, rfl, h1⟩ := HoldsT.int (d := d + 2) Try.underlying3 g1
    obtain ⟨a2, rfl⟩ := HoldsT.bool (d := d + 2) Try.underlying4 g2
    obtain ⟨a3, rfl⟩ := HoldsT.bool (d := d + 2) Try.underlying4 g3
    obtain ⟨a4, rfl⟩ := HoldsT.bool (d := d + 2) Try.underlying4 g4
    obtain ⟨a5, rfl⟩ := HoldsT.bool (d := d + 2) Try.underlying4 g5
    obtain ⟨P, np, pc, rfl⟩ := HoldsT.isSlice (d := d + 2) Try.underlying22 g6
    obtain ⟨a7, rfl, h7⟩ := HoldsT.int (d := d + 2) Try.underlying3 g7
    obtain ⟨a8, rfl, h8⟩ := HoldsT.int (d := d + 2) Try.underlying3 g8
    obtain ⟨a9, rfl, h9⟩ := HoldsT.int (d := d + 2) Try.underlying3 g9
    obtain ⟨a10, rfl⟩ := HoldsT.bool (d := d + 2) Try.underlying4 g10
    obtain ⟨a11, rfl, h11⟩ := HoldsT.int (d := d + 2) Try.underlying3 g11
    obtain ⟨a12, rfl, h12⟩ := HoldsT.int (d := d + 2) Try.underlying29 g12
    obtain ⟨B, nl, lc, rfl⟩ := HoldsT.isSlice (d := d + 2) Try.underlying30 g13
    obtain ⟨a14, rfl, h14⟩ := HoldsT.int (d := d + 2) Try.underlying3 g14
    obtain ⟨a15, rfl, h15⟩ := HoldsT.int (d := d + 2) Try.underlying3 g15
    have hc := u32_of' h12
    obtain ⟨xs, hr⟩ := HoldsT.bytes (d := d + 1) Try.underlying22 Try.underlying5 (by kernel_rfl) g6
    obtain ⟨p1, p2, p3, _⟩ := HoldsT.slice (d := d + 2) Try.underlying22 g6
    have hb : Try.prog.bytesOf 5 = 1 := by kernel_rfl
    rw [hb] at p3
    have hxl : xs.length = np := by simpa using hr.1
    obtain ⟨l, hrl, hall, hll, l1, l2⟩ := setts_arg (d := d) g13
    subst hxl hll
    refine ⟨⟨a0, a1, a2, a3, a4, a5, xs, a7, a8, a9, a10, a11, a12.toNat, l, a14, a15⟩, P, pc, B, lc, ⟨?_, hr, hrl, p1, by omega, l1, l2, ⟨by show a12.toNat < 4294967296; omega, fun s hs => (hall s hs).2⟩, i64_of h0⟩⟩
    show _ = [_, _, _, _, _, _, _, _, _, _, _, _, _, _, _, _]
    simp only [Int.toNat_of_nonneg hc.1]
theorem frames_at {W : World} {A : Option Addr} {n c i : Nat} (h : HoldsT Try.prog W 9 38 [.slice A n c]) (hi : i < n) :
    ∃ (b o : Nat) (f : Fm) (P : Option Addr) (pc : Nat) (B : Option Addr) (lc : Nat), A = some ⟨b, o, none⟩ ∧ (∀ (k : Nat) (u : Value), (frC f (.slice P f.pay.length pc) (.slice B f.list.length lc))[k]? = some u → W.cell? ⟨b, o + i * 16 + k, none⟩ = some u) ∧ Rd W 1 P f.pay.length (f.pay.map BV) ∧ f.pay.length ≤ pc ∧ pc ≤ 140737488351232 ∧ Rd W 2 B f.list.length (scells f.list) ∧ f.list.length ≤ lc ∧ lc ≤ 140737488351232 ∧ okF f := by
  obtain ⟨h1, h2, h3, vs, hr, hv⟩ := HoldsT.slice (d := 8) Try.underlying38 h
  rw [c_frame] at hr hv
  have hrd := hr (by omega)
  obtain ⟨b, o, hA, hc⟩ := hrd.2 (by omega)
  obtain ⟨f, P, pc, B, lc, g⟩ := frame_arg (d := 4) (hv i hi)
  refine ⟨b, o, f, P, pc, B, lc, hA, fun k u hk => ?_, g.pay, g.hpc, g.hpc2, g.list, g.hlc, g.hlc2, g.ok⟩
  rw [← g.hcs, List.getElem?_take, List.getElem?_drop] at hk
  split at hk
  · rw [Nat.add_assoc]; exact hc _ u hk
  · cases hk
end Go.Proofs.Ytnflegdoeomhcaa
