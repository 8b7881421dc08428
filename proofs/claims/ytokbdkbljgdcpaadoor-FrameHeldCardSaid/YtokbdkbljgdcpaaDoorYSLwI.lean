/- The law FrameHeld. -/
import Derived.Test.YtokbdkbljgdcpaaDoorYSLwF
import Derived.Test.YtokbdkbljgdcpaaDoorYSShape
import Derived.Deep.Cut
import Derived.Deep.LoopGhost
namespace Go.Proofs.YtokbdkbljgdcpaaDoor
open Go.RowKit Go.Own Go.Frm
set_option linter.unusedVariables false
set_option maxRecDepth 100000
section
variable {w w0 : World} {L : List Ob} {p m : Nat}
theorem feed_in_n {st : Pst} (s : St (fun _ => False) w0 w (PFo p m st :: L)) {B : Option Addr} {nb cb : Nat} {ys : List UInt8} (hr : Rd w0 1 B nb (ys.map BV)) (hnc : nb ≤ cb) (hcb : cb ≤ 9223372036854775807) (q : Nat) (hq : feedN m st nb = q) (st' : Pst) (hst : feedP m st ys = st') :
    Calls Tryd.prog 23 #[.pointer (some ⟨p, 0, none⟩), .slice B nb cb] w fun e w' => e = .returned (.int .i64 (q : Int)) ∧ St (fun _ => False) w0 w' (PFo p m st' :: L) := by
  have h := feed_in0 s hr hnc hcb
  rw [hq, hst] at h
  exact h
theorem size_n {st : Pst} (s : St (fun _ => False) w0 w (PFo p m st :: L)) (n : Nat) (hn : st.held.length = n) : Calls Tryd.prog 25 #[.pointer (some ⟨p, 0, none⟩)] w fun e w' => e = .returned (.int .i64 (n : Int)) ∧ w' = w := by
  have h := size_s s
  rw [hn] at h
  exact h
theorem par_ok {st : Pst} (s : St (fun _ => False) w0 w (PFo p m st :: L)) : st.ok ∧ st.held.length ≤ 16777224 ∧ 16384 ≤ m ∧ m ≤ 16777215 := by
  obtain ⟨F, hF, _⟩ := s.focus0
  exact hF.ok
end
theorem rd_lt {W : World} {A : Option Addr} {n : Nat} {xs : List UInt8} (h : Rd W 1 A n (xs.map BV)) (hn : 0 < n) : ∀ a, A = some a → a.block < W.heap.size := by
  intro a ha
  have hl : xs.length = n := by simpa using h.1
  obtain ⟨b, o, hA, hc⟩ := h.2 hn
  rw [ha] at hA
  cases hA
  have := hc 0 (BV xs[0]) (by simp [List.getElem?_eq_getElem (show 0 < xs.length by omega)])
  exact World.block_lt_of_cell? _ _ this
/-- what the law's step i sees -/
theorem byt_at {W : World} {A : Option Addr} {n c i : Nat} (h : HoldsT Tryd.prog W 3 62 [.slice A n c]) (hi : i < n) :
    ∃ (b o : Nat) (B : Option Addr) (nb cb : Nat) (ys : List UInt8), A = some ⟨b, o, none⟩ ∧ W.cell? ⟨b, o + i, none⟩ = some (.slice B nb cb) ∧ Rd W 1 B nb (ys.map BV) ∧ nb ≤ cb ∧ cb ≤ 140737488351232 := by
  obtain ⟨b, o, v, rfl, hc, hv⟩ := HoldsT.at_ (d := 2) Tryd.underlying62 (by kernel_rfl) h hi
  obtain ⟨B, nb, cb, rfl⟩ := HoldsT.isSlice (d := 1) Tryd.underlying22 hv
  obtain ⟨ys, hr⟩ := HoldsT.bytes (d := 0) Tryd.underlying22 Tryd.underlying5 (by kernel_rfl) hv
  obtain ⟨h1, h2, h3, _⟩ := HoldsT.slice (d := 1) Tryd.underlying22 hv
  have hb : Tryd.prog.bytesOf 5 = 1 := by kernel_rfl
  rw [hb] at h3
  exact ⟨b, o, B, nb, cb, ys, rfl, hc, hr, h1, by omega⟩
theorem bool_at {W : World} {A : Option Addr} {n c i : Nat} (h : HoldsT Tryd.prog W 3 67 [.slice A n c]) (hi : i < n) : ∃ (b o : Nat) (v : Bool), A = some ⟨b, o, none⟩ ∧ W.cell? ⟨b, o + i, none⟩ = some (.bool v) := by
  obtain ⟨b, o, v, rfl, hc, hv⟩ := HoldsT.at_ (d := 2) Tryd.underlying67 (by kernel_rfl) h hi
  obtain ⟨x, rfl⟩ := HoldsT.bool (d := 1) Tryd.underlying4 hv
  exact ⟨b, o, x, rfl, hc⟩
end Go.Proofs.YtokbdkbljgdcpaaDoor
