/- Several texts in one: FB1. -/
import Derived.Test.YtokbdkbljgdcpaaDoorY34
import Derived.Deep.RegionHeld
/- frame: the reading object where a fault is stored. -/
namespace Go.Proofs.YtokbdkbljgdcpaaDoor
open Go.RowKit Go.Own Go.Frm
set_option linter.unusedVariables false
set_option maxRecDepth 100000
theorem RG.fr3 {w w' : World} {r g : Nat} {cs : List Value} {xs : List UInt8} {b0 : Bool} {c0 : Int} {z0 : Int} (h : RG w r cs xs) (hd : Blk w g 46 [.bool b0, .int .u32 c0, .int .i64 z0]) (hf : Fr (· = g) w w') (hr : ¬ r = g) : RG w' r cs xs := by
  obtain ⟨A, n, c, hl, hb, hx, h1, h2, h3⟩ := h
  refine ⟨A, n, c, hl, hb.fr hf hr, ⟨hx.1, fun hn => ?_⟩, h1, h2, h3⟩
  obtain ⟨b, o, e, hc⟩ := hx.2 hn
  refine ⟨b, o, e, fun j u hu => hf.cell (hc j u hu) ?_⟩
  intro (e : b = g)
  subst e
  have h4 := hc j u hu
  rw [hd.cell] at h4
  rw [List.getElem?_map] at hu
  cases hxj : xs[j]? with
  | none => rw [hxj] at hu; cases hu
  | some v =>
    rw [hxj] at hu
    injection hu with hu
    subst hu
    generalize o + j = i at h4
    rcases i with _ | _ | _ | i <;> simp [BV] at h4
end Go.Proofs.YtokbdkbljgdcpaaDoor
