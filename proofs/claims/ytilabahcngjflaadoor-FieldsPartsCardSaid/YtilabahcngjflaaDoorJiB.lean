/- Stage 10: what the laws ask of fields: plain mathematics; nothing of the program. -/
import Derived.Test.YtilabahcngjflaaDoorJiA
namespace Go.Fie
open Go.Tbl
set_option linter.unusedVariables false
set_option linter.unusedSimpArgs false

/-! what goes on -/
theorem stays_cl : stays nCL = false := by decide +kernel
theorem look_fwd (ns : List ByteArray) (hn : ∀ n ∈ ns, stays n = false) : ∀ (a : Bool) (g g' : Sn) (l : List Fld), lookF ns a g l = some g' → lookF ns a g (fwd l) = some g'
  | a, g, g', [], h => h
  | a, g, g', f :: r, h => by
    rw [lookF] at h
    cases hs : step1 ns a g f with
    | none => rw [hs] at h; cases h
    | some g1 =>
      rw [hs] at h
      simp only at h
      have ih := look_fwd ns hn _ g1 g' r h
      cases hst : stays f.n
      · have e : fwd (f :: r) = f :: fwd r := by simp [fwd, hst]
        rw [e, lookF, hs]
        exact ih
      · have e : fwd (f :: r) = fwd r := by simp [fwd, hst]
        rw [e]
        have hv := step1_V hs
        have hp : (a && psd f) = false := by
          cases hp : a && psd f
          · rfl
          · simp only [step1, hv, hp, cond_true] at hs
            unfold addP at hs
            cases hd : mem ns f.n
            · simp [hd] at hs
            · rw [hn _ (mem_iff.1 hd)] at hst
              cases hst
        simp only [step1, hv, hp, cond_true, cond_false] at hs
        have hcl : decide (f.n = nCL) = false := by
          cases hd : decide (f.n = nCL)
          · rfl
          · rw [of_decide_eq_true hd, stays_cl] at hst; cases hst
        have hg : g1 = g := by
          unfold addO at hs
          rw [hcl] at hs
          cases h1 : okN f.n && !conn f
          · simp [h1] at hs
          · simp [h1] at hs; exact hs.symm
        subst hg
        rw [hp] at ih
        cases a
        · exact ih
        · exact look_true ns _ _ _ ih
theorem four_stays : ∀ n ∈ four, stays n = false := by decide +kernel
theorem status_stays : ∀ n ∈ [nStatus], stays n = false := by decide +kernel
theorem request_fwd {l : List Fld} {m : Msg} (h : request l = some m) : request (fwd l) = some m := by
  unfold request at h ⊢
  cases hl : lookF four true none0 l with
  | none => rw [hl] at h; cases h
  | some g => rw [hl] at h; rw [look_fwd four four_stays _ _ _ _ hl]; exact h
theorem response_fwd {l : List Fld} {m : Msg} (h : response l = some m) : response (fwd l) = some m := by
  unfold response at h ⊢
  cases hl : lookF [nStatus] true none0 l with
  | none => rw [hl] at h; cases h
  | some g => rw [hl] at h; rw [look_fwd _ status_stays _ _ _ _ hl]; exact h
theorem trailers_fwd {l : List Fld} (h : trailers l = true) : trailers (fwd l) = true := by
  unfold trailers at h ⊢
  cases hl : lookF [] true none0 l with
  | none => rw [hl] at h; cases h
  | some g => rw [look_fwd [] (fun _ h => by cases h) _ _ _ _ hl]; rfl
theorem fwd_fwd (l : List Fld) : fwd (fwd l) = fwd l := by simp [fwd]
theorem szs_fwd (l : List Fld) : szs (fwd l) ≤ szs l := by
  induction l with
  | nil => simp [fwd]
  | cons f r ih =>
    cases h : stays f.n
    · have e : fwd (f :: r) = f :: fwd r := by simp [fwd, h]
      rw [e, szs, szs]; omega
    · have e : fwd (f :: r) = fwd r := by simp [fwd, h]
      rw [e, szs]; omega

/-! one kind alone -/
theorem psd_of {f : Fld} {b : UInt8} {r : List UInt8} (h : f.n = ⟨(58 :: r).toArray⟩) : psd f = true := by
  rw [psd_iff]; exact ⟨r, by rw [h]⟩
theorem psd_method {f : Fld} (h : f.n = nMethod) : psd f = true := by rw [psd_iff, h]; exact ⟨_, rfl⟩
theorem psd_status {f : Fld} (h : f.n = nStatus) : psd f = true := by rw [psd_iff, h]; exact ⟨_, rfl⟩
theorem of_val {g : Sn} {k : ByteArray} (h : val g k ≠ nNone) : ∃ f, g k = some f := by
  unfold val at h
  cases hg : g k with
  | none => rw [hg] at h; exact absurd rfl h
  | some f => exact ⟨f, rfl⟩
theorem request_has {l : List Fld} {m : Msg} (h : request l = some m) : ∃ f ∈ l, f.n = nMethod := by
  unfold request at h
  cases hl : lookF four true none0 l with
  | none => rw [hl] at h; cases h
  | some g =>
    rw [hl] at h
    have hm : says g nMethod = true := by
      cases hs : says g nMethod
      · simp [mustQ, hs] at h
      · rfl
    obtain ⟨f, hf⟩ := of_val (of_decide_eq_true hm)
    rcases look_from four nMethod (by decide +kernel) _ _ _ _ hl f hf with h0 | ⟨h1, h2, _⟩
    · cases h0
    · exact ⟨f, h1, h2⟩
theorem okS_ne {s : ByteArray} (h : okS s = true) : s ≠ nNone := by
  rintro rfl
  revert h
  decide +kernel
theorem response_has {l : List Fld} {m : Msg} (h : response l = some m) : ∃ f ∈ l, f.n = nStatus := by
  unfold response at h
  cases hl : lookF [nStatus] true none0 l with
  | none => rw [hl] at h; cases h
  | some g =>
    rw [hl] at h
    have hm : mustS g = true := by
      cases hs : mustS g
      · simp [hs] at h
      · rfl
    obtain ⟨f, hf⟩ := of_val (okS_ne hm)
    rcases look_from [nStatus] nStatus (by decide +kernel) _ _ _ _ hl f hf with h0 | ⟨h1, h2, _⟩
    · cases h0
    · exact ⟨f, h1, h2⟩
theorem request_psd {l : List Fld} {m : Msg} (h : request l = some m) : ∀ f ∈ l, psd f = true → f.n ∈ four := by
  unfold request at h
  cases hl : lookF four true none0 l with
  | none => rw [hl] at h; cases h
  | some g => exact look_psd _ _ _ _ _ hl
theorem response_psd {l : List Fld} {m : Msg} (h : response l = some m) : ∀ f ∈ l, psd f = true → f.n ∈ [nStatus] := by
  unfold response at h
  cases hl : lookF [nStatus] true none0 l with
  | none => rw [hl] at h; cases h
  | some g => exact look_psd _ _ _ _ _ hl
theorem trailers_psd {l : List Fld} (h : trailers l = true) : ∀ f ∈ l, psd f = true → f.n ∈ ([] : List ByteArray) := by
  unfold trailers at h
  cases hl : lookF [] true none0 l with
  | none => rw [hl] at h; cases h
  | some g => exact look_psd _ _ _ _ _ hl
theorem kinds_qs {l : List Fld} {m : Msg} (h : request l = some m) : response l = none := by
  cases hr : response l with
  | none => rfl
  | some m' =>
    obtain ⟨f, hf, hn⟩ := request_has h
    have := response_psd hr f hf (psd_method hn)
    rw [hn, ← mem_iff, show mem [nStatus] nMethod = false by decide +kernel] at this
    cases this
theorem kinds_qt {l : List Fld} {m : Msg} (h : request l = some m) : trailers l = false := by
  cases hr : trailers l with
  | false => rfl
  | true =>
    obtain ⟨f, hf, hn⟩ := request_has h
    have := trailers_psd hr f hf (psd_method hn)
    cases this
theorem kinds_st {l : List Fld} {m : Msg} (h : response l = some m) : trailers l = false := by
  cases hr : trailers l with
  | false => rfl
  | true =>
    obtain ⟨f, hf, hn⟩ := response_has h
    have := trailers_psd hr f hf (psd_status hn)
    cases this
/-- a pseudo field behind another one -/
theorem look_late (ns : List ByteArray) (a : Bool) (g : Sn) (x y : Fld) (l : List Fld) (hx : psd x = false) (hy : psd y = true) : lookF ns a g (l ++ [x, y]) = none := by
  rw [look_app]
  cases lookF ns a g l with
  | none => rfl
  | some g1 =>
    simp only [Option.bind_some]
    rw [lookF]
    cases step1 ns (a && l.all psd) g1 x with
    | none => rfl
    | some g2 =>
      simp only [hx, Bool.and_false]
      rw [lookF]
      have : step1 ns false g2 y = none := by
        cases hs : step1 ns false g2 y with
        | none => rfl
        | some g3 =>
          have hv := step1_V hs
          simp only [step1, hv, cond_true, Bool.false_and, cond_false] at hs
          rw [(addO_ok hs).2.2] at hy
          cases hy
      rw [this]
abbrev nX : ByteArray := ⟨#[120]⟩
abbrev nY : ByteArray := ⟨#[121]⟩
abbrev nGet : ByteArray := ⟨#[71, 69, 84]⟩
abbrev nHttp : ByteArray := ⟨#[104, 116, 116, 112]⟩
abbrev n200 : ByteArray := ⟨#[50, 48, 48]⟩
theorem request_late (l : List Fld) : request (l ++ [⟨nX, nY, false⟩, ⟨nMethod, nGet, false⟩]) = none := by
  unfold request
  have h1 : psd ⟨nX, nY, false⟩ = false := by decide +kernel
  have h2 : psd ⟨nMethod, nGet, false⟩ = true := by decide +kernel
  rw [look_late four true none0 _ _ l h1 h2]
theorem response_late (l : List Fld) : response (l ++ [⟨nX, nY, false⟩, ⟨nStatus, n200, false⟩]) = none := by
  unfold response
  have h1 : psd ⟨nX, nY, false⟩ = false := by decide +kernel
  have h2 : psd ⟨nStatus, n200, false⟩ = true := by decide +kernel
  rw [look_late [nStatus] true none0 _ _ l h1 h2]

/-! a message stands or falls with each field -/
def top (p : ByteArray) : List Fld := [⟨nMethod, nGet, false⟩, ⟨nScheme, nHttp, false⟩, ⟨nPath, p, false⟩]
def gTop (p : ByteArray) : Sn := upd (upd (upd none0 nMethod ⟨nMethod, nGet, false⟩) nScheme ⟨nScheme, nHttp, false⟩) nPath ⟨nPath, p, false⟩
theorem look_top (p : ByteArray) (hp : okV p = true) : lookF four true none0 (top p) = some (gTop p) := by
  have v1 : okV nGet = true := by decide +kernel
  have v2 : okV nHttp = true := by decide +kernel
  have p1 : psd ⟨nMethod, nGet, false⟩ = true := by decide +kernel
  have p2 : psd ⟨nScheme, nHttp, false⟩ = true := by decide +kernel
  have p3 : psd ⟨nPath, p, false⟩ = true := by rw [psd_iff]; exact ⟨_, rfl⟩
  have m1 : mem four nMethod = true := by decide +kernel
  have m2 : mem four nScheme = true := by decide +kernel
  have m3 : mem four nPath = true := by decide +kernel
  have e1 : decide (nScheme = nMethod) = false := by decide +kernel
  have e2 : decide (nPath = nMethod) = false := by decide +kernel
  have e3 : decide (nPath = nScheme) = false := by decide +kernel
  have h0 : ∀ k, has none0 k = false := fun _ => rfl
  simp only [top, lookF, step1, v1, v2, hp, p1, p2, p3, addP, m1, m2, m3, has_upd, h0, e1, e2, e3, Bool.and_true, Bool.true_and, Bool.or_false, Bool.not_false, cond_true]
  rfl
theorem top_bad (p : ByteArray) (hp : okV p = false) (l : List Fld) : lookF four true none0 (top p ++ l) = none := by
  rw [look_app]
  have : lookF four true none0 (top p) = none := by
    have v1 : okV nGet = true := by decide +kernel
    have v2 : okV nHttp = true := by decide +kernel
    have p1 : psd ⟨nMethod, nGet, false⟩ = true := by decide +kernel
    have p2 : psd ⟨nScheme, nHttp, false⟩ = true := by decide +kernel
    have m1 : mem four nMethod = true := by decide +kernel
    have m2 : mem four nScheme = true := by decide +kernel
    have e1 : decide (nScheme = nMethod) = false := by decide +kernel
    have h0 : ∀ k, has none0 k = false := fun _ => rfl
    simp only [top, lookF, step1, v1, v2, hp, p1, p2, addP, m1, m2, has_upd, h0, e1, Bool.and_true, Bool.true_and, Bool.or_false, Bool.not_false, cond_true, cond_false]
  rw [this]
  rfl
theorem top_all (p : ByteArray) : (top p).all psd = true := by
  have p1 : psd ⟨nMethod, nGet, false⟩ = true := by decide +kernel
  have p2 : psd ⟨nScheme, nHttp, false⟩ = true := by decide +kernel
  have p3 : psd ⟨nPath, p, false⟩ = true := by rw [psd_iff]; exact ⟨_, rfl⟩
  simp [top, p1, p2, p3]
theorem must_top (p : ByteArray) (hs : Lib.hasPrefix p.data.toList [47] = true) {g' : Sn} {l : List Fld} (h : lookF four true (gTop p) l = some g') : mustQ g' = true := by
  have k1 := look_keep four nMethod (by decide +kernel) _ _ _ _ h ⟨nMethod, nGet, false⟩ (by
    have e2 : nMethod ≠ nPath := by decide +kernel
    have e1 : nMethod ≠ nScheme := by decide +kernel
    simp [gTop, upd, e1, e2])
  have k2 := look_keep four nScheme (by decide +kernel) _ _ _ _ h ⟨nScheme, nHttp, false⟩ (by
    have e2 : nScheme ≠ nPath := by decide +kernel
    simp [gTop, upd, e2])
  have k3 := look_keep four nPath (by decide +kernel) _ _ _ _ h ⟨nPath, p, false⟩ (by simp [gTop, upd])
  have e1 : decide (nGet ≠ nNone) = true := by decide +kernel
  have e2 : decide (nGet = nConnect) = false := by decide +kernel
  have e3 : decide (nHttp ≠ nNone) = true := by decide +kernel
  simp only [mustQ, says, val, k1, k2, k3, pathR, hs, e1, e2, e3, Bool.true_or, Bool.and_self, cond_false]
theorem request_top (p : ByteArray) (hs : Lib.hasPrefix p.data.toList [47] = true) (l : List Fld) : (request (top p ++ l)).isSome = (okV p && (lookF four true (gTop p) l).isSome) := by
  unfold request
  cases hp : okV p
  · rw [top_bad p hp]; rfl
  · rw [look_app, look_top p hp, top_all]
    simp only [Option.bind_some, Bool.and_true, Bool.true_and]
    cases h : lookF four true (gTop p) l with
    | none => rfl
    | some g' => simp only [must_top p hs h, cond_true]; rfl
/-- a plain field behind others -/
def okO (f : Fld) : Bool := okV f.v && okN f.n && !conn f
theorem step_plain (ns : List ByteArray) (a : Bool) (g : Sn) (f : Fld) (hp : psd f = false) (hc : f.n ≠ nCL) : step1 ns a g f = bif okO f then some g else none := by
  unfold step1 okO
  rw [hp, Bool.and_false]
  cases okV f.v
  · rfl
  · simp only [cond_true, cond_false, Bool.true_and, addO]
    rw [show decide (f.n = nCL) = false from decide_eq_false hc]
    rfl
theorem look_one (ns : List ByteArray) (a : Bool) (g : Sn) (f : Fld) (hp : psd f = false) (hc : f.n ≠ nCL) : (lookF ns a g [f]).isSome = okO f := by
  rw [lookF, step_plain ns a g f hp hc]
  cases okO f <;> rfl
theorem parts_plain (p : ByteArray) (hs : Lib.hasPrefix p.data.toList [47] = true) (l : List Fld) (f : Fld) (hp : psd f = false) (hc : f.n ≠ nCL) :
    (request (top p ++ l ++ [f])).isSome = ((request (top p ++ l)).isSome && (request (top p ++ [f])).isSome) := by
  rw [List.append_assoc, request_top p hs, request_top p hs, request_top p hs, look_one _ _ _ _ hp hc, look_app]
  cases okV p
  · rfl
  · simp only [Bool.true_and]
    cases lookF four true (gTop p) l with
    | none => rfl
    | some g => simp only [Option.bind_some, look_one _ _ _ _ hp hc, Option.isSome_some, Bool.true_and]
theorem parts_any (p : ByteArray) (hs : Lib.hasPrefix p.data.toList [47] = true) (l : List Fld) (f : Fld) (h : (request (top p ++ l ++ [f])).isSome = true) : (request (top p ++ l)).isSome = true := by
  rw [List.append_assoc, request_top p hs, look_app] at h
  rw [request_top p hs]
  cases hv : okV p
  · rw [hv] at h; exact h
  · rw [hv] at h
    cases hl : lookF four true (gTop p) l with
    | none => rw [hl] at h; exact h
    | some g => rfl
end Go.Fie
