/- Stage 10: tunnels, lengths, turns: plain mathematics; nothing of the program. -/
import Derived.Test.YtilabahcngjflaaDoorJiB
namespace Go.Fie
open Go.Tbl
set_option linter.unusedVariables false
set_option linter.unusedSimpArgs false

/-! who asks for a tunnel -/
abbrev nX2 : ByteArray := ⟨#[120]⟩
def tun (a : ByteArray) : List Fld := [⟨nMethod, nConnect, false⟩, ⟨nAuth, a, false⟩]
def gTun (a : ByteArray) : Sn := upd (upd none0 nMethod ⟨nMethod, nConnect, false⟩) nAuth ⟨nAuth, a, false⟩
theorem look_tun (a : ByteArray) : lookF four true none0 (tun a) = bif okV a then some (gTun a) else none := by
  have v1 : okV nConnect = true := by decide +kernel
  have p1 : psd ⟨nMethod, nConnect, false⟩ = true := by decide +kernel
  have p2 : psd ⟨nAuth, a, false⟩ = true := by rw [psd_iff]; exact ⟨_, rfl⟩
  have m1 : mem four nMethod = true := by decide +kernel
  have m2 : mem four nAuth = true := by decide +kernel
  have e1 : decide (nAuth = nMethod) = false := by decide +kernel
  have h0 : ∀ k, has none0 k = false := fun _ => rfl
  cases hv : okV a <;> simp only [tun, lookF, step1, v1, hv, p1, p2, addP, m1, m2, has_upd, h0, e1, Bool.and_true, Bool.true_and, Bool.or_false, Bool.not_false, cond_true, cond_false] <;> rfl
theorem tun_must (a : ByteArray) : mustQ (gTun a) = decide (a ≠ nNone) := by
  have e1 : nMethod ≠ nAuth := by decide +kernel
  have e2 : nScheme ≠ nAuth := by decide +kernel
  have e3 : nScheme ≠ nMethod := by decide +kernel
  have e4 : nPath ≠ nAuth := by decide +kernel
  have e5 : nPath ≠ nMethod := by decide +kernel
  have v1 : val (gTun a) nMethod = nConnect := by simp [val, gTun, upd, e1]
  have v2 : val (gTun a) nAuth = a := by simp [val, gTun, upd]
  have h1 : has (gTun a) nScheme = false := by simp [has, gTun, upd, none0, e2, e3]
  have h2 : has (gTun a) nPath = false := by simp [has, gTun, upd, none0, e4, e5]
  have c1 : decide (nConnect ≠ nNone) = true := by decide +kernel
  have c2 : decide (nConnect = nConnect) = true := by simp
  simp only [mustQ, says, v1, v2, h1, h2, c1, c2, decide_true, cond_true, Bool.true_and, Bool.not_false, Bool.and_true]
theorem tun_ok (a : ByteArray) : (request (tun a)).isSome = (okV a && decide (a ≠ nNone)) := by
  unfold request
  rw [look_tun]
  cases okV a
  · rfl
  · simp only [cond_true, tun_must, Bool.true_and]
    cases decide (a ≠ nNone) <;> rfl
theorem tun_plain (a : ByteArray) : trailers [⟨nX2, a, false⟩] = okV a := by
  have p1 : psd ⟨nX2, a, false⟩ = false := by
    cases h : psd ⟨nX2, a, false⟩ with
    | false => rfl
    | true =>
      obtain ⟨r, hr⟩ := (psd_iff _).1 h
      have h2 : nX2.data.toList = 58 :: r := hr
      cases h2
  have n1 : okN nX2 = true := by decide +kernel
  have c1 : conn ⟨nX2, a, false⟩ = false := by
    have f1 : mem five nX2 = false := by decide +kernel
    have f2 : decide (nX2 = nTe) = false := by decide +kernel
    show (mem five nX2 || (decide (nX2 = nTe) && decide (a ≠ nTrailers))) = false
    rw [f1, f2]; rfl
  have l1 : decide (nX2 = nCL) = false := by decide +kernel
  unfold trailers
  cases hv : okV a <;> simp only [lookF, step1, hv, p1, addO, n1, c1, l1, Bool.and_true, Bool.true_and, Bool.and_false, Bool.not_false, cond_true, cond_false] <;> rfl
def moreN : List ByteArray := [nScheme, nPath, nAuth, nMethod, nStatus]
theorem tun_more (a : ByteArray) (m : ByteArray) (hm : m ∈ moreN) : request (tun a ++ [⟨m, nSlash, false⟩]) = none := by
  unfold request
  rw [look_app, look_tun]
  cases okV a
  · rfl
  · simp only [cond_true, Option.bind_some]
    have hall : (tun a).all psd = true := by
      have p1 : psd ⟨nMethod, nConnect, false⟩ = true := by decide +kernel
      have p2 : psd ⟨nAuth, a, false⟩ = true := by rw [psd_iff]; exact ⟨_, rfl⟩
      simp [tun, p1, p2]
    rw [hall]
    have v1 : okV nSlash = true := by decide +kernel
    have h0 : ∀ k, has none0 k = false := fun _ => rfl
    have e1 : decide (nScheme = nMethod) = false := by decide +kernel
    have e2 : decide (nScheme = nAuth) = false := by decide +kernel
    have e3 : decide (nPath = nMethod) = false := by decide +kernel
    have e4 : decide (nPath = nAuth) = false := by decide +kernel
    have e5 : decide (nMethod = nAuth) = false := by decide +kernel
    have key : ∀ g', lookF four true (gTun a) [⟨m, nSlash, false⟩] = some g' → mustQ g' = false := by
      intro g' hg
      have c1 : decide (nConnect ≠ nNone) = true := by decide +kernel
      have c2 : decide (nConnect = nConnect) = true := by simp
      have q1 : nMethod ≠ nAuth := by decide +kernel
      have q2 : nMethod ≠ nScheme := by decide +kernel
      have q3 : nMethod ≠ nPath := by decide +kernel
      simp only [moreN, List.mem_cons, List.not_mem_nil, or_false] at hm
      rcases hm with rfl | rfl | rfl | rfl | rfl
      · have p1 : psd ⟨nScheme, nSlash, false⟩ = true := by decide +kernel
        have m1 : mem four nScheme = true := by decide +kernel
        simp only [lookF, step1, v1, p1, addP, m1, gTun, has_upd, h0, e1, e2, Bool.and_true, Bool.true_and, Bool.or_false, Bool.not_false, cond_true, Option.some.injEq] at hg
        rw [← hg]
        have v1 : val (upd (upd (upd none0 nMethod ⟨nMethod, nConnect, false⟩) nAuth ⟨nAuth, a, false⟩) nScheme ⟨nScheme, nSlash, false⟩) nMethod = nConnect := by simp [val, upd, q1, q2]
        have h1 : has (upd (upd (upd none0 nMethod ⟨nMethod, nConnect, false⟩) nAuth ⟨nAuth, a, false⟩) nScheme ⟨nScheme, nSlash, false⟩) nScheme = true := by rw [has_upd]; simp
        simp only [mustQ, says, v1, h1, c1, c2, decide_true, cond_true, Bool.true_and, Bool.not_true, Bool.and_false, Bool.false_and]
      · have p1 : psd ⟨nPath, nSlash, false⟩ = true := by decide +kernel
        have m1 : mem four nPath = true := by decide +kernel
        simp only [lookF, step1, v1, p1, addP, m1, gTun, has_upd, h0, e3, e4, Bool.and_true, Bool.true_and, Bool.or_false, Bool.not_false, cond_true, Option.some.injEq] at hg
        rw [← hg]
        have v1 : val (upd (upd (upd none0 nMethod ⟨nMethod, nConnect, false⟩) nAuth ⟨nAuth, a, false⟩) nPath ⟨nPath, nSlash, false⟩) nMethod = nConnect := by simp [val, upd, q1, q3]
        have h1 : has (upd (upd (upd none0 nMethod ⟨nMethod, nConnect, false⟩) nAuth ⟨nAuth, a, false⟩) nPath ⟨nPath, nSlash, false⟩) nPath = true := by rw [has_upd]; simp
        simp only [mustQ, says, v1, h1, c1, c2, decide_true, cond_true, Bool.true_and, Bool.not_true, Bool.and_false, Bool.false_and]
      · have p1 : psd ⟨nAuth, nSlash, false⟩ = true := by decide +kernel
        have hh : has (gTun a) nAuth = true := by rw [gTun, has_upd]; simp
        simp [lookF, step1, v1, p1, addP, hh] at hg
      · have p1 : psd ⟨nMethod, nSlash, false⟩ = true := by decide +kernel
        have hh : has (gTun a) nMethod = true := by rw [gTun, has_upd, has_upd]; simp
        simp [lookF, step1, v1, p1, addP, hh] at hg
      · have p1 : psd ⟨nStatus, nSlash, false⟩ = true := by decide +kernel
        have m1 : mem four nStatus = false := by decide +kernel
        simp [lookF, step1, v1, p1, addP, m1] at hg
    simp only [Bool.and_true]
    cases hg : lookF four true (gTun a) [⟨m, nSlash, false⟩] with
    | none => rfl
    | some g' => simp only [key g' hg, cond_false]
end Go.Fie
