/- Stage 10: append that keeps the elder slice; of, among other things; the first case's answers. -/
import Derived.Test.YtilabahcngjflaaDoorJiN
import Derived.Deep.DeepAppendRoom
namespace Go.Proofs.YtilabahcngjflaaDoor
open Go.RowKit Go.Own Go.Tbl Go.Fie
set_option linter.unusedVariables false
set_option linter.unusedSimpArgs false
set_option maxRecDepth 100000
/-- append: what the elder slice reads as stays -/
theorem run_append_keep {P : Program} {w : World} {t ty e : TypeId} {z : Value} {size bytes : Nat} (E : Elt P t e z size bytes) {base : Nat}
    {A0 : Option Addr} {n c0 : Nat} {xs : List Value} (hown : w.ownsRow base e size (.slice A0 n c0) n xs) {A : Option Addr} {m c : Nat} {news : List Value} (hr : Rd w size A m news) (h1 : ∀ u ∈ news, u.oneCell' = true)
    (hb : (n + m) * bytes ≤ 140737488355328) (h63 : n + m ≤ maxLen) (hbase : base ≤ w.heap.size) :
    ∃ A' c' w', (Builtin.append_ #[t, t] ty #[.slice A0 n c0, .slice A m c]).run P w = .ok (.slice A' (n + m) c') w' ∧ w'.ownsRow base e size (.slice A' (n + m) c') (n + m) (xs ++ news) ∧ Fr (fun i => some i = (Value.slice A0 n c0).ownBlock) w w' ∧
      ((Value.slice A' (n + m) c').ownBlock = (Value.slice A0 n c0).ownBlock ∨ (Value.slice A' (n + m) c').ownBlock = some w.heap.size) ∧ Rd w' size A0 n xs := by
  obtain ⟨v', w', hrun, h2, h3, h4⟩ := run_append_rd (ty := ty) (c := c) E hown hr h1 hb h63 hbase
  obtain ⟨A', c', rfl, _⟩ := own_shape h2
  refine ⟨A', c', w', hrun, h2, h3, h4, ?_⟩
  rcases Nat.eq_zero_or_pos n with h0 | h0
  · subst h0
    have : xs = [] := List.eq_nil_of_length_eq_zero (by simpa using hown.1)
    subst this
    exact Rd.nil _ _ _
  obtain ⟨ht, ⟨i, hi, hz, hsize, hby⟩, hzs, hsz⟩ := E
  obtain ⟨A1, c1, hv1, hncap, hcml, _⟩ := own_shape hown
  obtain ⟨g, cap, hv, _, _⟩ := hown.form h0
  injection hv1 with _ _ hc1
  injection hv with hA _ hc
  subst hc1 hA
  by_cases hroom : n + m ≤ c0
  · rcases A with _ | ad
    · have hm : m = 0 := by
        rcases Nat.eq_zero_or_pos m with hx | hx
        · exact hx
        · obtain ⟨b, o, h, _⟩ := hr.2 hx; cases h
      subst hm
      have hn : news = [] := List.eq_nil_of_length_eq_zero (by simpa using hr.1)
      subst hn
      have hrun2 : (Builtin.append_ #[t, t] ty #[.slice (some ⟨g, 0, none⟩) n c0, .slice none 0 c]).run P w = .ok (.slice (some ⟨g, 0, none⟩) n c0) w := by
        simp [Builtin.append_, run_underlying ht, sizeOf, typeInfo, hi, Builtin.lenOf, Builtin.firstCells, hncap, storeCells]
      rw [hrun2] at hrun
      injection hrun with _ hw
      subst hw
      exact Rd.of_own hown
    · have hcells : ∀ j u, news[j]? = some u → w.cell? (ad.add j) = some u := by
        intro j u hu
        rcases Nat.eq_zero_or_pos m with hx | hx
        · subst hx
          have hn : news = [] := List.eq_nil_of_length_eq_zero (by simpa using hr.1)
          subst hn
          simp at hu
        · obtain ⟨b, o, h, hc⟩ := hr.2 hx
          injection h with h
          subst h
          rw [add_plain]
          exact hc j u hu
      obtain ⟨w2, hrun2, ho2, _⟩ := run_append_own_spare (P := P) w base t ty e i size ht hi hsize g n c0 xs hown ad m c news hr.1 hcells h1 hroom
      rw [hrun2] at hrun
      injection hrun with _ hw
      subst hw
      have := (Rd.of_own ho2).take (k := n) (by omega)
      rwa [List.take_append_of_le_length (by rw [hown.1]; exact Nat.le_refl _), List.take_of_length_le (by rw [hown.1]; exact Nat.le_refl _)] at this
  · rcases A with _ | ad
    · have hm : m = 0 := by
        rcases Nat.eq_zero_or_pos m with hx | hx
        · exact hx
        · obtain ⟨b, o, h, _⟩ := hr.2 hx; cases h
      omega
    · have hcells : ∀ j u, news[j]? = some u → w.cell? (ad.add j) = some u := by
        intro j u hu
        rcases Nat.eq_zero_or_pos m with hx | hx
        · subst hx
          have hn : news = [] := List.eq_nil_of_length_eq_zero (by simpa using hr.1)
          subst hn
          simp at hu
        · obtain ⟨b, o, h, hc⟩ := hr.2 hx
          injection h with h
          subst h
          rw [add_plain]
          exact hc j u hu
      subst hsize
      subst hby
      have holds : ∀ j u, xs[j]? = some u → w.cell? ((⟨g, 0, none⟩ : Addr).add j) = some u := hown.cells (g := g) rfl
      have hsmall : n + m ≤ 9223372036854775807 := by simp only [maxLen] at h63; omega
      have hrun2 := run_append_grow (P := P) w t ty e i z ht hi hz ⟨g, 0, none⟩ n c0 xs hown.1 holds ad m c news hr.1 hcells (by omega) (by omega) (growslice_fits (by omega) hb)
      rw [hrun2] at hrun
      injection hrun with _ hw
      subst hw
      exact (Rd.of_own hown).below (((Below.refl _ _).drew).alloc (by simp) _)
theorem wpList_append_keep {P : Program} {w : World} {ops : Array Oper} {rest : List Oper} {o : Oper} {a : Act} {Q : Exit → Act → World → Prop} (hgd : o.guard = none) (s x : Operand) (t : TypeId)
    (ho : o.op = .call { callee := .builtin .append, args := #[s, x], argTypes := #[t, t] }) {e : TypeId} {z : Value} {size bytes : Nat} (E : Elt P t e z size bytes) {base : Nat}
    (A0 : Option Addr) (n c0 : Nat) (xs : List Value) (hs : a.eval s = .slice A0 n c0) (hown : w.ownsRow base e size (.slice A0 n c0) n xs) (A : Option Addr) (m c : Nat) (news : List Value) (hx : a.eval x = .slice A m c)
    (hr : Rd w size A m news) (h1 : ∀ u ∈ news, u.oneCell' = true)
    (hb : (n + m) * bytes ≤ 140737488355328) (h63 : n + m ≤ maxLen) (hbase : base ≤ w.heap.size)
    (h : ∀ A' c' w', w'.ownsRow base e size (.slice A' (n + m) c') (n + m) (xs ++ news) → Fr (fun i => some i = (Value.slice A0 n c0).ownBlock) w w' → ((Value.slice A' (n + m) c').ownBlock = (Value.slice A0 n c0).ownBlock ∨ (Value.slice A' (n + m) c').ownBlock = some w.heap.size) → Rd w' size A0 n xs → wpList P ops Q rest (a.put o.dst (.slice A' (n + m) c')) w') : wpList P ops Q (o :: rest) a w := by
  refine wpList_plain hgd fun _ hK => ?_
  obtain ⟨A', c', w', hrun, h2, h3, h4, h5⟩ := run_append_keep (ty := o.type) (c := c) E hown hr h1 hb h63 hbase
  unfold Oper.wp execOp
  simp only [ho, resolve, invoke, builtin, Sem.run_bind, Sem.run_pure, Result.andThen_ok, List.map_toArray, List.map_cons, List.map_nil, hs, hx, hrun]
  exact hK _ _ (h A' c' w' h2 h3 h4 h5)
theorem own_below {w w' : World} {base : Nat} {e : TypeId} {size : Nat} {v : Value} {n : Nat} {xs : List Value} (h : w.ownsRow base e size v n xs) (hb : Below w.heap.size w w') : w'.ownsRow base e size v n xs :=
  own_fr (S := NoS) h (Fr.of_below hb (fun i h1 h2 => by omega)) (fun _ _ h => h)
/-- fields that a row of texts gives -/
theorem of_b {w : World} (p : Nat) (hp : w.heap.size = p) (cs : List Value) (m c n : Nat) (l : List (ByteArray × ByteArray)) (hcs : cs = (flat l).map Value.string) (hm : m = cs.length) (hn : l.length = n) (h5 : m ≤ 1000) :
    Calls Tryd.prog 18 #[.slice (some ⟨p, 0, none⟩) m c] (w.alloc (.cells cs.toArray 9)) fun e w' => ∃ A' c', e = .returned (.slice A' n c') ∧ w'.ownsRow w.heap.size 34 3 (.slice A' n c') n (fcellsL (l.map mkF)) ∧ Below w.heap.size w w' := by
  subst hp
  have hr : Rd (w.alloc (.cells cs.toArray 9)) 1 (some ⟨w.heap.size, 0, none⟩) m ((flat l).map Value.string) := by
    have h := Rd.of_blk (n := m) (size := 1) (Blk.new w 9 cs) (by omega)
    rw [Nat.mul_one, List.take_of_length_le (by omega)] at h
    rwa [← hcs]
  refine (of_c l hr h5).mono ?_
  rintro e w' ⟨A', c', rfl, s⟩
  refine ⟨A', c', by rw [hn], ?_, ?_⟩
  · have := own_lower (B := w.heap.size) s.own0 (by simp)
    rwa [hn] at this
  · exact ((Below.refl _ _).alloc (Nat.le_refl _) _).trans (s.below.mono (by simp))
theorem below_al {w w' : World} (h : Below w.heap.size w w') (o : Obj) : Below w.heap.size w (w'.alloc o) := h.alloc h.size o
/-! the first case -/
abbrev nHost : ByteArray := ⟨#[72, 111, 115, 116]⟩
abbrev nA : ByteArray := ⟨#[97]⟩
abbrev nB : ByteArray := ⟨#[98]⟩
abbrev n5 : ByteArray := ⟨#[53]⟩
abbrev n6 : ByteArray := ⟨#[54]⟩
def getP : List (ByteArray × ByteArray) := [(nMethod, nGet), (nScheme, nHttp), (nPath, nSlash)]
def hostP : List (ByteArray × ByteArray) := [(nHost, nX)]
def pathP : List (ByteArray × ByteArray) := [(nPath, nSlash), (nA, nB), (nMethod, nGet)]
def fiveP : List (ByteArray × ByteArray) := [(nStatus, n200), (nCL, n5), (nCL, n5)]
def sixP : List (ByteArray × ByteArray) := [(nStatus, n200), (nCL, n5), (nCL, n6)]
theorem ok_of {l : List Fld} (h : (l.all fun f => decide (f.n.size ≤ 1000) && decide (f.v.size ≤ 1000)) = true) : ∀ f ∈ l, fok f := by
  intro f hf
  have := List.all_eq_true.1 h f hf
  simp only [Bool.and_eq_true, decide_eq_true_eq] at this
  exact ⟨by omega, by omega⟩
theorem req_get {w : World} {A : Option Addr} {c : Nat} (hr : Rd w 3 A 3 (fcellsL (getP.map mkF))) : Calls Tryd.prog 14 #[.slice A 3 c] w fun e w' =>
    e = .returned (.tuple #[.agg #[.string nGet, .string nHttp, .string nNone, .string nSlash, .int .i64 0, .int .i64 (-1)], .bool true]) ∧ Below w.heap.size w w' := by
  have h : (request (getP.map mkF)).isSome = true := by decide +kernel
  have := request_c (c := c) hr (ok_of (by decide +kernel)) (by omega) nGet nHttp nNone nSlash 0 (-1) (by kernel_rfl)
  rwa [h] at this
theorem req_none {w : World} {A : Option Addr} {n c : Nat} {l : List Fld} (hr : Rd w 3 A n (fcellsL l)) (hok : ∀ f ∈ l, fok f) (hn : n ≤ 9223372036854775807) (h0 : request l = none) : Calls Tryd.prog 14 #[.slice A n c] w fun e w' =>
    e = .returned (.tuple #[.agg #[.string ⟨#[]⟩, .string ⟨#[]⟩, .string ⟨#[]⟩, .string ⟨#[]⟩, .int .i64 0, .int .i64 0], .bool false]) ∧ Below w.heap.size w w' := by
  have := request_c (c := c) hr hok hn nNone nNone nNone nNone 0 0 (by rw [h0]; rfl)
  rwa [h0] at this
theorem resp_five {w : World} {A : Option Addr} {c : Nat} (hr : Rd w 3 A 3 (fcellsL (fiveP.map mkF))) : Calls Tryd.prog 15 #[.slice A 3 c] w fun e w' =>
    e = .returned (.tuple #[.agg #[.string nNone, .string nNone, .string nNone, .string nNone, .int .i64 200, .int .i64 5], .bool true]) ∧ Below w.heap.size w w' := by
  have h : (response (fiveP.map mkF)).isSome = true := by decide +kernel
  have := response_c (c := c) hr (ok_of (by decide +kernel)) (by omega) nNone nNone nNone nNone 200 5 (by kernel_rfl)
  rwa [h] at this
theorem resp_none {w : World} {A : Option Addr} {n c : Nat} {l : List Fld} (hr : Rd w 3 A n (fcellsL l)) (hok : ∀ f ∈ l, fok f) (hn : n ≤ 9223372036854775807) (h0 : response l = none) : Calls Tryd.prog 15 #[.slice A n c] w fun e w' =>
    e = .returned (.tuple #[.agg #[.string ⟨#[]⟩, .string ⟨#[]⟩, .string ⟨#[]⟩, .string ⟨#[]⟩, .int .i64 0, .int .i64 0], .bool false]) ∧ Below w.heap.size w w' := by
  have := response_c (c := c) hr hok hn nNone nNone nNone nNone 0 0 (by rw [h0]; rfl)
  rwa [h0] at this
theorem none_of {o : Option Msg} (h : o.isSome = false) : o = none := by cases o <;> simp_all
theorem q_host : request (getP.map mkF ++ hostP.map mkF) = none := none_of (by decide +kernel)
theorem q_path : request (pathP.map mkF) = none := none_of (by decide +kernel)
theorem s_six : response (sixP.map mkF) = none := none_of (by decide +kernel)
end Go.Proofs.YtilabahcngjflaaDoor
