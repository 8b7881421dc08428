/- Stage 12: a block that comes in pieces. -/
import Derived.Test.YtnflegdoeomhcaaVh
import Derived.Test.YtnflegdoeomhcaaVk
import Derived.Laws.StructEq
namespace Go.Proofs.Ytnflegdoeomhcaa
open Go.RowKit Go.Own Go.Frm
set_option linter.unusedVariables false
set_option linter.unusedSimpArgs false
set_option maxRecDepth 100000
/-- a value that is a piece -/
def Pl (w0 : World) (v : Value) (ys : List UInt8) : Prop := ∃ A n c, v = .slice A n c ∧ Rd w0 1 A n (ys.map BV) ∧ n ≤ c ∧ c ≤ 9223372036854775807
structure Pcs (w0 : World) (k : Nat) (bs : List (List UInt8)) (vs : List Value) : Prop where
  bl : bs.length = k
  vl : vs.length = k
  at_ : ∀ (i : Nat) (v : Value) (ys : List UInt8), vs[i]? = some v → bs[i]? = some ys → Pl w0 v ys
theorem Pcs.nil (w0 : World) : Pcs w0 0 [] [] := ⟨rfl, rfl, fun i v ys h => by simp at h⟩
theorem Pcs.add {w0 : World} {k : Nat} {bs : List (List UInt8)} {vs : List Value} (h : Pcs w0 k bs vs) {v : Value} {ys : List UInt8} (hp : Pl w0 v ys) : Pcs w0 (k + 1) (bs ++ [ys]) (vs ++ [v]) := by
  refine ⟨by rw [List.length_append, h.bl]; rfl, by rw [List.length_append, h.vl]; rfl, fun i v' ys' h1 h2 => ?_⟩
  rcases Nat.lt_or_ge i k with hi | hi
  · rw [List.getElem?_append_left (by rw [h.vl]; exact hi)] at h1
    rw [List.getElem?_append_left (by rw [h.bl]; exact hi)] at h2
    exact h.at_ i v' ys' h1 h2
  · rw [List.getElem?_append_right (by rw [h.vl]; exact hi), h.vl] at h1
    rw [List.getElem?_append_right (by rw [h.bl]; exact hi), h.bl] at h2
    rcases hik : i - k with _ | j
    · rw [hik] at h1 h2
      simp at h1 h2
      subst h1 h2
      exact hp
    · rw [hik] at h1
      simp at h1
/-- the assembler behind so many pieces -/
def stp (bs : List (List UInt8)) (st : Int) (fin : Bool) (k : Nat) : Asm := if k = 0 then .idle 1000 else .opened 1000 (mkF 1 st fin false (bs.take k).flatten) (k - 1)
theorem flat_take (bs : List (List UInt8)) (k : Nat) (ys : List UInt8) (h : bs[k]? = some ys) : (bs.take (k + 1)).flatten = (bs.take k).flatten ++ ys := by
  rw [List.take_add_one, h, List.flatten_append]; simp
theorem flat_le (bs : List (List UInt8)) (k : Nat) : (bs.take k).flatten.length ≤ bs.flatten.length := by
  have h : bs.flatten = (bs.take k).flatten ++ (bs.drop k).flatten := by rw [← List.flatten_append, List.take_append_drop]
  rw [h, List.length_append]; omega
theorem ao_new12 {w0 w : World} {L : List Ob} {p : Nat} {a : Asm} (s : St (fun _ => False) w0 w (AO p a :: L)) : w0.heap.size ≤ p := by
  obtain ⟨P, pc, B, ll, lc, t⟩ := ao_open s
  obtain ⟨F, ⟨_, rfl⟩, _, h, _⟩ := t.focus0
  exact (h p rfl).resolve_left (fun h => h)
section
variable {w0 w : World} {L : List Ob} {p : Nat} {A : Option Addr} {n c : Nat} {st kd : Int} {fin fn : Bool} {ys : List UInt8} {bs : List (List UInt8)} {k np : Nat}
theorem w_no (s : St (fun _ => False) w0 w (AO p (stp bs st fin k) :: L)) (hp : Rd w0 1 A n (ys.map BV)) (hy : bs[k]? = some ys) (hk : k + 1 < np) (hnp : np ≤ 33) (ht : bs.flatten.length ≤ 1000) (hkd : (k = 0 ∧ kd = 1 ∧ fn = fin) ∨ (0 < k ∧ kd = 9 ∧ fn = false)) :
    Calls Try.prog 10 #[.pointer (some ⟨p, 0, none⟩), .agg #[.int .i64 kd, .int .i64 st, .bool fn, .bool false, .bool false, .bool false, .slice A n c, .int .i64 0, .int .i64 0, .int .i64 0, .bool false, .int .i64 0, .int .u32 0, .slice none 0 0, .int .i64 0, .int .i64 0]] w fun e w' => e = .returned (.tuple #[.agg #[.int .i64 0, .int .i64 0, .bool false, .bool false, .bool false, .bool false, .slice none 0 0, .int .i64 0, .int .i64 0, .int .i64 0, .bool false, .int .i64 0, .int .u32 0, .slice none 0 0, .int .i64 0, .int .i64 0], .bool false, .agg #[.bool false, .int .u32 0, .int .i64 0]]) ∧ St (fun _ => False) w0 w' (AO p (stp bs st fin (k + 1)) :: L) := by
  have hn : ys.length = n := by simpa using hp.1
  have hfar := hp.far (by decide) (ao_new12 s)
  have hpw := s.rd hp (fun _ _ h => h)
  have hf := flat_take bs k ys hy
  have hl1 := flat_le bs (k + 1)
  have hl2 : (bs.take (k + 1)).flatten.length = (bs.take k).flatten.length + n := by rw [hf, List.length_append, hn]
  rcases hkd with ⟨rfl, rfl, rfl⟩ | ⟨h0, rfl, rfl⟩
  · have e : stp bs st fn (0 + 1) = .opened 1000 (mkF 1 st fn false ys) 0 := by
      unfold stp
      rw [if_neg (by omega), hf]
      simp
    rw [e]
    exact s_hd_no (ys := ys) s hpw (by omega) (by omega) hfar (by omega)
  · obtain ⟨j, rfl⟩ : ∃ j, k = j + 1 := ⟨k - 1, by omega⟩
    have e : stp bs st fin (j + 1 + 1) = .opened 1000 (mkF 1 st fin false (bs.take (j + 1 + 1)).flatten) (j + 1) := by
      unfold stp
      rw [if_neg (by omega)]; rfl
    have e1 : stp bs st fin (j + 1) = .opened 1000 (mkF 1 st fin false (bs.take (j + 1)).flatten) j := by
      unfold stp
      rw [if_neg (by omega)]; rfl
    rw [e]
    rw [e1] at s
    exact s_co_no s hpw (by omega) (by omega) hfar (by omega) (by omega) _ hf.symm
theorem w_yes (s : St (fun _ => False) w0 w (AO p (stp bs st fin k) :: L)) (hp : Rd w0 1 A n (ys.map BV)) (hy : bs[k]? = some ys) (hk : k + 1 = bs.length) (hnp : bs.length ≤ 33) (xs : List UInt8) (hx : bs.flatten = xs) (ht : xs.length ≤ 1000) (hkd : (k = 0 ∧ kd = 1 ∧ fn = fin) ∨ (0 < k ∧ kd = 9 ∧ fn = false)) :
    Calls Try.prog 10 #[.pointer (some ⟨p, 0, none⟩), .agg #[.int .i64 kd, .int .i64 st, .bool fn, .bool true, .bool false, .bool false, .slice A n c, .int .i64 0, .int .i64 0, .int .i64 0, .bool false, .int .i64 0, .int .u32 0, .slice none 0 0, .int .i64 0, .int .i64 0]] w fun e w' => ∃ A1 n1 c1 B1 nl1 d1, e = .returned (.tuple #[.agg #[.int .i64 1, .int .i64 st, .bool fin, .bool true, .bool false, .bool false, .slice A1 n1 c1, .int .i64 0, .int .i64 0, .int .i64 0, .bool false, .int .i64 0, .int .u32 0, .slice B1 nl1 d1, .int .i64 0, .int .i64 0], .bool true, .agg #[.bool false, .int .u32 0, .int .i64 0]]) ∧ n1 = xs.length ∧ St (fun _ => False) w0 w' (AO p (.idle 1000) :: SLo 0 5 1 (.slice A1 n1 c1) n1 (xs.map BV) :: L) := by
  have hn : ys.length = n := by simpa using hp.1
  have hfar := hp.far (by decide) (ao_new12 s)
  have hpw := s.rd hp (fun _ _ h => h)
  have hf := flat_take bs k ys hy
  have hfl : (bs.take (k + 1)).flatten = xs := by rw [hk, List.take_length, hx]
  have hl2 : (bs.take (k + 1)).flatten.length = (bs.take k).flatten.length + n := by rw [hf, List.length_append, hn]
  rw [hfl] at hl2
  rcases hkd with ⟨rfl, rfl, rfl⟩ | ⟨h0, rfl, rfl⟩
  · have e : ys = xs := by rw [← hfl, hf]; simp
    subst e
    refine (s_hd_yes (ys := ys) (st := st) (fin := fn) s hpw (by omega) (by omega) hfar (by omega)).mono ?_
    rintro e w' ⟨A1, n1, c1, B1, nl1, d1, rfl, h, k⟩
    exact ⟨A1, n1, c1, B1, nl1, d1, rfl, by omega, k⟩
  · obtain ⟨j, rfl⟩ : ∃ j, k = j + 1 := ⟨k - 1, by omega⟩
    have e1 : stp bs st fin (j + 1) = .opened 1000 (mkF 1 st fin false (bs.take (j + 1)).flatten) j := by
      unfold stp
      rw [if_neg (by omega)]; rfl
    rw [e1] at s
    refine (s_co_yes s hpw (by omega) (by omega) hfar (by omega) (by omega) xs (by rw [← hfl, hf])).mono ?_
    rintro e w' ⟨A1, n1, c1, B1, nl1, d1, rfl, h, k⟩
    exact ⟨A1, n1, c1, B1, nl1, d1, rfl, h, k⟩
theorem w_kind (s : St (fun _ => False) w0 w (AO p (stp bs st fin (k + 1)) :: L)) (hk : k + 1 < np) (hnp : np ≤ 33) (ht : bs.flatten.length ≤ 1000) (kd sd : Int) (eh : Bool) (h9 : (kd != 9) = true) :
    Calls Try.prog 10 #[.pointer (some ⟨p, 0, none⟩), .agg #[.int .i64 kd, .int .i64 sd, .bool false, .bool eh, .bool false, .bool false, .slice none 0 0, .int .i64 0, .int .i64 0, .int .i64 0, .bool false, .int .i64 0, .int .u32 0, .slice none 0 0, .int .i64 0, .int .i64 0]] w fun e w' => e = .returned (.tuple #[.agg #[.int .i64 0, .int .i64 0, .bool false, .bool false, .bool false, .bool false, .slice none 0 0, .int .i64 0, .int .i64 0, .int .i64 0, .bool false, .int .i64 0, .int .u32 0, .slice none 0 0, .int .i64 0, .int .i64 0], .bool false, .agg #[.bool true, .int .u32 1, .int .i64 0]]) ∧ St (fun _ => False) w0 w' (AO p (.broken 1) :: L) := by
  have e1 : stp bs st fin (k + 1) = .opened 1000 (mkF 1 st fin false (bs.take (k + 1)).flatten) k := by
    unfold stp
    rw [if_neg (by omega)]; rfl
  rw [e1] at s
  have := flat_le bs (k + 1)
  exact s_co_kind (ys := []) (n := 0) s (Rd.nil _ _ _) (by omega) (by omega) (fun h => absurd h (by omega)) (by omega) (by omega) kd sd eh h9
end
theorem flt_eql12 (W : World) : (binOp .eql 34 (.agg #[.bool true, .int .u32 1, .int .i64 0]) (.agg #[.bool true, .int .u32 1, .int .i64 0])).run Try.prog W = .ok (.bool true) W := by
  rw [run_eql_struct, run_equalIn_agg _ _ _ _ _ (by kernel_rfl) (by kernel_rfl)]
  simp [Program.fieldsOf, Try.underlying34, Op.eqFields, go_sem]
theorem info_bytes : (Try.prog.info? 22).map (fun i => (i.zero, i.size, i.bytes)) = some (some (.slice none 0 0), 1, 24) := by kernel_rfl
theorem EBB12 : Elt Try.prog 27 22 (.slice none 0 0) 1 24 := ⟨Try.underlying27, info_parts info_bytes, rfl, by omega⟩
theorem st_nil12 (w : World) (e : TypeId) : St (fun _ => False) w w [SLo 0 e 1 (.slice none 0 0) 0 []] := St.made (F := fun i => (Value.slice none 0 0).ownBlock = some i) (framed_SLo ..) ⟨World.ownsRow_nil _ _ _ _, rfl⟩ (fun i h => by simp [Value.ownBlock] at h) (Below.refl _ _)
end Go.Proofs.Ytnflegdoeomhcaa
