/- The contracts of hints' errnoOf, of the deferred closures, of numberOctets and PutInt. -/
import Derived.Test.YtdmheinepkeglaaDoorHLow
namespace Go.Proofs.YtdmheinepkeglaaDoor
open Go.RowKit Go.Own Go.Huf Go.Hin
set_option linter.unusedVariables false

/-- what may be given up, and its error -/
inductive Up where
  | wrong
  | short
  | sense
  | err (e : Int)
def Up.val : Up → Value
  | .wrong => .iface 47 (.agg #[])
  | .short => .iface 57 (.agg #[])
  | .sense => .iface 76 (.agg #[])
  | .err e => .iface 24 (.int .i64 e)
def Up.code : Up → Int
  | .wrong => 1
  | .short => 2
  | .sense => 3
  | .err e => e
theorem as_yes1 (v : Value) (w : World) : (Instr.typeAssert (.iface 47 v) 20 47 true).run Tryd.prog w = .ok (.tuple #[v, .bool true]) w := by kernel_rfl
theorem as_yes2 (v : Value) (w : World) : (Instr.typeAssert (.iface 57 v) 20 57 true).run Tryd.prog w = .ok (.tuple #[v, .bool true]) w := by kernel_rfl
theorem as_yes3 (v : Value) (w : World) : (Instr.typeAssert (.iface 24 v) 20 24 true).run Tryd.prog w = .ok (.tuple #[v, .bool true]) w := by kernel_rfl
theorem as_no21 (v : Value) (w : World) : (Instr.typeAssert (.iface 57 v) 20 47 true).run Tryd.prog w = .ok (.tuple #[.agg #[], .bool false]) w := by kernel_rfl
theorem as_no31 (v : Value) (w : World) : (Instr.typeAssert (.iface 24 v) 20 47 true).run Tryd.prog w = .ok (.tuple #[.agg #[], .bool false]) w := by kernel_rfl
theorem as_no32 (v : Value) (w : World) : (Instr.typeAssert (.iface 24 v) 20 57 true).run Tryd.prog w = .ok (.tuple #[.agg #[], .bool false]) w := by kernel_rfl
theorem as_no41 (v : Value) (w : World) : (Instr.typeAssert (.iface 76 v) 20 47 true).run Tryd.prog w = .ok (.tuple #[.agg #[], .bool false]) w := by kernel_rfl
theorem as_no42 (v : Value) (w : World) : (Instr.typeAssert (.iface 76 v) 20 57 true).run Tryd.prog w = .ok (.tuple #[.agg #[], .bool false]) w := by kernel_rfl
theorem as_no43 (v : Value) (w : World) : (Instr.typeAssert (.iface 76 v) 20 24 true).run Tryd.prog w = .ok (.tuple #[.int .i64 0, .bool false]) w := by kernel_rfl
theorem eql_nil (t : TypeId) (v : Value) (w : World) : (binOp .eql 20 (.iface t v) .nilIface).run Tryd.prog w = .ok (.bool false) w := by kernel_rfl
theorem eql_nn (w : World) : (binOp .eql 20 .nilIface .nilIface).run Tryd.prog w = .ok (.bool true) w := by kernel_rfl
theorem errno_nil (w : World) : Calls Tryd.prog 20 #[.nilIface] w fun e w' => e = .returned (.int .i64 0) ∧ w = w' := by
  have h1 := eql_nn
  go_enter Tryd.func20, Tryd.ntmps20
  go_wp2
  go_ret
  exact ⟨rfl, rfl⟩
theorem errno_up (u : Up) (w : World) : Calls Tryd.prog 20 #[u.val] w fun e w' => e = .returned (.int .i64 u.code) ∧ Below w.heap.size w w' := by
  have h1 := eql_nil
  have h2 := as_yes1
  have h3 := as_yes2
  have h4 := as_yes3
  have h5 := as_no21
  have h6 := as_no31
  have h7 := as_no32
  have h8 := as_no41
  have h9 := as_no42
  have h10 := as_no43
  cases u
  all_goals
    unfold Up.val Up.code
    go_enter Tryd.func20, Tryd.ntmps20
    go_wp2
  · go_ret
    exact ⟨rfl, (Below.refl _ _).alloc (Nat.le_refl _) _⟩
  · go_ret
    exact ⟨rfl, (Below.refl _ _).alloc (Nat.le_refl _) _⟩
  · go_ret
    exact ⟨rfl, Below.refl _ _⟩
  · go_ret
    exact ⟨rfl, Below.refl _ _⟩

theorem catchP_up (p : Addr) (u : Up) (x : Int) (w : World) (hc : w.cell? p = some (.int .i64 x)) (hz : w.frozen? p = false) :
    CallsD Tryd.prog 19 #[.pointer (some p)] (.panicking [{ v := u.val, recovered := false }]) w fun e u' w' =>
      e = .returned (.tuple #[]) ∧ u' = .panicking [{ v := u.val, recovered := true }] ∧ w'.cell? p = some (.int .i64 u.code) ∧ Fr (· = p.block) w w' := by
  refine callsD_of_wpS Tryd.func19 rfl fun c₀ cs hu => ?_
  apply wpS_region
  simp [wpOpsS, go_sem, recoverD, hu, Tryd.ntmps19]
  refine (errno_up u w).mono ?_
  rintro e w2 ⟨rfl, hb⟩
  have hlt := World.block_lt_of_cell? w p hc
  have hc2 := (hb.cell hlt).trans hc
  have hz2 := (hb.frozen hlt).trans hz
  simp [go_sem, hc2, hz2, bodyPostS, results, Tryd.results19]
  exact (Fr.of_below (S := fun i => i = p.block) hb (fun i h1 h2 => by omega)).setCell (p := p) (.inl rfl) _
theorem catchP_idle (p : Addr) (x : Int) (w : World) (hc : w.cell? p = some (.int .i64 x)) (hz : w.frozen? p = false) :
    CallsD Tryd.prog 19 #[.pointer (some p)] .returning w fun e u' w' =>
      e = .returned (.tuple #[]) ∧ u' = .returning ∧ w'.cell? p = some (.int .i64 0) ∧ Fr (· = p.block) w w' := by
  refine callsD_of_wpS Tryd.func19 rfl fun c₀ cs hu => ?_
  apply wpS_region
  simp [wpOpsS, go_sem, recoverD, hu, Tryd.ntmps19]
  refine (errno_nil w).mono ?_
  rintro e w2 ⟨rfl, rfl⟩
  have h0 : c₀ = { c₀ with mode := .returning } := by cases c₀; simp_all
  simp [go_sem, hc, hz, bodyPostS, results, Tryd.results19]
  exact ⟨_, h0, rfl, (Fr.refl (fun i => i = p.block) w).setCell (p := p) (.inl rfl) _⟩
theorem catchG_up (p : Addr) (u : Up) (x : Int) (w : World) (hc : w.cell? p = some (.int .i64 x)) (hz : w.frozen? p = false) :
    CallsD Tryd.prog 24 #[.pointer (some p)] (.panicking [{ v := u.val, recovered := false }]) w fun e u' w' =>
      e = .returned (.tuple #[]) ∧ u' = .panicking [{ v := u.val, recovered := true }] ∧ w'.cell? p = some (.int .i64 u.code) ∧ Fr (· = p.block) w w' := by
  refine callsD_of_wpS Tryd.func24 rfl fun c₀ cs hu => ?_
  apply wpS_region
  simp [wpOpsS, go_sem, recoverD, hu, Tryd.ntmps24]
  refine (errno_up u w).mono ?_
  rintro e w2 ⟨rfl, hb⟩
  have hlt := World.block_lt_of_cell? w p hc
  have hc2 := (hb.cell hlt).trans hc
  have hz2 := (hb.frozen hlt).trans hz
  simp [go_sem, hc2, hz2, bodyPostS, results, Tryd.results24]
  exact (Fr.of_below (S := fun i => i = p.block) hb (fun i h1 h2 => by omega)).setCell (p := p) (.inl rfl) _
theorem catchG_idle (p : Addr) (x : Int) (w : World) (hc : w.cell? p = some (.int .i64 x)) (hz : w.frozen? p = false) :
    CallsD Tryd.prog 24 #[.pointer (some p)] .returning w fun e u' w' =>
      e = .returned (.tuple #[]) ∧ u' = .returning ∧ w'.cell? p = some (.int .i64 0) ∧ Fr (· = p.block) w w' := by
  refine callsD_of_wpS Tryd.func24 rfl fun c₀ cs hu => ?_
  apply wpS_region
  simp [wpOpsS, go_sem, recoverD, hu, Tryd.ntmps24]
  refine (errno_nil w).mono ?_
  rintro e w2 ⟨rfl, rfl⟩
  have h0 : c₀ = { c₀ with mode := .returning } := by cases c₀; simp_all
  simp [go_sem, hc, hz, bodyPostS, results, Tryd.results24]
  exact ⟨_, h0, rfl, (Fr.refl (fun i => i = p.block) w).setCell (p := p) (.inl rfl) _⟩
theorem catchT_up (p : Addr) (u : Up) (x : Int) (w : World) (hc : w.cell? p = some (.int .i64 x)) (hz : w.frozen? p = false) :
    CallsD Tryd.prog 26 #[.pointer (some p)] (.panicking [{ v := u.val, recovered := false }]) w fun e u' w' =>
      e = .returned (.tuple #[]) ∧ u' = .panicking [{ v := u.val, recovered := true }] ∧ w'.cell? p = some (.int .i64 u.code) ∧ Fr (· = p.block) w w' := by
  refine callsD_of_wpS Tryd.func26 rfl fun c₀ cs hu => ?_
  apply wpS_region
  simp [wpOpsS, go_sem, recoverD, hu, Tryd.ntmps26]
  refine (errno_up u w).mono ?_
  rintro e w2 ⟨rfl, hb⟩
  have hlt := World.block_lt_of_cell? w p hc
  have hc2 := (hb.cell hlt).trans hc
  have hz2 := (hb.frozen hlt).trans hz
  simp [go_sem, hc2, hz2, bodyPostS, results, Tryd.results26]
  exact (Fr.of_below (S := fun i => i = p.block) hb (fun i h1 h2 => by omega)).setCell (p := p) (.inl rfl) _
theorem catchT_idle (p : Addr) (x : Int) (w : World) (hc : w.cell? p = some (.int .i64 x)) (hz : w.frozen? p = false) :
    CallsD Tryd.prog 26 #[.pointer (some p)] .returning w fun e u' w' =>
      e = .returned (.tuple #[]) ∧ u' = .returning ∧ w'.cell? p = some (.int .i64 0) ∧ Fr (· = p.block) w w' := by
  refine callsD_of_wpS Tryd.func26 rfl fun c₀ cs hu => ?_
  apply wpS_region
  simp [wpOpsS, go_sem, recoverD, hu, Tryd.ntmps26]
  refine (errno_nil w).mono ?_
  rintro e w2 ⟨rfl, rfl⟩
  have h0 : c₀ = { c₀ with mode := .returning } := by cases c₀; simp_all
  simp [go_sem, hc, hz, bodyPostS, results, Tryd.results26]
  exact ⟨_, h0, rfl, (Fr.refl (fun i => i = p.block) w).setCell (p := p) (.inl rfl) _⟩

theorem andNot_fin : ∀ x, x < 256 → ∀ m, m < 9 → x &&& (255 - (2 ^ m - 1)) = topOf x m := by decide +kernel
theorem andNot_top (x m : Nat) (hx : x < 256) (hm : m ≤ 8) : Go.bits BinOp.andNot IntKind.u8 (x : Int) ((2 ^ m - 1 : Nat) : Int) = ((topOf x m : Nat) : Int) := by
  have := two_pow_le m hm
  rw [u8_andNot_nat _ _ hx (by omega), andNot_fin x hx m (by omega)]
theorem or_top (x m v : Nat) (hx : x < 256) (hm : m ≤ 8) (hv : v < 2 ^ m) : Go.bits BinOp.or IntKind.u8 ((topOf x m : Nat) : Int) (v : Int) = ((topOf x m + v : Nat) : Int) := by
  have := two_pow_le m hm
  have h2 := topOf_lt x m hx hm
  rw [u8_or_nat _ _ (by omega) (by omega)]
  congr 1
  unfold topOf
  rw [Nat.mul_comm, Nat.two_pow_add_eq_or_of_lt hv]
theorem or_more (r : Nat) (hr : r < 128) : Go.bits BinOp.or IntKind.u8 (r : Int) 128 = ((r + 128 : Nat) : Int) := by
  rw [show (128 : Int) = ((128 : Nat) : Int) from rfl, u8_or_nat _ _ (by omega) (by omega)]
  congr 1
  have := Nat.two_pow_add_eq_or_of_lt (i := 7) hr 1
  rw [show 2 ^ 7 * 1 = 128 from rfl] at this
  rw [Nat.or_comm, ← this]
  omega
theorem own_lit (w : World) (x : UInt8) : (w.alloc (.cells #[.int .u8 (x.toNat : Int)] 5)).ownsRow w.heap.size 5 1 (.slice (some ⟨w.heap.size, 0, none⟩) 1 1) 1 [BV x] := by
  have := own_of_blk (n := 1) (size := 1) (cap := 1) (Blk.new w 5 [BV x]) rfl (by omega) (by simp [maxLen])
  exact own_base this (by intro g hg; simp [Value.ownBlock] at hg; omega)
set_option maxRecDepth 100000 in
set_option maxHeartbeats 2000000 in
theorem numOct_any (x m v : Nat) (hx : x < 256) (h1 : 1 ≤ m) (h8 : m ≤ 8) (hv : v ≤ 2147483647) (L : List UInt8) (hL : putB (2 ^ m - 1) (topOf x m) v = L) (z : Int) (hz : z = (m : Int)) (w : World) :
    Calls Tryd.prog 22 #[.int .u8 (x : Int), .int .i64 z, .int .i64 (v : Int)] w fun e w' => ∃ A c, e = .returned (.slice A L.length c) ∧ w'.ownsRow w.heap.size 5 1 (.slice A L.length c) L.length (L.map BV) ∧ Below w.heap.size w w' := by
  subst hz
  have hLl : L.length ≤ 6 := by rw [← hL]; exact putB_le _ _ _ hv
  have hpl := two_pow_le m h8
  have hpp := Nat.two_pow_pos m
  obtain ⟨F, hF⟩ : ∃ F, 2 ^ m - 1 = F := ⟨_, rfl⟩
  have hF255 : F ≤ 255 := by omega
  obtain ⟨T, hT⟩ : ∃ T, topOf x m = T := ⟨_, rfl⟩
  have Hfull : Hid (∀ w, Calls Tryd.prog 33 #[.int .i64 (m : Int)] w fun e w' => e = .returned (.int .u8 (F : Int)) ∧ w = w') := by
    intro w
    have := fullP_any m h1 h8 w
    rwa [hF] at this
  have ha := andNot_top x m hx h8
  have hTl := topOf_lt x m hx h8
  rw [hT, hF] at ha
  rw [hF, hT] at hL
  rw [hF, hT] at hTl
  by_cases hc : v < F
  · have ho := or_top x m v hx h8 (by omega)
    rw [hT] at ho
    obtain ⟨S, hS⟩ : ∃ S, T + v = S := ⟨_, rfl⟩
    rw [hS] at ho
    have k1 : (v : Int) < (F : Int) := by omega
    have hcv : (v : Int) % 256 = (v : Int) := by omega
    have hL2 : L = [UInt8.ofNat S] := by rw [← hL, putB, if_pos hc, hS]
    have hSl : S < 256 := by omega
    have HL := Lib.hid hL2
    have hbv : Value.int .u8 (S : Int) = BV (UInt8.ofNat S) := by rw [BV, ofn S hSl]
    have Hbv := Lib.hid hbv
    clear hL hL2 hT hF hS hc hbv
    go_enter Tryd.func22, Tryd.ntmps22
    go_wp2_with (first
      | (go_at_call 33; (with_reducible refine (Hfull.out _).mono ?_); rintro e w4 ⟨rfl, rfl⟩))
    go_ret
    refine ⟨some ⟨w.heap.size, 0, none⟩, 1, by rw [HL.out]; rfl, ?_, (Below.refl _ _).alloc (Nat.le_refl _) _⟩
    have := own_lit w (UInt8.ofNat S)
    rw [HL.out]
    rwa [show Value.int .u8 ((UInt8.ofNat S).toNat : Int) = .int .u8 (S : Int) from Hbv.out.symm] at this
  · have ho := or_top x m F hx h8 (by omega)
    rw [hT] at ho
    obtain ⟨S, hS⟩ : ∃ S, T + F = S := ⟨_, rfl⟩
    rw [hS] at ho
    have kb : decide (v < F) = false := decide_eq_false hc
    obtain ⟨d0, hd0⟩ : ∃ d0, v - F = d0 := ⟨_, rfl⟩
    have e0 : (v : Int) - (F : Int) = (d0 : Int) := by omega
    have hL2 : [UInt8.ofNat S] ++ grp d0 = L := by rw [← hL, putB, if_neg hc, hS, hd0]; rfl
    have hSl : S < 256 := by omega
    have hdl : d0 ≤ 2147483647 := by omega
    have HL := Lib.hid hL2
    have hbv : Value.int .u8 (S : Int) = BV (UInt8.ofNat S) := by rw [BV, ofn S hSl]
    have hcF : (F : Int) % 256 = (F : Int) := by omega
    have Hbv := Lib.hid hbv
    clear hL hL2 hT hF hS hc hbv hd0
    go_enter Tryd.func22, Tryd.ntmps22
    go_wp2_with (first
      | (go_at_call 33; (with_reducible refine (Hfull.out _).mono ?_); rintro e w4 ⟨rfl, rfl⟩))
    go_loopg [9, 10] d0 (fun gh o r w' => ∃ (d : Nat) (A : Option Addr) (n c : Nat) (acc : List UInt8), d ≤ gh ∧ o = .slice A n c ∧ r = .int .i64 d ∧ d ≤ 2147483647 ∧ acc ++ grp d = L ∧ w'.ownsRow w.heap.size 5 1 (.slice A n c) n (acc.map BV) ∧ Below w.heap.size w w')
    case atStart =>
      refine ⟨d0, _, _, _, [UInt8.ofNat S], Nat.le_refl _, rfl, rfl, hdl, HL.out, ?_, (Below.refl _ _).alloc (Nat.le_refl _) _⟩
      have := own_lit w (UInt8.ofNat S)
      rwa [show Value.int .u8 ((UInt8.ofNat S).toNat : Int) = .int .u8 (S : Int) from Hbv.out.symm] at this
    case round =>
      obtain ⟨d, A, n, c, acc, hdg, rfl, rfl, hd, hg, how, hb⟩ := hrel
      have hnl : acc.length = n := by have := how.1; simpa using this
      have hgl : acc.length + (grp d).length = L.length := by rw [← hg, List.length_append]
      have hn6 : n ≤ 6 := by omega
      have Hg := Lib.hid hg
      have Ho := Lib.hid how
      have Hb := Lib.hid hb
      have Hnl := Lib.hid hnl
      clear hg how hb HL hgl hnl
      by_cases h128 : d < 128
      · have k2 : ¬ (128 : Int) ≤ (d : Int) := by omega
        have hg := Hg.out
        rw [grp_small h128] at hg
        have Hg2 := Lib.hid hg
        have hcd : (d : Int) % 256 = (d : Int) := by omega
        have hbd : Value.int .u8 (d : Int) = BV (UInt8.ofNat d) := by rw [BV, ofn d (by omega)]
        have Hbd := Lib.hid hbd
        clear hg Hg hbd
        go_wp2_with (first
          | (at_builtin
             refine wpList_append_rd rfl (.tmp 44) (.tmp 47) 23 rfl E31 (.slice A n c) n (acc.map BV) rfl (own_alloc Ho.out _) (some ⟨wr.heap.size, 0, none⟩) 1 1 _ rfl (rd_lit1 wr 5 _) (one_lit1 _ _) (by omega) (by unfold maxLen; omega) (by have := Hb.out.size; simp; omega) ?_
             intro A' c' w6 ho6 hf6 ho2
             have H6 := Lib.hid ho6
             have HF6 := Lib.hid hf6
             clear ho6 hf6 ho2))
        go_ret
        have hl : L.length = n + 1 := by rw [← Hg2.out, List.length_append, Hnl.out]; rfl
        refine ⟨A', c', by rw [hl]; rfl, ?_, (Hb.out.alloc Hb.out.size _).trans (HF6.out.below (by have := Hb.out.size; simp; omega) (fun i _ e => (Ho.out.lt i e.symm).1))⟩
        rw [hl, ← Hg2.out, List.map_append]
        have := H6.out
        rwa [Hbd.out] at this
      · have k2 : (128 : Int) ≤ (d : Int) := by omega
        have hg := Hg.out
        rw [grp_big h128] at hg
        have Hg2 := Lib.hid hg
        obtain ⟨r, hr⟩ : ∃ r, d % 128 = r := ⟨_, rfl⟩
        have hrl : r < 128 := by omega
        have e1 : (d : Int) % 128 = (r : Int) := by omega
        have e2 := or_more r hrl
        obtain ⟨y, hy⟩ : ∃ y, r + 128 = y := ⟨_, rfl⟩
        rw [hy] at e2
        obtain ⟨d', hd'⟩ : ∃ d', d / 128 = d' := ⟨_, rfl⟩
        have e3 : (d : Int) / 128 = (d' : Int) := by omega
        have Hr := Lib.hid hr
        have Hy := Lib.hid hy
        have Hd' := Lib.hid hd'
        clear hg Hg hr hy hd'
        obtain ⟨g1, rfl⟩ : ∃ g1, gk = g1 + 1 := ⟨gk - 1, by omega⟩
        go_wp2_with (first
          | (at_builtin
             refine wpList_append_rd rfl (.tmp 35) (.tmp 40) 23 rfl E31 (.slice A n c) n (acc.map BV) rfl (own_alloc Ho.out _) (some ⟨wr.heap.size, 0, none⟩) 1 1 _ rfl (rd_lit1 wr 5 _) (one_lit1 _ _) (by omega) (by unfold maxLen; omega) (by have := Hb.out.size; simp; omega) ?_
             intro A' c' w6 ho6 hf6 ho2
             have H6 := Lib.hid ho6
             have HF6 := Lib.hid hf6
             clear ho6 hf6 ho2))
        go_roundg g1
        case measure => omega
        case rel =>
          refine ⟨d', A', n + 1, c', acc ++ [UInt8.ofNat y], by have := Hd'.out; omega, rfl, rfl, by have := Hd'.out; omega, ?_, ?_, (Hb.out.alloc Hb.out.size _).trans (HF6.out.below (by have := Hb.out.size; simp; omega) (fun i _ e => (Ho.out.lt i e.symm).1))⟩
          · rw [← Hg2.out, Hr.out, Hy.out, Hd'.out, List.append_assoc]; rfl
          · have := H6.out
            rw [List.map_append]
            rwa [show Value.int .u8 (y : Int) = BV (UInt8.ofNat y) by rw [BV, ofn y (by have := Hy.out; omega)]] at this

/-- the error's variable, newly made, in whatever world lies above it -/
theorem err_cell {w w5 : World} (hb : Below (w.alloc (.cells #[.int .i64 0] 24)).heap.size (w.alloc (.cells #[.int .i64 0] 24)) w5) :
    w5.cell? ⟨w.heap.size, 0, none⟩ = some (.int .i64 0) ∧ w5.frozen? ⟨w.heap.size, 0, none⟩ = false := by
  have h := Blk.new w 24 [.int .i64 0]
  have hlt : w.heap.size < (w.alloc (.cells #[.int .i64 0] 24)).heap.size := by simp
  exact ⟨(hb.cell (p := ⟨w.heap.size, 0, none⟩) hlt).trans (h.cell 0), (hb.frozen (p := ⟨w.heap.size, 0, none⟩) hlt).trans (h.frozen 0)⟩
theorem own_above {w w5 : World} {e : TypeId} {v : Value} {n : Nat} {xs : List Value} {o : Obj} (ho : w5.ownsRow (w.alloc o).heap.size e 1 v n xs) : w5.ownsRow (w.heap.size + 1) e 1 v n xs := by
  simpa using ho
set_option maxRecDepth 100000 in
set_option maxHeartbeats 2000000 in
theorem PutInt_ok (x m v : Nat) (hx : x < 256) (h1 : 1 ≤ m) (h8 : m ≤ 8) (hv : v ≤ 2147483647) (L : List UInt8) (hL : putB (2 ^ m - 1) (topOf x m) v = L) (z : Int) (hz : z = (m : Int)) (zv : Int) (hzv : zv = (v : Int)) (N : Nat) (hN : L.length = N) (w : World) :
    Calls Tryd.prog 10 #[.int .u8 (x : Int), .int .i64 z, .int .i64 zv] w fun e w' => ∃ A c, e = .returned (.tuple #[.slice A N c, .int .i64 0]) ∧ w'.ownsRow (w.heap.size + 1) 5 1 (.slice A N c) N (L.map BV) ∧ Below w.heap.size w w' := by
  subst hz hzv hN
  have hmf : ∀ (fn : Fn) (first cap : Array Value) (w : World), (Instr.makeFunc fn first cap).run Tryd.prog w = .ok (.func fn first cap) w := fun _ _ _ _ => rfl
  have k1 : ¬ (v : Int) < 0 := by omega
  have k2 : ¬ (2147483647 : Int) < (v : Int) := by omega
  have HL := Lib.hid hL
  clear hL
  go_enter_defers Tryd.func10, Tryd.ntmps10
  go_wp2_with (first
    | (go_at_call 21; (with_reducible refine (mustBe_ok m h1 h8 _).mono ?_); rintro e w4 ⟨rfl, rfl⟩)
    | (go_at_call 22; (with_reducible refine (numOct_any x m v hx h1 h8 hv L HL.out _ rfl _).mono ?_); rintro e w5 ⟨A, c, rfl, ho, hb⟩; obtain ⟨hc5, hz5⟩ := err_cell hb; have Ho := Lib.hid (own_above ho); have Hb := Lib.hid (((Below.refl _ _).alloc (Nat.le_refl _) _).trans (hb.mono (by simp))); clear ho hb))
  refine leaves_cons (f := 19) (args := #[.pointer (some ⟨w.heap.size, 0, none⟩)]) (by simp) (by simp [go_sem]) ?_
  refine (catchP_idle ⟨w.heap.size, 0, none⟩ 0 _ (World.cell?_setCell_same _ _ _ hc5) (by simp [hz5])).mono ?_
  rintro e u' w'' ⟨rfl, rfl, hc6, hf⟩
  have hf2 : Fr (· = w.heap.size) w5 w'' := ((Fr.refl (· = w.heap.size) w5).setCell (p := ⟨w.heap.size, 0, none⟩) (.inl rfl) _).trans hf (fun _ _ h => h)
  simp [Leaves, settle, results, Tryd.results10, go_sem, hc6]
  exact ⟨A, c, ⟨rfl, rfl⟩, own_fr Ho.out hf2 (fun g hg e => by have := (Ho.out.lt g hg).1; omega), Hb.out.trans (hf2.below Hb.out.size (fun i _ e => by omega))⟩
theorem PutInt_no (x m v : Int) (h : ¬ (1 ≤ m ∧ m ≤ 8) ∨ v < 0 ∨ 2147483647 < v) (w : World) :
    Calls Tryd.prog 10 #[.int .u8 x, .int .i64 m, .int .i64 v] w fun e w' => e = .returned (.tuple #[.slice none 0 0, .int .i64 1]) ∧ Below w.heap.size w w' := by
  have hmf : ∀ (fn : Fn) (first cap : Array Value) (w : World), (Instr.makeFunc fn first cap).run Tryd.prog w = .ok (.func fn first cap) w := fun _ _ _ _ => rfl
  obtain ⟨hc5, hz5⟩ := err_cell (w := w) (Below.refl _ _)
  have hend : ∀ w'', Fr (fun i => i = (⟨w.heap.size, 0, none⟩ : Addr).block) (w.alloc (.cells #[.int .i64 0] 24)) w'' → Below w.heap.size w w'' := fun w'' hf =>
    ((Below.refl _ _).alloc (Nat.le_refl _) _).trans (hf.below (by simp) (fun i _ e => by simp at e; omega))
  by_cases hm : 1 ≤ m ∧ m ≤ 8
  · obtain ⟨m', rfl⟩ := Int.eq_ofNat_of_zero_le (show 0 ≤ m by omega)
    have hm1 : 1 ≤ m' := by omega
    have hm8 : m' ≤ 8 := by omega
    by_cases hv : v < 0
    · go_enter_defers Tryd.func10, Tryd.ntmps10
      go_wp2_with (first
        | (go_at_call 21; (with_reducible refine (mustBe_ok m' hm1 hm8 _).mono ?_); rintro e w4 ⟨rfl, rfl⟩))
      refine leaves_cons (f := 19) (args := #[.pointer (some ⟨w.heap.size, 0, none⟩)]) (by simp) (by simp [go_sem]) ?_
      refine (catchP_up ⟨w.heap.size, 0, none⟩ .wrong 0 _ hc5 hz5).mono ?_
      rintro e u' w'' ⟨rfl, rfl, hc6, hf⟩
      simp [Leaves, settle, results, Tryd.results10, go_sem, hc6]
      exact ⟨rfl, hend _ hf⟩
    · have hv2 : (2147483647 : Int) < v := by omega
      go_enter_defers Tryd.func10, Tryd.ntmps10
      go_wp2_with (first
        | (go_at_call 21; (with_reducible refine (mustBe_ok m' hm1 hm8 _).mono ?_); rintro e w4 ⟨rfl, rfl⟩))
      refine leaves_cons (f := 19) (args := #[.pointer (some ⟨w.heap.size, 0, none⟩)]) (by simp) (by simp [go_sem]) ?_
      refine (catchP_up ⟨w.heap.size, 0, none⟩ .wrong 0 _ hc5 hz5).mono ?_
      rintro e u' w'' ⟨rfl, rfl, hc6, hf⟩
      simp [Leaves, settle, results, Tryd.results10, go_sem, hc6]
      exact ⟨rfl, hend _ hf⟩
  · go_enter_defers Tryd.func10, Tryd.ntmps10
    go_wp2_with (first
      | (go_at_call 21; (with_reducible refine (mustBe_no m hm _).mono ?_); rintro e w4 ⟨rfl, rfl⟩))
    refine leaves_cons (f := 19) (args := #[.pointer (some ⟨w.heap.size, 0, none⟩)]) (by simp) (by simp [go_sem]) ?_
    refine (catchP_up ⟨w.heap.size, 0, none⟩ .wrong 0 _ hc5 hz5).mono ?_
    rintro e u' w'' ⟨rfl, rfl, hc6, hf⟩
    simp [Leaves, settle, results, Tryd.results10, go_sem, hc6]
    exact ⟨rfl, hend _ hf⟩
end Go.Proofs.YtdmheinepkeglaaDoor
