/- Several texts in one: Fm. -/
import Derived.Test.YtokbdkbljgdcpaaDoorY2
import Derived.Deep.RegionHeld
/- Reading a frame's octets: payload. -/
namespace Go.Proofs.YtokbdkbljgdcpaaDoor
open Go.RowKit Go.Own Go.Frm
set_option linter.unusedVariables false
set_option maxRecDepth 100000

def rdrs : Array Value := #[.func (.func 75) #[] #[], .func (.func 76) #[] #[], .func (.func 77) #[] #[], .func (.func 78) #[] #[], .func (.func 79) #[] #[], .func (.func 80) #[] #[], .func (.func 75) #[] #[], .func (.func 81) #[] #[], .func (.func 82) #[] #[], .func (.func 75) #[] #[]]
theorem store_rdrs {ops : Array Oper} {rest : List Oper} {o : Oper} {a : Act} {w : World} {Q : Exit → Act → World → Prop} (hgd : o.guard = none) (x y : Operand) (ho : o.op = .store 129 x y) (old : Array Value) (ho2 : old.size = 10)
    (hx : a.eval x = .pointer (some ⟨w.heap.size, 0, none⟩)) (hy : a.eval y = .agg rdrs)
    (h : ∀ w', w'.heap[w.heap.size]? = some (.cells rdrs 129 (0, 0)) → Below w.heap.size w w' → wpList Tryd.prog ops Q rest (a.put o.dst undef) w') : wpList Tryd.prog ops Q (o :: rest) a (w.alloc (.cells old 129)) := by
  refine wpList_store_row hgd 129 x y ho w.heap.size rdrs hx hy 129 old (heap_alloc_new w _) (by kernel_rfl) (by rw [ho2]; rfl) (by kernel_rfl) ?_
  refine h _ ?_ ?_
  · exact setRow_heap _ w.heap.size _ _ _ _ (heap_alloc_new w _)
  · exact ⟨rfl, rfl, rfl, by simp [World.setRow], fun k hk => (setRow_other _ _ _ _ (by omega)).trans (Below.heap_alloc w _ k hk)⟩
theorem res_rdrs (tmps : Array Value) (w : World) (g : Nat) (hp : tmps.getD 0 undef = .pointer (some ⟨g, 0, none⟩)) (hb : w.heap[g]? = some (.cells rdrs 129 (0, 0))) : (results Tryd.f74 tmps).run Tryd.prog w = .ok (.agg rdrs) w :=
  results_cell_row (p := 0) (ty := 129) (by kernel_rfl) tmps w g 129 rdrs (0, 0) _ hp hb Tryd.underlying129 rfl (by kernel_rfl)
theorem readers_c (w : World) : Calls Tryd.prog 74 #[] w fun e w' => e = .returned (.agg #[.func (.func 75) #[] #[], .func (.func 76) #[] #[], .func (.func 77) #[] #[], .func (.func 78) #[] #[], .func (.func 79) #[] #[], .func (.func 80) #[] #[], .func (.func 75) #[] #[], .func (.func 81) #[] #[], .func (.func 82) #[] #[], .func (.func 75) #[] #[]]) ∧ Below w.heap.size w w' := by
  go_enter Tryd.func74, Tryd.ntmps74
  go_wp2_with (first
    | (with_reducible refine store_rdrs rfl (.tmp 0) (.tmp 1) rfl _ rfl rfl rfl ?_
       intro w1 h1 hb
       have H1 := Lib.hid h1
       have HB := Lib.hid hb
       clear h1 hb))
  exact bodyPost_ret (v := .agg rdrs) (res_rdrs _ w1 w.heap.size rfl H1.out) rfl ⟨rfl, HB.out⟩
theorem idx_0 (W : World) : (Instr.index 129 (.agg #[.func (.func 75) #[] #[], .func (.func 76) #[] #[], .func (.func 77) #[] #[], .func (.func 78) #[] #[], .func (.func 79) #[] #[], .func (.func 80) #[] #[], .func (.func 75) #[] #[], .func (.func 81) #[] #[], .func (.func 82) #[] #[], .func (.func 75) #[] #[]]) (.int .i64 0)).run Tryd.prog W = .ok (.func (.func 75) #[] #[]) W := by kernel_rfl
theorem idx_1 (W : World) : (Instr.index 129 (.agg #[.func (.func 75) #[] #[], .func (.func 76) #[] #[], .func (.func 77) #[] #[], .func (.func 78) #[] #[], .func (.func 79) #[] #[], .func (.func 80) #[] #[], .func (.func 75) #[] #[], .func (.func 81) #[] #[], .func (.func 82) #[] #[], .func (.func 75) #[] #[]]) (.int .i64 1)).run Tryd.prog W = .ok (.func (.func 76) #[] #[]) W := by kernel_rfl
theorem idx_2 (W : World) : (Instr.index 129 (.agg #[.func (.func 75) #[] #[], .func (.func 76) #[] #[], .func (.func 77) #[] #[], .func (.func 78) #[] #[], .func (.func 79) #[] #[], .func (.func 80) #[] #[], .func (.func 75) #[] #[], .func (.func 81) #[] #[], .func (.func 82) #[] #[], .func (.func 75) #[] #[]]) (.int .i64 2)).run Tryd.prog W = .ok (.func (.func 77) #[] #[]) W := by kernel_rfl
theorem idx_3 (W : World) : (Instr.index 129 (.agg #[.func (.func 75) #[] #[], .func (.func 76) #[] #[], .func (.func 77) #[] #[], .func (.func 78) #[] #[], .func (.func 79) #[] #[], .func (.func 80) #[] #[], .func (.func 75) #[] #[], .func (.func 81) #[] #[], .func (.func 82) #[] #[], .func (.func 75) #[] #[]]) (.int .i64 3)).run Tryd.prog W = .ok (.func (.func 78) #[] #[]) W := by kernel_rfl
theorem idx_4 (W : World) : (Instr.index 129 (.agg #[.func (.func 75) #[] #[], .func (.func 76) #[] #[], .func (.func 77) #[] #[], .func (.func 78) #[] #[], .func (.func 79) #[] #[], .func (.func 80) #[] #[], .func (.func 75) #[] #[], .func (.func 81) #[] #[], .func (.func 82) #[] #[], .func (.func 75) #[] #[]]) (.int .i64 4)).run Tryd.prog W = .ok (.func (.func 79) #[] #[]) W := by kernel_rfl
theorem idx_5 (W : World) : (Instr.index 129 (.agg #[.func (.func 75) #[] #[], .func (.func 76) #[] #[], .func (.func 77) #[] #[], .func (.func 78) #[] #[], .func (.func 79) #[] #[], .func (.func 80) #[] #[], .func (.func 75) #[] #[], .func (.func 81) #[] #[], .func (.func 82) #[] #[], .func (.func 75) #[] #[]]) (.int .i64 5)).run Tryd.prog W = .ok (.func (.func 80) #[] #[]) W := by kernel_rfl
theorem idx_6 (W : World) : (Instr.index 129 (.agg #[.func (.func 75) #[] #[], .func (.func 76) #[] #[], .func (.func 77) #[] #[], .func (.func 78) #[] #[], .func (.func 79) #[] #[], .func (.func 80) #[] #[], .func (.func 75) #[] #[], .func (.func 81) #[] #[], .func (.func 82) #[] #[], .func (.func 75) #[] #[]]) (.int .i64 6)).run Tryd.prog W = .ok (.func (.func 75) #[] #[]) W := by kernel_rfl
theorem idx_7 (W : World) : (Instr.index 129 (.agg #[.func (.func 75) #[] #[], .func (.func 76) #[] #[], .func (.func 77) #[] #[], .func (.func 78) #[] #[], .func (.func 79) #[] #[], .func (.func 80) #[] #[], .func (.func 75) #[] #[], .func (.func 81) #[] #[], .func (.func 82) #[] #[], .func (.func 75) #[] #[]]) (.int .i64 7)).run Tryd.prog W = .ok (.func (.func 81) #[] #[]) W := by kernel_rfl
theorem idx_8 (W : World) : (Instr.index 129 (.agg #[.func (.func 75) #[] #[], .func (.func 76) #[] #[], .func (.func 77) #[] #[], .func (.func 78) #[] #[], .func (.func 79) #[] #[], .func (.func 80) #[] #[], .func (.func 75) #[] #[], .func (.func 81) #[] #[], .func (.func 82) #[] #[], .func (.func 75) #[] #[]]) (.int .i64 8)).run Tryd.prog W = .ok (.func (.func 82) #[] #[]) W := by kernel_rfl
theorem idx_9 (W : World) : (Instr.index 129 (.agg #[.func (.func 75) #[] #[], .func (.func 76) #[] #[], .func (.func 77) #[] #[], .func (.func 78) #[] #[], .func (.func 79) #[] #[], .func (.func 80) #[] #[], .func (.func 75) #[] #[], .func (.func 81) #[] #[], .func (.func 82) #[] #[], .func (.func 75) #[] #[]]) (.int .i64 9)).run Tryd.prog W = .ok (.func (.func 75) #[] #[]) W := by kernel_rfl
section
variable {w : World} {r : Nat} {cs : List Value} {xs : List UInt8}
theorem fr_of_b {w w1 : World} {S : Nat → Prop} (f : Below w.heap.size w w1) : Fr S w w1 := Fr.of_below f (fun i h1 h2 => by omega)
theorem RGR.before {w w1 : World} {cs' : List Value} {ys : List UInt8} {e : Ending} {w' : World} (f : Below w.heap.size w w1) (h : RGR w1 r cs' ys e w') : RGR w r cs' ys e w' := h.trans (fr_of_b f)
theorem RGN.before {w w1 : World} {cs' : List Value} {ys : List UInt8} {e : Ending} {w' : World} (f : Below w.heap.size w w1) (h : RGN w1 r cs' ys e w') : RGN w r cs' ys e w' := h.trans (fr_of_b f)
def RGL (w : World) (r : Nat) (cs : List Value) (m : Nat) (xs : List UInt8) (e : Ending) (w' : World) : Prop :=
  ∃ A' c', e = .returned (.tuple #[]) ∧ RG w' r (cs.set 13 (.slice A' m c')) (xs.drop (6 * m)) ∧ Fr (· = r) w w' ∧ w'.ownsRow w.heap.size 50 2 (.slice A' m c') m (scells (settsN m xs))
theorem RGL.before {w w1 : World} {cs' : List Value} {m : Nat} {ys : List UInt8} {e : Ending} {w' : World} (f : Below w.heap.size w w1) (h : RGL w1 r cs' m ys e w') : RGL w r cs' m ys e w' := by
  obtain ⟨A, c, h1, h2, h3, h4⟩ := h
  exact ⟨A, c, h1, h2, (fr_of_b f : Fr (· = r) w w1).trans h3 (fun _ _ h => h), own_lower h4 f.size⟩
theorem list_l (h : RG w r cs xs) (h13 : cs[13]? = some (.slice none 0 0)) (m : Nat) (hm : xs.length = 6 * m) (hx : xs.length ≤ 16777215) : Calls Tryd.prog 79 #[.pointer (some ⟨r, 0, none⟩)] w (RGL w r cs m xs) := list_c h h13 m hm hx
set_option maxHeartbeats 1000000 in
theorem payload_0 (h : RG w r cs xs) (h0 : cs[0]? = some (.int .i64 0)) (hx : xs.length ≤ 16777215) : Calls Tryd.prog 65 #[.pointer (some ⟨r, 0, none⟩)] w (RGR w r cs xs) := by
  have H := Lib.hid h
  have hrl := h.lt
  obtain ⟨⟨u, hu, y0⟩, z0⟩ := h.at_ 0 (by omega)
  obtain rfl : u = .int .i64 0 := by rw [h0] at hu; cases hu; rfl
  have kd : decide ((0 : Int) < 10) = true := rfl
  have ix := idx_0
  clear h h0 hu
  go_enter Tryd.func65, Tryd.ntmps65
  go_wp2_with (first
    | (go_at_call 68; (with_reducible refine (known_any 0 _ true kd).mono ?_); rintro e w1 ⟨rfl, rfl⟩))
  have HD : Hid (RG w.drew r cs xs) := H.out.below (below_drewN (Below.refl _ _) 1)
  have y0' : w.drew.cell? ⟨r, 0, none⟩ = some (.int .i64 0) := y0
  go_region_with (first
    | (go_at_call 74; (with_reducible refine (readers_c _).mono ?_); rintro e w2 ⟨rfl, hb⟩
       have y2 : w2.cell? ⟨r, 0, none⟩ = some (.int .i64 0) := (hb.cell (p := ⟨r, 0, none⟩) hrl).trans y0
       have H2 := Lib.hid (HD.out.below hb)
       have B2 : Hid (Below w.heap.size w w2) := (below_drewN (Below.refl _ _) 1).trans hb
       clear hb)
    | (go_at_call 75; (with_reducible refine (rest_r H2.out hx).mono ?_); rintro e w3 ⟨A2, c2, rfl, h2, f2, o2⟩
       have R2 := Lib.hid (RGR.before B2.out ⟨A2, c2, rfl, h2, f2, o2⟩)
       clear h2 f2 o2))
  all_goals
    go_wp2
    go_end0
    exact R2.out
set_option maxHeartbeats 1000000 in
theorem payload_1y (h : RG w r cs xs) (h0 : cs[0]? = some (.int .i64 1)) (hp : cs[5]? = some (.bool true)) (hk : 5 ≤ xs.length) (hx : xs.length ≤ 16777215) : Calls Tryd.prog 65 #[.pointer (some ⟨r, 0, none⟩)] w (RGR w r (prioC cs xs) (xs.drop 5)) := by
  have H := Lib.hid h
  have hrl := h.lt
  obtain ⟨⟨u, hu, y0⟩, z0⟩ := h.at_ 0 (by omega)
  obtain rfl : u = .int .i64 1 := by rw [h0] at hu; cases hu; rfl
  have kd : decide ((1 : Int) < 10) = true := rfl
  have ix := idx_1
  have Hp := Lib.hid hp
  clear hp
  clear h h0 hu
  go_enter Tryd.func65, Tryd.ntmps65
  go_wp2_with (first
    | (go_at_call 68; (with_reducible refine (known_any 1 _ true kd).mono ?_); rintro e w1 ⟨rfl, rfl⟩))
  have HD : Hid (RG w.drew r cs xs) := H.out.below (below_drewN (Below.refl _ _) 1)
  have y0' : w.drew.cell? ⟨r, 0, none⟩ = some (.int .i64 1) := y0
  go_region_with (first
    | (go_at_call 74; (with_reducible refine (readers_c _).mono ?_); rintro e w2 ⟨rfl, hb⟩
       have y2 : w2.cell? ⟨r, 0, none⟩ = some (.int .i64 1) := (hb.cell (p := ⟨r, 0, none⟩) hrl).trans y0
       have H2 := Lib.hid (HD.out.below hb)
       have B2 : Hid (Below w.heap.size w w2) := (below_drewN (Below.refl _ _) 1).trans hb
       clear hb)
    | (go_at_call 76; (with_reducible refine (headers_yes H2.out Hp.out hk hx).mono ?_); rintro e w3 ⟨A2, c2, rfl, h2, f2, o2⟩
       have R2 := Lib.hid (RGR.before B2.out ⟨A2, c2, rfl, h2, f2, o2⟩)
       clear h2 f2 o2))
  all_goals
    go_wp2
    go_end0
    exact R2.out
set_option maxHeartbeats 1000000 in
theorem payload_1n (h : RG w r cs xs) (h0 : cs[0]? = some (.int .i64 1)) (hp : cs[5]? = some (.bool false)) (hx : xs.length ≤ 16777215) : Calls Tryd.prog 65 #[.pointer (some ⟨r, 0, none⟩)] w (RGR w r cs xs) := by
  have H := Lib.hid h
  have hrl := h.lt
  obtain ⟨⟨u, hu, y0⟩, z0⟩ := h.at_ 0 (by omega)
  obtain rfl : u = .int .i64 1 := by rw [h0] at hu; cases hu; rfl
  have kd : decide ((1 : Int) < 10) = true := rfl
  have ix := idx_1
  have Hp := Lib.hid hp
  clear hp
  clear h h0 hu
  go_enter Tryd.func65, Tryd.ntmps65
  go_wp2_with (first
    | (go_at_call 68; (with_reducible refine (known_any 1 _ true kd).mono ?_); rintro e w1 ⟨rfl, rfl⟩))
  have HD : Hid (RG w.drew r cs xs) := H.out.below (below_drewN (Below.refl _ _) 1)
  have y0' : w.drew.cell? ⟨r, 0, none⟩ = some (.int .i64 1) := y0
  go_region_with (first
    | (go_at_call 74; (with_reducible refine (readers_c _).mono ?_); rintro e w2 ⟨rfl, hb⟩
       have y2 : w2.cell? ⟨r, 0, none⟩ = some (.int .i64 1) := (hb.cell (p := ⟨r, 0, none⟩) hrl).trans y0
       have H2 := Lib.hid (HD.out.below hb)
       have B2 : Hid (Below w.heap.size w w2) := (below_drewN (Below.refl _ _) 1).trans hb
       clear hb)
    | (go_at_call 76; (with_reducible refine (headers_no H2.out Hp.out hx).mono ?_); rintro e w3 ⟨A2, c2, rfl, h2, f2, o2⟩
       have R2 := Lib.hid (RGR.before B2.out ⟨A2, c2, rfl, h2, f2, o2⟩)
       clear h2 f2 o2))
  all_goals
    go_wp2
    go_end0
    exact R2.out
set_option maxHeartbeats 1000000 in
theorem payload_2 (h : RG w r cs xs) (h0 : cs[0]? = some (.int .i64 2)) (hk : 5 ≤ xs.length) : Calls Tryd.prog 65 #[.pointer (some ⟨r, 0, none⟩)] w (RGN w r (prioC cs xs) (xs.drop 5)) := by
  have H := Lib.hid h
  have hrl := h.lt
  obtain ⟨⟨u, hu, y0⟩, z0⟩ := h.at_ 0 (by omega)
  obtain rfl : u = .int .i64 2 := by rw [h0] at hu; cases hu; rfl
  have kd : decide ((2 : Int) < 10) = true := rfl
  have ix := idx_2
  clear h h0 hu
  go_enter Tryd.func65, Tryd.ntmps65
  go_wp2_with (first
    | (go_at_call 68; (with_reducible refine (known_any 2 _ true kd).mono ?_); rintro e w1 ⟨rfl, rfl⟩))
  have HD : Hid (RG w.drew r cs xs) := H.out.below (below_drewN (Below.refl _ _) 1)
  have y0' : w.drew.cell? ⟨r, 0, none⟩ = some (.int .i64 2) := y0
  go_region_with (first
    | (go_at_call 74; (with_reducible refine (readers_c _).mono ?_); rintro e w2 ⟨rfl, hb⟩
       have y2 : w2.cell? ⟨r, 0, none⟩ = some (.int .i64 2) := (hb.cell (p := ⟨r, 0, none⟩) hrl).trans y0
       have H2 := Lib.hid (HD.out.below hb)
       have B2 : Hid (Below w.heap.size w w2) := (below_drewN (Below.refl _ _) 1).trans hb
       clear hb)
    | (go_at_call 77; (with_reducible refine (priority_c H2.out hk).mono ?_); rintro e w3 ⟨rfl, h2, f2⟩
       have R2 := Lib.hid (RGN.before B2.out ⟨rfl, h2, f2⟩)
       clear h2 f2))
  all_goals
    go_wp2
    go_end0
    exact R2.out
set_option maxHeartbeats 1000000 in
theorem payload_3 (h : RG w r cs xs) (h0 : cs[0]? = some (.int .i64 3)) (hk : 4 ≤ xs.length) : Calls Tryd.prog 65 #[.pointer (some ⟨r, 0, none⟩)] w (RGN w r (cs.set 12 (.int .u32 ((num (xs.take 4) : Nat) : Int))) (xs.drop 4)) := by
  have H := Lib.hid h
  have hrl := h.lt
  obtain ⟨⟨u, hu, y0⟩, z0⟩ := h.at_ 0 (by omega)
  obtain rfl : u = .int .i64 3 := by rw [h0] at hu; cases hu; rfl
  have kd : decide ((3 : Int) < 10) = true := rfl
  have ix := idx_3
  clear h h0 hu
  go_enter Tryd.func65, Tryd.ntmps65
  go_wp2_with (first
    | (go_at_call 68; (with_reducible refine (known_any 3 _ true kd).mono ?_); rintro e w1 ⟨rfl, rfl⟩))
  have HD : Hid (RG w.drew r cs xs) := H.out.below (below_drewN (Below.refl _ _) 1)
  have y0' : w.drew.cell? ⟨r, 0, none⟩ = some (.int .i64 3) := y0
  go_region_with (first
    | (go_at_call 74; (with_reducible refine (readers_c _).mono ?_); rintro e w2 ⟨rfl, hb⟩
       have y2 : w2.cell? ⟨r, 0, none⟩ = some (.int .i64 3) := (hb.cell (p := ⟨r, 0, none⟩) hrl).trans y0
       have H2 := Lib.hid (HD.out.below hb)
       have B2 : Hid (Below w.heap.size w w2) := (below_drewN (Below.refl _ _) 1).trans hb
       clear hb)
    | (go_at_call 78; (with_reducible refine (code_c H2.out hk).mono ?_); rintro e w3 ⟨rfl, h2, f2⟩
       have R2 := Lib.hid (RGN.before B2.out ⟨rfl, h2, f2⟩)
       clear h2 f2))
  all_goals
    go_wp2
    go_end0
    exact R2.out
set_option maxHeartbeats 1000000 in
theorem payload_4 (h : RG w r cs xs) (h0 : cs[0]? = some (.int .i64 4)) (h13 : cs[13]? = some (.slice none 0 0)) (m : Nat) (hm : xs.length = 6 * m) (hx : xs.length ≤ 16777215) : Calls Tryd.prog 65 #[.pointer (some ⟨r, 0, none⟩)] w (RGL w r cs m xs) := by
  have H := Lib.hid h
  have hrl := h.lt
  obtain ⟨⟨u, hu, y0⟩, z0⟩ := h.at_ 0 (by omega)
  obtain rfl : u = .int .i64 4 := by rw [h0] at hu; cases hu; rfl
  have kd : decide ((4 : Int) < 10) = true := rfl
  have ix := idx_4
  have H13 := Lib.hid h13
  have Hm := Lib.hid hm
  clear h13 hm
  clear h h0 hu
  go_enter Tryd.func65, Tryd.ntmps65
  go_wp2_with (first
    | (go_at_call 68; (with_reducible refine (known_any 4 _ true kd).mono ?_); rintro e w1 ⟨rfl, rfl⟩))
  have HD : Hid (RG w.drew r cs xs) := H.out.below (below_drewN (Below.refl _ _) 1)
  have y0' : w.drew.cell? ⟨r, 0, none⟩ = some (.int .i64 4) := y0
  go_region_with (first
    | (go_at_call 74; (with_reducible refine (readers_c _).mono ?_); rintro e w2 ⟨rfl, hb⟩
       have y2 : w2.cell? ⟨r, 0, none⟩ = some (.int .i64 4) := (hb.cell (p := ⟨r, 0, none⟩) hrl).trans y0
       have H2 := Lib.hid (HD.out.below hb)
       have B2 : Hid (Below w.heap.size w w2) := (below_drewN (Below.refl _ _) 1).trans hb
       clear hb)
    | (go_at_call 79; (with_reducible refine (list_l H2.out H13.out m Hm.out hx).mono ?_); rintro e w3 ⟨A2, c2, rfl, h2, f2, o2⟩
       have R2 := Lib.hid (RGL.before B2.out ⟨A2, c2, rfl, h2, f2, o2⟩)
       clear h2 f2 o2))
  all_goals
    go_wp2
    go_end0
    exact R2.out
set_option maxHeartbeats 1000000 in
theorem payload_5 (h : RG w r cs xs) (h0 : cs[0]? = some (.int .i64 5)) (hk : 4 ≤ xs.length) (hx : xs.length ≤ 16777215) : Calls Tryd.prog 65 #[.pointer (some ⟨r, 0, none⟩)] w (RGR w r (cs.set 14 (.int .i64 ((low (num (xs.take 4)) : Nat) : Int))) (xs.drop 4)) := by
  have H := Lib.hid h
  have hrl := h.lt
  obtain ⟨⟨u, hu, y0⟩, z0⟩ := h.at_ 0 (by omega)
  obtain rfl : u = .int .i64 5 := by rw [h0] at hu; cases hu; rfl
  have kd : decide ((5 : Int) < 10) = true := rfl
  have ix := idx_5
  clear h h0 hu
  go_enter Tryd.func65, Tryd.ntmps65
  go_wp2_with (first
    | (go_at_call 68; (with_reducible refine (known_any 5 _ true kd).mono ?_); rintro e w1 ⟨rfl, rfl⟩))
  have HD : Hid (RG w.drew r cs xs) := H.out.below (below_drewN (Below.refl _ _) 1)
  have y0' : w.drew.cell? ⟨r, 0, none⟩ = some (.int .i64 5) := y0
  go_region_with (first
    | (go_at_call 74; (with_reducible refine (readers_c _).mono ?_); rintro e w2 ⟨rfl, hb⟩
       have y2 : w2.cell? ⟨r, 0, none⟩ = some (.int .i64 5) := (hb.cell (p := ⟨r, 0, none⟩) hrl).trans y0
       have H2 := Lib.hid (HD.out.below hb)
       have B2 : Hid (Below w.heap.size w w2) := (below_drewN (Below.refl _ _) 1).trans hb
       clear hb)
    | (go_at_call 80; (with_reducible refine (promise_c H2.out hk hx).mono ?_); rintro e w3 ⟨A2, c2, rfl, h2, f2, o2⟩
       have R2 := Lib.hid (RGR.before B2.out ⟨A2, c2, rfl, h2, f2, o2⟩)
       clear h2 f2 o2))
  all_goals
    go_wp2
    go_end0
    exact R2.out
set_option maxHeartbeats 1000000 in
theorem payload_6 (h : RG w r cs xs) (h0 : cs[0]? = some (.int .i64 6)) (hx : xs.length ≤ 16777215) : Calls Tryd.prog 65 #[.pointer (some ⟨r, 0, none⟩)] w (RGR w r cs xs) := by
  have H := Lib.hid h
  have hrl := h.lt
  obtain ⟨⟨u, hu, y0⟩, z0⟩ := h.at_ 0 (by omega)
  obtain rfl : u = .int .i64 6 := by rw [h0] at hu; cases hu; rfl
  have kd : decide ((6 : Int) < 10) = true := rfl
  have ix := idx_6
  clear h h0 hu
  go_enter Tryd.func65, Tryd.ntmps65
  go_wp2_with (first
    | (go_at_call 68; (with_reducible refine (known_any 6 _ true kd).mono ?_); rintro e w1 ⟨rfl, rfl⟩))
  have HD : Hid (RG w.drew r cs xs) := H.out.below (below_drewN (Below.refl _ _) 1)
  have y0' : w.drew.cell? ⟨r, 0, none⟩ = some (.int .i64 6) := y0
  go_region_with (first
    | (go_at_call 74; (with_reducible refine (readers_c _).mono ?_); rintro e w2 ⟨rfl, hb⟩
       have y2 : w2.cell? ⟨r, 0, none⟩ = some (.int .i64 6) := (hb.cell (p := ⟨r, 0, none⟩) hrl).trans y0
       have H2 := Lib.hid (HD.out.below hb)
       have B2 : Hid (Below w.heap.size w w2) := (below_drewN (Below.refl _ _) 1).trans hb
       clear hb)
    | (go_at_call 75; (with_reducible refine (rest_r H2.out hx).mono ?_); rintro e w3 ⟨A2, c2, rfl, h2, f2, o2⟩
       have R2 := Lib.hid (RGR.before B2.out ⟨A2, c2, rfl, h2, f2, o2⟩)
       clear h2 f2 o2))
  all_goals
    go_wp2
    go_end0
    exact R2.out
set_option maxHeartbeats 1000000 in
theorem payload_7 (h : RG w r cs xs) (h0 : cs[0]? = some (.int .i64 7)) (hk : 8 ≤ xs.length) (hx : xs.length ≤ 16777215) : Calls Tryd.prog 65 #[.pointer (some ⟨r, 0, none⟩)] w (RGR w r ((cs.set 14 (.int .i64 ((low (num (xs.take 4)) : Nat) : Int))).set 12 (.int .u32 ((num ((xs.drop 4).take 4) : Nat) : Int))) (xs.drop 8)) := by
  have H := Lib.hid h
  have hrl := h.lt
  obtain ⟨⟨u, hu, y0⟩, z0⟩ := h.at_ 0 (by omega)
  obtain rfl : u = .int .i64 7 := by rw [h0] at hu; cases hu; rfl
  have kd : decide ((7 : Int) < 10) = true := rfl
  have ix := idx_7
  clear h h0 hu
  go_enter Tryd.func65, Tryd.ntmps65
  go_wp2_with (first
    | (go_at_call 68; (with_reducible refine (known_any 7 _ true kd).mono ?_); rintro e w1 ⟨rfl, rfl⟩))
  have HD : Hid (RG w.drew r cs xs) := H.out.below (below_drewN (Below.refl _ _) 1)
  have y0' : w.drew.cell? ⟨r, 0, none⟩ = some (.int .i64 7) := y0
  go_region_with (first
    | (go_at_call 74; (with_reducible refine (readers_c _).mono ?_); rintro e w2 ⟨rfl, hb⟩
       have y2 : w2.cell? ⟨r, 0, none⟩ = some (.int .i64 7) := (hb.cell (p := ⟨r, 0, none⟩) hrl).trans y0
       have H2 := Lib.hid (HD.out.below hb)
       have B2 : Hid (Below w.heap.size w w2) := (below_drewN (Below.refl _ _) 1).trans hb
       clear hb)
    | (go_at_call 81; (with_reducible refine (goaway_c H2.out hk hx).mono ?_); rintro e w3 ⟨A2, c2, rfl, h2, f2, o2⟩
       have R2 := Lib.hid (RGR.before B2.out ⟨A2, c2, rfl, h2, f2, o2⟩)
       clear h2 f2 o2))
  all_goals
    go_wp2
    go_end0
    exact R2.out
set_option maxHeartbeats 1000000 in
theorem payload_8 (h : RG w r cs xs) (h0 : cs[0]? = some (.int .i64 8)) (hk : 4 ≤ xs.length) : Calls Tryd.prog 65 #[.pointer (some ⟨r, 0, none⟩)] w (RGN w r (cs.set 15 (.int .i64 ((low (num (xs.take 4)) : Nat) : Int))) (xs.drop 4)) := by
  have H := Lib.hid h
  have hrl := h.lt
  obtain ⟨⟨u, hu, y0⟩, z0⟩ := h.at_ 0 (by omega)
  obtain rfl : u = .int .i64 8 := by rw [h0] at hu; cases hu; rfl
  have kd : decide ((8 : Int) < 10) = true := rfl
  have ix := idx_8
  clear h h0 hu
  go_enter Tryd.func65, Tryd.ntmps65
  go_wp2_with (first
    | (go_at_call 68; (with_reducible refine (known_any 8 _ true kd).mono ?_); rintro e w1 ⟨rfl, rfl⟩))
  have HD : Hid (RG w.drew r cs xs) := H.out.below (below_drewN (Below.refl _ _) 1)
  have y0' : w.drew.cell? ⟨r, 0, none⟩ = some (.int .i64 8) := y0
  go_region_with (first
    | (go_at_call 74; (with_reducible refine (readers_c _).mono ?_); rintro e w2 ⟨rfl, hb⟩
       have y2 : w2.cell? ⟨r, 0, none⟩ = some (.int .i64 8) := (hb.cell (p := ⟨r, 0, none⟩) hrl).trans y0
       have H2 := Lib.hid (HD.out.below hb)
       have B2 : Hid (Below w.heap.size w w2) := (below_drewN (Below.refl _ _) 1).trans hb
       clear hb)
    | (go_at_call 82; (with_reducible refine (inc_c H2.out hk).mono ?_); rintro e w3 ⟨rfl, h2, f2⟩
       have R2 := Lib.hid (RGN.before B2.out ⟨rfl, h2, f2⟩)
       clear h2 f2))
  all_goals
    go_wp2
    go_end0
    exact R2.out
set_option maxHeartbeats 1000000 in
theorem payload_9 (h : RG w r cs xs) (h0 : cs[0]? = some (.int .i64 9)) (hx : xs.length ≤ 16777215) : Calls Tryd.prog 65 #[.pointer (some ⟨r, 0, none⟩)] w (RGR w r cs xs) := by
  have H := Lib.hid h
  have hrl := h.lt
  obtain ⟨⟨u, hu, y0⟩, z0⟩ := h.at_ 0 (by omega)
  obtain rfl : u = .int .i64 9 := by rw [h0] at hu; cases hu; rfl
  have kd : decide ((9 : Int) < 10) = true := rfl
  have ix := idx_9
  clear h h0 hu
  go_enter Tryd.func65, Tryd.ntmps65
  go_wp2_with (first
    | (go_at_call 68; (with_reducible refine (known_any 9 _ true kd).mono ?_); rintro e w1 ⟨rfl, rfl⟩))
  have HD : Hid (RG w.drew r cs xs) := H.out.below (below_drewN (Below.refl _ _) 1)
  have y0' : w.drew.cell? ⟨r, 0, none⟩ = some (.int .i64 9) := y0
  go_region_with (first
    | (go_at_call 74; (with_reducible refine (readers_c _).mono ?_); rintro e w2 ⟨rfl, hb⟩
       have y2 : w2.cell? ⟨r, 0, none⟩ = some (.int .i64 9) := (hb.cell (p := ⟨r, 0, none⟩) hrl).trans y0
       have H2 := Lib.hid (HD.out.below hb)
       have B2 : Hid (Below w.heap.size w w2) := (below_drewN (Below.refl _ _) 1).trans hb
       clear hb)
    | (go_at_call 75; (with_reducible refine (rest_r H2.out hx).mono ?_); rintro e w3 ⟨A2, c2, rfl, h2, f2, o2⟩
       have R2 := Lib.hid (RGR.before B2.out ⟨A2, c2, rfl, h2, f2, o2⟩)
       clear h2 f2 o2))
  all_goals
    go_wp2
    go_end0
    exact R2.out
theorem payload_hi (h : RG w r cs xs) (k : Nat) (hk : 10 ≤ k) (h0 : cs[0]? = some (.int .i64 (k : Int))) (hx : xs.length ≤ 16777215) : Calls Tryd.prog 65 #[.pointer (some ⟨r, 0, none⟩)] w (RGR w r cs xs) := by
  have H := Lib.hid h
  have hrl := h.lt
  obtain ⟨⟨u, hu, y0⟩, z0⟩ := h.at_ 0 (by omega)
  obtain rfl : u = .int .i64 (k : Int) := by rw [h0] at hu; cases hu; rfl
  have kd : decide ((k : Int) < 10) = false := by simp; omega
  clear h h0 hu
  go_enter Tryd.func65, Tryd.ntmps65
  go_wp2_with (first
    | (go_at_call 68; (with_reducible refine (known_any k _ false kd).mono ?_); rintro e w1 ⟨rfl, rfl⟩)
    | (go_at_call 75; (with_reducible refine (rest_r H.out hx).mono ?_); rintro e w2 ⟨A2, c2, rfl, h2, f2, o2⟩
       have R2 := Lib.hid (show RGR w r cs xs _ _ from ⟨A2, c2, rfl, h2, f2, o2⟩)
       clear h2 f2 o2))
  go_end0
  exact R2.out
end
end Go.Proofs.YtokbdkbljgdcpaaDoor
