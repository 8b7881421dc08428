/- Stage 8: what each law looks at first. -/
import Derived.Test.YthdikinpociiaaaSeH
namespace Go.Proofs.Ythdikinpociiaaa
open Go.RowKit Go.Own Go.Set8
set_option linter.unusedVariables false
set_option maxRecDepth 100000
section
variable {w : World}
theorem apply_l : Calls Try.prog 13 #[.agg #[.int .i64 4096, .bool true, .int .i64 (-1), .int .i64 65535, .int .i64 16384, .int .i64 (-1)], .agg #[.int .i64 5, .int .u32 16383], .bool false] w fun e w' => e = .returned (.tuple #[.agg #[.int .i64 4096, .bool true, .int .i64 (-1), .int .i64 65535, .int .i64 16384, .int .i64 (-1)], .agg #[.bool true, .int .u32 1, .int .i64 0]]) ∧ Below w.heap.size w w' :=
  apply_c ⟨4096, true, -1, 65535, 16384, -1⟩ 5 16383 (by omega) false ⟨4096, true, -1, 65535, 16384, -1⟩ ⟨true, 1⟩ (by decide)
theorem tell_l : Calls Try.prog 15 #[.agg #[.int .i64 4096, .bool true, .int .i64 (-1), .int .i64 65535, .int .i64 16384, .int .i64 (-1)], .agg #[.int .i64 4096, .bool true, .int .i64 (-1), .int .i64 10, .int .i64 16384, .int .i64 (-1)]] w fun e w' => ∃ A c, e = .returned (.slice A 1 c) ∧ St (fun _ => False) w w' [SLo w.heap.size 35 2 (.slice A 1 c) 1 [.int .i64 4, .int .u32 10]] :=
  tell_c ⟨4096, true, -1, 65535, 16384, -1⟩ ⟨4096, true, -1, 10, 16384, -1⟩ [(4, 10)] (by decide)
set_option maxHeartbeats 4000000 in
theorem shown8_c : Calls Try.prog 9 #[] w fun e w' => e = .returned (.bool true) ∧ Below w.heap.size w w' := by
  go_enter Try.func9, Try.ntmps9
  go_wp2_with (first
    | (go_at_call 18; (with_reducible refine default_c.mono ?_); rintro e w1 ⟨rfl, hb⟩
       have S1 := Lib.hid (St.next (St.nil (fun _ => False) w) hb)
       have S2 := Lib.hid (St.block S1.out 23 [.int .i64 4096, .bool true, .int .i64 (-1), .int .i64 65535, .int .i64 16384, .int .i64 (-1)])
       clear hb)
    | (go_at_call 13; (with_reducible refine apply_l.mono ?_); rintro e w2 ⟨rfl, hb⟩
       have S3 := Lib.hid (St.next S2.out hb)
       obtain ⟨z0, z1, z2, z3, z4, z5⟩ := cells6 (St.blk0 S3.out)
       have hl := (St.blk0 S3.out).lt
       have hl1 := Nat.lt_succ_of_lt hl
       have hl2 := Nat.lt_succ_of_lt hl1
       have S4 := Lib.hid (st3 w2 23 29 23 [.int .i64 4096, .bool true, .int .i64 (-1), .int .i64 65535, .int .i64 16384, .int .i64 (-1)] [.bool true, .int .u32 1, .int .i64 0] [.int .i64 4096, .bool true, .int .i64 (-1), .int .i64 10, .int .i64 16384, .int .i64 (-1)])
       have S5 := Lib.hid (St.add S3.out S4.out)
       clear hb)
    | (go_at_call 15; (with_reducible refine tell_l.mono ?_); rintro e w3 ⟨A, c, rfl, hs⟩
       have S6 := Lib.hid (St.add S5.out hs)
       obtain ⟨b, o, rfl, hc⟩ := (Rd.of_own (St.own4 S6.out)).2 (by omega)
       have q0 : w3.cell? ⟨b, o, none⟩ = some (.int .i64 4) := hc 0 _ rfl
       have q1 : w3.cell? ⟨b, o + 1, none⟩ = some (.int .u32 10) := hc 1 _ rfl
       clear z0 z1 z2 z3 z4 z5
       obtain ⟨z0, z1, z2, z3, z4, z5⟩ := cells6 (St.blk0 S6.out)
       obtain ⟨u0, u1, u2⟩ := cells3 (St.blk2 S6.out)
       clear hs hc))
  go_ret
  exact ⟨rfl, St.below S6.out⟩
end
end Go.Proofs.Ythdikinpociiaaa
