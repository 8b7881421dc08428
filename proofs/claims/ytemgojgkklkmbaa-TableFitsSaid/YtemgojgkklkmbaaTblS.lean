/- The static table: its rows; the document's Statics. -/
import Derived.Test.YtemgojgkklkmbaaTblA
namespace Go.Proofs.Ytemgojgkklkmbaa
open Go.RowKit Go.Own Go.Tbl
set_option linter.unusedVariables false

/-- the fields of the static table, by their octets -/
def statL : List Fld := [
  ⟨⟨#[58, 97, 117, 116, 104, 111, 114, 105, 116, 121]⟩, ⟨#[]⟩, false⟩,
  ⟨⟨#[58, 109, 101, 116, 104, 111, 100]⟩, ⟨#[71, 69, 84]⟩, false⟩,
  ⟨⟨#[58, 109, 101, 116, 104, 111, 100]⟩, ⟨#[80, 79, 83, 84]⟩, false⟩,
  ⟨⟨#[58, 112, 97, 116, 104]⟩, ⟨#[47]⟩, false⟩,
  ⟨⟨#[58, 112, 97, 116, 104]⟩, ⟨#[47, 105, 110, 100, 101, 120, 46, 104, 116, 109, 108]⟩, false⟩,
  ⟨⟨#[58, 115, 99, 104, 101, 109, 101]⟩, ⟨#[104, 116, 116, 112]⟩, false⟩,
  ⟨⟨#[58, 115, 99, 104, 101, 109, 101]⟩, ⟨#[104, 116, 116, 112, 115]⟩, false⟩,
  ⟨⟨#[58, 115, 116, 97, 116, 117, 115]⟩, ⟨#[50, 48, 48]⟩, false⟩,
  ⟨⟨#[58, 115, 116, 97, 116, 117, 115]⟩, ⟨#[50, 48, 52]⟩, false⟩,
  ⟨⟨#[58, 115, 116, 97, 116, 117, 115]⟩, ⟨#[50, 48, 54]⟩, false⟩,
  ⟨⟨#[58, 115, 116, 97, 116, 117, 115]⟩, ⟨#[51, 48, 52]⟩, false⟩,
  ⟨⟨#[58, 115, 116, 97, 116, 117, 115]⟩, ⟨#[52, 48, 48]⟩, false⟩,
  ⟨⟨#[58, 115, 116, 97, 116, 117, 115]⟩, ⟨#[52, 48, 52]⟩, false⟩,
  ⟨⟨#[58, 115, 116, 97, 116, 117, 115]⟩, ⟨#[53, 48, 48]⟩, false⟩,
  ⟨⟨#[97, 99, 99, 101, 112, 116, 45, 99, 104, 97, 114, 115, 101, 116]⟩, ⟨#[]⟩, false⟩,
  ⟨⟨#[97, 99, 99, 101, 112, 116, 45, 101, 110, 99, 111, 100, 105, 110, 103]⟩, ⟨#[103, 122, 105, 112, 44, 32, 100, 101, 102, 108, 97, 116, 101]⟩, false⟩,
  ⟨⟨#[97, 99, 99, 101, 112, 116, 45, 108, 97, 110, 103, 117, 97, 103, 101]⟩, ⟨#[]⟩, false⟩,
  ⟨⟨#[97, 99, 99, 101, 112, 116, 45, 114, 97, 110, 103, 101, 115]⟩, ⟨#[]⟩, false⟩,
  ⟨⟨#[97, 99, 99, 101, 112, 116]⟩, ⟨#[]⟩, false⟩,
  ⟨⟨#[97, 99, 99, 101, 115, 115, 45, 99, 111, 110, 116, 114, 111, 108, 45, 97, 108, 108, 111, 119, 45, 111, 114, 105, 103, 105, 110]⟩, ⟨#[]⟩, false⟩,
  ⟨⟨#[97, 103, 101]⟩, ⟨#[]⟩, false⟩,
  ⟨⟨#[97, 108, 108, 111, 119]⟩, ⟨#[]⟩, false⟩,
  ⟨⟨#[97, 117, 116, 104, 111, 114, 105, 122, 97, 116, 105, 111, 110]⟩, ⟨#[]⟩, false⟩,
  ⟨⟨#[99, 97, 99, 104, 101, 45, 99, 111, 110, 116, 114, 111, 108]⟩, ⟨#[]⟩, false⟩,
  ⟨⟨#[99, 111, 110, 116, 101, 110, 116, 45, 100, 105, 115, 112, 111, 115, 105, 116, 105, 111, 110]⟩, ⟨#[]⟩, false⟩,
  ⟨⟨#[99, 111, 110, 116, 101, 110, 116, 45, 101, 110, 99, 111, 100, 105, 110, 103]⟩, ⟨#[]⟩, false⟩,
  ⟨⟨#[99, 111, 110, 116, 101, 110, 116, 45, 108, 97, 110, 103, 117, 97, 103, 101]⟩, ⟨#[]⟩, false⟩,
  ⟨⟨#[99, 111, 110, 116, 101, 110, 116, 45, 108, 101, 110, 103, 116, 104]⟩, ⟨#[]⟩, false⟩,
  ⟨⟨#[99, 111, 110, 116, 101, 110, 116, 45, 108, 111, 99, 97, 116, 105, 111, 110]⟩, ⟨#[]⟩, false⟩,
  ⟨⟨#[99, 111, 110, 116, 101, 110, 116, 45, 114, 97, 110, 103, 101]⟩, ⟨#[]⟩, false⟩,
  ⟨⟨#[99, 111, 110, 116, 101, 110, 116, 45, 116, 121, 112, 101]⟩, ⟨#[]⟩, false⟩,
  ⟨⟨#[99, 111, 111, 107, 105, 101]⟩, ⟨#[]⟩, false⟩,
  ⟨⟨#[100, 97, 116, 101]⟩, ⟨#[]⟩, false⟩,
  ⟨⟨#[101, 116, 97, 103]⟩, ⟨#[]⟩, false⟩,
  ⟨⟨#[101, 120, 112, 101, 99, 116]⟩, ⟨#[]⟩, false⟩,
  ⟨⟨#[101, 120, 112, 105, 114, 101, 115]⟩, ⟨#[]⟩, false⟩,
  ⟨⟨#[102, 114, 111, 109]⟩, ⟨#[]⟩, false⟩,
  ⟨⟨#[104, 111, 115, 116]⟩, ⟨#[]⟩, false⟩,
  ⟨⟨#[105, 102, 45, 109, 97, 116, 99, 104]⟩, ⟨#[]⟩, false⟩,
  ⟨⟨#[105, 102, 45, 109, 111, 100, 105, 102, 105, 101, 100, 45, 115, 105, 110, 99, 101]⟩, ⟨#[]⟩, false⟩,
  ⟨⟨#[105, 102, 45, 110, 111, 110, 101, 45, 109, 97, 116, 99, 104]⟩, ⟨#[]⟩, false⟩,
  ⟨⟨#[105, 102, 45, 114, 97, 110, 103, 101]⟩, ⟨#[]⟩, false⟩,
  ⟨⟨#[105, 102, 45, 117, 110, 109, 111, 100, 105, 102, 105, 101, 100, 45, 115, 105, 110, 99, 101]⟩, ⟨#[]⟩, false⟩,
  ⟨⟨#[108, 97, 115, 116, 45, 109, 111, 100, 105, 102, 105, 101, 100]⟩, ⟨#[]⟩, false⟩,
  ⟨⟨#[108, 105, 110, 107]⟩, ⟨#[]⟩, false⟩,
  ⟨⟨#[108, 111, 99, 97, 116, 105, 111, 110]⟩, ⟨#[]⟩, false⟩,
  ⟨⟨#[109, 97, 120, 45, 102, 111, 114, 119, 97, 114, 100, 115]⟩, ⟨#[]⟩, false⟩,
  ⟨⟨#[112, 114, 111, 120, 121, 45, 97, 117, 116, 104, 101, 110, 116, 105, 99, 97, 116, 101]⟩, ⟨#[]⟩, false⟩,
  ⟨⟨#[112, 114, 111, 120, 121, 45, 97, 117, 116, 104, 111, 114, 105, 122, 97, 116, 105, 111, 110]⟩, ⟨#[]⟩, false⟩,
  ⟨⟨#[114, 97, 110, 103, 101]⟩, ⟨#[]⟩, false⟩,
  ⟨⟨#[114, 101, 102, 101, 114, 101, 114]⟩, ⟨#[]⟩, false⟩,
  ⟨⟨#[114, 101, 102, 114, 101, 115, 104]⟩, ⟨#[]⟩, false⟩,
  ⟨⟨#[114, 101, 116, 114, 121, 45, 97, 102, 116, 101, 114]⟩, ⟨#[]⟩, false⟩,
  ⟨⟨#[115, 101, 114, 118, 101, 114]⟩, ⟨#[]⟩, false⟩,
  ⟨⟨#[115, 101, 116, 45, 99, 111, 111, 107, 105, 101]⟩, ⟨#[]⟩, false⟩,
  ⟨⟨#[115, 116, 114, 105, 99, 116, 45, 116, 114, 97, 110, 115, 112, 111, 114, 116, 45, 115, 101, 99, 117, 114, 105, 116, 121]⟩, ⟨#[]⟩, false⟩,
  ⟨⟨#[116, 114, 97, 110, 115, 102, 101, 114, 45, 101, 110, 99, 111, 100, 105, 110, 103]⟩, ⟨#[]⟩, false⟩,
  ⟨⟨#[117, 115, 101, 114, 45, 97, 103, 101, 110, 116]⟩, ⟨#[]⟩, false⟩,
  ⟨⟨#[118, 97, 114, 121]⟩, ⟨#[]⟩, false⟩,
  ⟨⟨#[118, 105, 97]⟩, ⟨#[]⟩, false⟩,
  ⟨⟨#[119, 119, 119, 45, 97, 117, 116, 104, 101, 110, 116, 105, 99, 97, 116, 101]⟩, ⟨#[]⟩, false⟩]
theorem statL_length : statL.length = 61 := rfl
theorem run_build1 (a : ByteArray) (w : World) : (Instr.build 23 #[(0, .string a)]).run Try.prog w = .ok (.agg #[.string a, .string ⟨#[]⟩, .bool false]) w := by kernel_rfl
theorem run_build2 (a b : ByteArray) (w : World) : (Instr.build 23 #[(0, .string a), (1, .string b)]).run Try.prog w = .ok (.agg #[.string a, .string b, .bool false]) w := by kernel_rfl
theorem wpList_build1 {ops : Array Oper} {rest : List Oper} {o : Oper} {a : Act} {w : World} {Q : Exit → Act → World → Prop} (hg : o.guard = none) (x : ByteArray) (ho : o.op = .build 23 #[(0, .const (.string x))])
    (h : wpList Try.prog ops Q rest (a.put o.dst (.agg #[.string x, .string ⟨#[]⟩, .bool false])) w) : wpList Try.prog ops Q (o :: rest) a w := by
  refine wpList_plain hg fun _ hK => ?_
  unfold Oper.wp execOp
  simp only [ho, Sem.run_bind, List.map_toArray, List.map_cons, List.map_nil, Act.eval, run_build1, Result.andThen_ok]
  exact hK _ _ h
theorem wpList_build2 {ops : Array Oper} {rest : List Oper} {o : Oper} {a : Act} {w : World} {Q : Exit → Act → World → Prop} (hg : o.guard = none) (x y : ByteArray) (ho : o.op = .build 23 #[(0, .const (.string x)), (1, .const (.string y))])
    (h : wpList Try.prog ops Q rest (a.put o.dst (.agg #[.string x, .string y, .bool false])) w) : wpList Try.prog ops Q (o :: rest) a w := by
  refine wpList_plain hg fun _ hK => ?_
  unfold Oper.wp execOp
  simp only [ho, Sem.run_bind, List.map_toArray, List.map_cons, List.map_nil, Act.eval, run_build2, Result.andThen_ok]
  exact hK _ _ h
theorem wpList_statics {ops : Array Oper} {rest : List Oper} {o : Oper} {a : Act} {w : World} {Q : Exit → Act → World → Prop} (hg : o.guard = none) (parts : Array (Nat × Operand)) (ho : o.op = .buildSlice 25 61 parts)
    (hf : Instr.fill (fun i => some (i * 3, 3)) ((Array.range (61 * 3)).map (#[Value.string ⟨#[]⟩, .string ⟨#[]⟩, .bool false][· % 3]!)) (parts.map fun (i, x) => (i, a.eval x)).toList = some (fcellsL statL).toArray)
    (h : wpList Try.prog ops Q rest (a.put o.dst (.slice (some ⟨w.heap.size, 0, none⟩) 61 61)) (w.alloc (.cells (fcellsL statL).toArray 23))) : wpList Try.prog ops Q (o :: rest) a w := by
  obtain ⟨_, ⟨ie, h1, h2, h3, _⟩, _⟩ := EF
  exact wpList_buildSlice hg 25 23 61 parts ho _ ie _ Try.underlying25 h1 h2 (by rw [h3]; decide) (by rw [h3]; decide) (by rw [h3]; exact hf) h
set_option maxRecDepth 100000 in
set_option maxHeartbeats 4000000 in
theorem rStatics_any (w : World) : Calls Try.prog 10 #[] w fun e w' => e = .returned (.slice (some ⟨w.heap.size, 0, none⟩) 61 61) ∧ w' = w.alloc (.cells (fcellsL statL).toArray 23) := by
  go_enter Try.func10, Try.ntmps10
  go_wp2_with (first
    | (refine wpList_build2 rfl _ _ rfl ?_)
    | (refine wpList_build1 rfl _ rfl ?_)
    | (refine wpList_statics rfl _ rfl (by kernel_rfl) ?_))
  go_ret
  exact ⟨rfl, rfl⟩
end Go.Proofs.Ytemgojgkklkmbaa
