/-
  NARROWER THAN 'FOR EVERY INPUT', by the rows' own cells (each row's printed sentence says how): HpackEncodes: laid · HpackDecodes: laid · HpackBack: laid · HpackJoins: laid · HpackNever: laid · HpackLong: laid · HpackBroken: laid · HpackLimits: laid · HpackShort: laid.
  DERIVED. THE GIVEN ROWS OF THIS SEAT. 9 by the template 'for every input the law returns true; each argument reads behind the call as it read before'; 0 by the template 'total and deterministic' (their statements: YtinieljgcenemaaDoorTotals.lean).
  GIVEN WITH THE SEED: the statements are not yours to turn. If you find one false, say at which input.
  Laid BY PROGRAM, IN A SANDBOX (cutbox-rows.mjs): the forced cells as the released guide's own fill.sh prints them over the translation 453713cc506b925a… (all of the seat's roots in one cut). By AI agents, Wed Nov 11 2026. No macro, syntax, notation, axiom, sorry.
-/
import Derived.Test.YtinieljgcenemaaDoorChecked
import GoSem.Claim
import GoSem.ClaimJoined
import GoSem.ClaimMapViews
import Derived.JoinedTies
import Derived.KernelRfl
namespace Go.Proofs.YtinieljgcenemaaDoor
/- THE CELL 'sum', in the pinned program and in every row, IS THE sha256 OF THE DUMP (.gsa) THAT YtinieljgcenemaaDoorProg.lean LOADS. Nothing in Lean hashes anything: it is a label: what it is worth is what the hold of that sum in a sandbox is worth. -/
noncomputable def Tryd.pinned : Pinned := { name := "ytinieljgcenemaadoor", sum := "453713cc506b925afdee176e58a1f12b0b8d7c8e59a332cc16ead5834e0d7f6e", checked := Tryd.checked }
namespace Rows
def none {H : Type} : Left H := { results := [], args := [] }

/- WHAT THE LISTED PACKAGE-LEVEL VARIABLES READ AS WHEN THE CALL BEGINS. Each datum BY PROGRAM (the guide's laid-datum.mjs) off the statement by which the dump's own 'gosem.cut.vars' lays the variable. In a bare row this is a premise. The card (YtinieljgcenemaaDoorCards.lean) ties it to the program's text. -/
def laid_flume_huffman_counts {H : Type} : DataW H := .agg [.lit (.int .u32 0), .lit (.int .u32 0), .lit (.int .u32 0), .lit (.int .u32 0), .lit (.int .u32 0), .lit (.int .u32 10), .lit (.int .u32 26), .lit (.int .u32 32), .lit (.int .u32 6), .lit (.int .u32 0), .lit (.int .u32 5), .lit (.int .u32 3), .lit (.int .u32 2), .lit (.int .u32 6), .lit (.int .u32 2), .lit (.int .u32 3), .lit (.int .u32 0), .lit (.int .u32 0), .lit (.int .u32 0), .lit (.int .u32 3), .lit (.int .u32 8), .lit (.int .u32 13), .lit (.int .u32 26), .lit (.int .u32 29), .lit (.int .u32 12), .lit (.int .u32 4), .lit (.int .u32 15), .lit (.int .u32 19), .lit (.int .u32 29), .lit (.int .u32 0), .lit (.int .u32 4)]

/-- 'flumelaw05.HpackEncodes': WHATEVER THE INPUT: true; the input reads as it did. -/
def hpackEncodesSpec : ChangeSpec := { name := "hpackEncodes", fn := fun _ => fun
  | [d1, d2] => { results := [.lit (.bool true)], args := [d1, d2] }
  | _ => none }
def hpackEncodesRow : OpenClaim := { program := "ytinieljgcenemaadoor", sum := "453713cc506b925afdee176e58a1f12b0b8d7c8e59a332cc16ead5834e0d7f6e", func := "flume/flumelaw05.HpackEncodes", spec := "hpackEncodes", inPlace := ["slices.overlaps[flume/api.Field]"], unfollowed := true, recurses := true, named := ["flume/huffman.counts"], apart := false, laid := [("flume/huffman.counts", laid_flume_huffman_counts)] }
def HpackEncodesSaid : Prop := hpackEncodesRow.holds Tryd.pinned (OpenSpec.ofChange hpackEncodesSpec)

/-- ITS FALSE NEIGHBOUR: 'it returns false'. Refute it at one input. -/
def hpackEncodesWrong : ChangeSpec := { name := "hpackEncodes", fn := fun _ => fun
  | [d1, d2] => { results := [.lit (.bool false)], args := [d1, d2] }
  | _ => none }
def HpackEncodesWrongFalsely : Prop := hpackEncodesRow.holds Tryd.pinned (OpenSpec.ofChange hpackEncodesWrong)

/-- 'flumelaw05.HpackDecodes': WHATEVER THE INPUT: true; the input reads as it did. -/
def hpackDecodesSpec : ChangeSpec := { name := "hpackDecodes", fn := fun _ => fun
  | [d1, d2, d3] => { results := [.lit (.bool true)], args := [d1, d2, d3] }
  | _ => none }
def hpackDecodesRow : OpenClaim := { program := "ytinieljgcenemaadoor", sum := "453713cc506b925afdee176e58a1f12b0b8d7c8e59a332cc16ead5834e0d7f6e", func := "flume/flumelaw05.HpackDecodes", spec := "hpackDecodes", inPlace := ["slices.overlaps[flume/api.Field]"], unfollowed := true, recurses := true, named := ["flume/huffman.counts"], apart := false, laid := [("flume/huffman.counts", laid_flume_huffman_counts)] }
def HpackDecodesSaid : Prop := hpackDecodesRow.holds Tryd.pinned (OpenSpec.ofChange hpackDecodesSpec)

/-- ITS FALSE NEIGHBOUR: 'it returns false'. Refute it at one input. -/
def hpackDecodesWrong : ChangeSpec := { name := "hpackDecodes", fn := fun _ => fun
  | [d1, d2, d3] => { results := [.lit (.bool false)], args := [d1, d2, d3] }
  | _ => none }
def HpackDecodesWrongFalsely : Prop := hpackDecodesRow.holds Tryd.pinned (OpenSpec.ofChange hpackDecodesWrong)

/-- 'flumelaw05.HpackBack': WHATEVER THE INPUT: true; the input reads as it did. -/
def hpackBackSpec : ChangeSpec := { name := "hpackBack", fn := fun _ => fun
  | [d1, d2] => { results := [.lit (.bool true)], args := [d1, d2] }
  | _ => none }
def hpackBackRow : OpenClaim := { program := "ytinieljgcenemaadoor", sum := "453713cc506b925afdee176e58a1f12b0b8d7c8e59a332cc16ead5834e0d7f6e", func := "flume/flumelaw05.HpackBack", spec := "hpackBack", inPlace := ["slices.overlaps[flume/api.Field]"], unfollowed := true, recurses := true, named := ["flume/huffman.counts"], apart := false, laid := [("flume/huffman.counts", laid_flume_huffman_counts)] }
def HpackBackSaid : Prop := hpackBackRow.holds Tryd.pinned (OpenSpec.ofChange hpackBackSpec)

/-- ITS FALSE NEIGHBOUR: 'it returns false'. Refute it at one input. -/
def hpackBackWrong : ChangeSpec := { name := "hpackBack", fn := fun _ => fun
  | [d1, d2] => { results := [.lit (.bool false)], args := [d1, d2] }
  | _ => none }
def HpackBackWrongFalsely : Prop := hpackBackRow.holds Tryd.pinned (OpenSpec.ofChange hpackBackWrong)

/-- 'flumelaw05.HpackJoins': WHATEVER THE INPUT: true; the input reads as it did. -/
def hpackJoinsSpec : ChangeSpec := { name := "hpackJoins", fn := fun _ => fun
  | [d1, d2, d3] => { results := [.lit (.bool true)], args := [d1, d2, d3] }
  | _ => none }
def hpackJoinsRow : OpenClaim := { program := "ytinieljgcenemaadoor", sum := "453713cc506b925afdee176e58a1f12b0b8d7c8e59a332cc16ead5834e0d7f6e", func := "flume/flumelaw05.HpackJoins", spec := "hpackJoins", inPlace := ["slices.overlaps[flume/api.Field]"], unfollowed := true, recurses := true, named := ["flume/huffman.counts"], apart := false, laid := [("flume/huffman.counts", laid_flume_huffman_counts)] }
def HpackJoinsSaid : Prop := hpackJoinsRow.holds Tryd.pinned (OpenSpec.ofChange hpackJoinsSpec)

/-- ITS FALSE NEIGHBOUR: 'it returns false'. Refute it at one input. -/
def hpackJoinsWrong : ChangeSpec := { name := "hpackJoins", fn := fun _ => fun
  | [d1, d2, d3] => { results := [.lit (.bool false)], args := [d1, d2, d3] }
  | _ => none }
def HpackJoinsWrongFalsely : Prop := hpackJoinsRow.holds Tryd.pinned (OpenSpec.ofChange hpackJoinsWrong)

/-- 'flumelaw05.HpackNever': WHATEVER THE INPUT: true; the input reads as it did. -/
def hpackNeverSpec : ChangeSpec := { name := "hpackNever", fn := fun _ => fun
  | [d1, d2] => { results := [.lit (.bool true)], args := [d1, d2] }
  | _ => none }
def hpackNeverRow : OpenClaim := { program := "ytinieljgcenemaadoor", sum := "453713cc506b925afdee176e58a1f12b0b8d7c8e59a332cc16ead5834e0d7f6e", func := "flume/flumelaw05.HpackNever", spec := "hpackNever", inPlace := ["slices.overlaps[flume/api.Field]"], unfollowed := true, recurses := true, named := ["flume/huffman.counts"], apart := false, laid := [("flume/huffman.counts", laid_flume_huffman_counts)] }
def HpackNeverSaid : Prop := hpackNeverRow.holds Tryd.pinned (OpenSpec.ofChange hpackNeverSpec)

/-- ITS FALSE NEIGHBOUR: 'it returns false'. Refute it at one input. -/
def hpackNeverWrong : ChangeSpec := { name := "hpackNever", fn := fun _ => fun
  | [d1, d2] => { results := [.lit (.bool false)], args := [d1, d2] }
  | _ => none }
def HpackNeverWrongFalsely : Prop := hpackNeverRow.holds Tryd.pinned (OpenSpec.ofChange hpackNeverWrong)

/-- 'flumelaw05.HpackLong': WHATEVER THE INPUT: true; the input reads as it did. -/
def hpackLongSpec : ChangeSpec := { name := "hpackLong", fn := fun _ => fun
  | [d1, d2, d3] => { results := [.lit (.bool true)], args := [d1, d2, d3] }
  | _ => none }
def hpackLongRow : OpenClaim := { program := "ytinieljgcenemaadoor", sum := "453713cc506b925afdee176e58a1f12b0b8d7c8e59a332cc16ead5834e0d7f6e", func := "flume/flumelaw05.HpackLong", spec := "hpackLong", inPlace := ["slices.overlaps[flume/api.Field]"], unfollowed := true, recurses := true, named := ["flume/huffman.counts"], apart := false, laid := [("flume/huffman.counts", laid_flume_huffman_counts)] }
def HpackLongSaid : Prop := hpackLongRow.holds Tryd.pinned (OpenSpec.ofChange hpackLongSpec)

/-- ITS FALSE NEIGHBOUR: 'it returns false'. Refute it at one input. -/
def hpackLongWrong : ChangeSpec := { name := "hpackLong", fn := fun _ => fun
  | [d1, d2, d3] => { results := [.lit (.bool false)], args := [d1, d2, d3] }
  | _ => none }
def HpackLongWrongFalsely : Prop := hpackLongRow.holds Tryd.pinned (OpenSpec.ofChange hpackLongWrong)

/-- 'flumelaw05.HpackBroken': WHATEVER THE INPUT: true; the input reads as it did. -/
def hpackBrokenSpec : ChangeSpec := { name := "hpackBroken", fn := fun _ => fun
  | [d1, d2, d3] => { results := [.lit (.bool true)], args := [d1, d2, d3] }
  | _ => none }
def hpackBrokenRow : OpenClaim := { program := "ytinieljgcenemaadoor", sum := "453713cc506b925afdee176e58a1f12b0b8d7c8e59a332cc16ead5834e0d7f6e", func := "flume/flumelaw05.HpackBroken", spec := "hpackBroken", inPlace := ["slices.overlaps[flume/api.Field]"], unfollowed := true, recurses := true, named := ["flume/huffman.counts"], apart := false, laid := [("flume/huffman.counts", laid_flume_huffman_counts)] }
def HpackBrokenSaid : Prop := hpackBrokenRow.holds Tryd.pinned (OpenSpec.ofChange hpackBrokenSpec)

/-- ITS FALSE NEIGHBOUR: 'it returns false'. Refute it at one input. -/
def hpackBrokenWrong : ChangeSpec := { name := "hpackBroken", fn := fun _ => fun
  | [d1, d2, d3] => { results := [.lit (.bool false)], args := [d1, d2, d3] }
  | _ => none }
def HpackBrokenWrongFalsely : Prop := hpackBrokenRow.holds Tryd.pinned (OpenSpec.ofChange hpackBrokenWrong)

/-- 'flumelaw05.HpackLimits': WHATEVER THE INPUT: true; the input reads as it did. -/
def hpackLimitsSpec : ChangeSpec := { name := "hpackLimits", fn := fun _ => fun
  | [d1, d2, d3] => { results := [.lit (.bool true)], args := [d1, d2, d3] }
  | _ => none }
def hpackLimitsRow : OpenClaim := { program := "ytinieljgcenemaadoor", sum := "453713cc506b925afdee176e58a1f12b0b8d7c8e59a332cc16ead5834e0d7f6e", func := "flume/flumelaw05.HpackLimits", spec := "hpackLimits", inPlace := ["slices.overlaps[flume/api.Field]"], unfollowed := true, recurses := true, named := ["flume/huffman.counts"], apart := false, laid := [("flume/huffman.counts", laid_flume_huffman_counts)] }
def HpackLimitsSaid : Prop := hpackLimitsRow.holds Tryd.pinned (OpenSpec.ofChange hpackLimitsSpec)

/-- ITS FALSE NEIGHBOUR: 'it returns false'. Refute it at one input. -/
def hpackLimitsWrong : ChangeSpec := { name := "hpackLimits", fn := fun _ => fun
  | [d1, d2, d3] => { results := [.lit (.bool false)], args := [d1, d2, d3] }
  | _ => none }
def HpackLimitsWrongFalsely : Prop := hpackLimitsRow.holds Tryd.pinned (OpenSpec.ofChange hpackLimitsWrong)

/-- 'flumelaw05.HpackShort': WHATEVER THE INPUT: true; the input reads as it did. -/
def hpackShortSpec : ChangeSpec := { name := "hpackShort", fn := fun _ => fun
  | [d1, d2] => { results := [.lit (.bool true)], args := [d1, d2] }
  | _ => none }
def hpackShortRow : OpenClaim := { program := "ytinieljgcenemaadoor", sum := "453713cc506b925afdee176e58a1f12b0b8d7c8e59a332cc16ead5834e0d7f6e", func := "flume/flumelaw05.HpackShort", spec := "hpackShort", inPlace := ["slices.overlaps[flume/api.Field]"], unfollowed := true, recurses := true, named := ["flume/huffman.counts"], apart := false, laid := [("flume/huffman.counts", laid_flume_huffman_counts)] }
def HpackShortSaid : Prop := hpackShortRow.holds Tryd.pinned (OpenSpec.ofChange hpackShortSpec)

/-- ITS FALSE NEIGHBOUR: 'it returns false'. Refute it at one input. -/
def hpackShortWrong : ChangeSpec := { name := "hpackShort", fn := fun _ => fun
  | [d1, d2] => { results := [.lit (.bool false)], args := [d1, d2] }
  | _ => none }
def HpackShortWrongFalsely : Prop := hpackShortRow.holds Tryd.pinned (OpenSpec.ofChange hpackShortWrong)

/- THE SECOND FORM. 'bulk': how many values and letters a reading holds, each counted each time it is reached (what is shared counts as often as it is met; a slice's spare places count too). A statement '..UptoSaid' is the law's where the arguments, and the package variables that the reading takes, are together of bulk at most 1048576: NARROWER than '..Said'. Prove '..Said' where nothing that the law and all that it calls make is longer than what came in: it says more and counts as full. Else prove '..UptoSaid'. A law counts once. -/
mutual
def uptoBulk {H : Type} : DataW H → Nat
  | .lit (.string bytes) => bytes.length + 1
  | .lit _ => 1
  | .nil => 1
  | .ptr d => uptoBulk d + 1
  | .slice elems spare => uptoBulkAll elems + uptoBulkAll spare + 1
  | .agg parts => uptoBulkAll parts + 1
  | .iface _ d => uptoBulk d + 1
  | .map entries => uptoBulkEntries entries + 1
  | .held _ => 1
def uptoBulkAll {H : Type} : List (DataW H) → Nat
  | [] => 0
  | d :: r => uptoBulk d + uptoBulkAll r
def uptoBulkEntries {H : Type} : List (Lit × DataW H) → Nat
  | [] => 0
  | x :: r => uptoBulkEntry x + uptoBulkEntries r
def uptoBulkEntry {H : Type} : Lit × DataW H → Nat
  | (.string bytes, d) => bytes.length + uptoBulk d + 1
  | (_, d) => uptoBulk d + 1
 end
def uptoSmall : (H : Type) → List (DataW H) → Bool := fun _ ds => decide (uptoBulkAll ds ≤ 1048576)
def OpenSpec.upto (s : _root_.Go.ChangeSpec) : _root_.Go.OpenSpec := { _root_.Go.OpenSpec.ofChange s with cond := some uptoSmall }

/-- 'flumelaw05.HpackEncodes', WHERE WHAT IT READS IS OF BULK AT MOST 1048576: true; the input reads as it did. -/
def hpackEncodesUptoRow : OpenClaim := { program := "ytinieljgcenemaadoor", sum := "453713cc506b925afdee176e58a1f12b0b8d7c8e59a332cc16ead5834e0d7f6e", func := "flume/flumelaw05.HpackEncodes", spec := "hpackEncodes", inPlace := ["slices.overlaps[flume/api.Field]"], unfollowed := true, recurses := true, named := ["flume/huffman.counts"], apart := false, laid := [("flume/huffman.counts", laid_flume_huffman_counts)], narrowed := true }
def HpackEncodesUptoSaid : Prop := hpackEncodesUptoRow.holds Tryd.pinned (OpenSpec.upto hpackEncodesSpec)

/-- 'flumelaw05.HpackDecodes', WHERE WHAT IT READS IS OF BULK AT MOST 1048576: true; the input reads as it did. -/
def hpackDecodesUptoRow : OpenClaim := { program := "ytinieljgcenemaadoor", sum := "453713cc506b925afdee176e58a1f12b0b8d7c8e59a332cc16ead5834e0d7f6e", func := "flume/flumelaw05.HpackDecodes", spec := "hpackDecodes", inPlace := ["slices.overlaps[flume/api.Field]"], unfollowed := true, recurses := true, named := ["flume/huffman.counts"], apart := false, laid := [("flume/huffman.counts", laid_flume_huffman_counts)], narrowed := true }
def HpackDecodesUptoSaid : Prop := hpackDecodesUptoRow.holds Tryd.pinned (OpenSpec.upto hpackDecodesSpec)

/-- 'flumelaw05.HpackBack', WHERE WHAT IT READS IS OF BULK AT MOST 1048576: true; the input reads as it did. -/
def hpackBackUptoRow : OpenClaim := { program := "ytinieljgcenemaadoor", sum := "453713cc506b925afdee176e58a1f12b0b8d7c8e59a332cc16ead5834e0d7f6e", func := "flume/flumelaw05.HpackBack", spec := "hpackBack", inPlace := ["slices.overlaps[flume/api.Field]"], unfollowed := true, recurses := true, named := ["flume/huffman.counts"], apart := false, laid := [("flume/huffman.counts", laid_flume_huffman_counts)], narrowed := true }
def HpackBackUptoSaid : Prop := hpackBackUptoRow.holds Tryd.pinned (OpenSpec.upto hpackBackSpec)

/-- 'flumelaw05.HpackJoins', WHERE WHAT IT READS IS OF BULK AT MOST 1048576: true; the input reads as it did. -/
def hpackJoinsUptoRow : OpenClaim := { program := "ytinieljgcenemaadoor", sum := "453713cc506b925afdee176e58a1f12b0b8d7c8e59a332cc16ead5834e0d7f6e", func := "flume/flumelaw05.HpackJoins", spec := "hpackJoins", inPlace := ["slices.overlaps[flume/api.Field]"], unfollowed := true, recurses := true, named := ["flume/huffman.counts"], apart := false, laid := [("flume/huffman.counts", laid_flume_huffman_counts)], narrowed := true }
def HpackJoinsUptoSaid : Prop := hpackJoinsUptoRow.holds Tryd.pinned (OpenSpec.upto hpackJoinsSpec)

/-- 'flumelaw05.HpackNever', WHERE WHAT IT READS IS OF BULK AT MOST 1048576: true; the input reads as it did. -/
def hpackNeverUptoRow : OpenClaim := { program := "ytinieljgcenemaadoor", sum := "453713cc506b925afdee176e58a1f12b0b8d7c8e59a332cc16ead5834e0d7f6e", func := "flume/flumelaw05.HpackNever", spec := "hpackNever", inPlace := ["slices.overlaps[flume/api.Field]"], unfollowed := true, recurses := true, named := ["flume/huffman.counts"], apart := false, laid := [("flume/huffman.counts", laid_flume_huffman_counts)], narrowed := true }
def HpackNeverUptoSaid : Prop := hpackNeverUptoRow.holds Tryd.pinned (OpenSpec.upto hpackNeverSpec)

/-- 'flumelaw05.HpackLong', WHERE WHAT IT READS IS OF BULK AT MOST 1048576: true; the input reads as it did. -/
def hpackLongUptoRow : OpenClaim := { program := "ytinieljgcenemaadoor", sum := "453713cc506b925afdee176e58a1f12b0b8d7c8e59a332cc16ead5834e0d7f6e", func := "flume/flumelaw05.HpackLong", spec := "hpackLong", inPlace := ["slices.overlaps[flume/api.Field]"], unfollowed := true, recurses := true, named := ["flume/huffman.counts"], apart := false, laid := [("flume/huffman.counts", laid_flume_huffman_counts)], narrowed := true }
def HpackLongUptoSaid : Prop := hpackLongUptoRow.holds Tryd.pinned (OpenSpec.upto hpackLongSpec)

/-- 'flumelaw05.HpackBroken', WHERE WHAT IT READS IS OF BULK AT MOST 1048576: true; the input reads as it did. -/
def hpackBrokenUptoRow : OpenClaim := { program := "ytinieljgcenemaadoor", sum := "453713cc506b925afdee176e58a1f12b0b8d7c8e59a332cc16ead5834e0d7f6e", func := "flume/flumelaw05.HpackBroken", spec := "hpackBroken", inPlace := ["slices.overlaps[flume/api.Field]"], unfollowed := true, recurses := true, named := ["flume/huffman.counts"], apart := false, laid := [("flume/huffman.counts", laid_flume_huffman_counts)], narrowed := true }
def HpackBrokenUptoSaid : Prop := hpackBrokenUptoRow.holds Tryd.pinned (OpenSpec.upto hpackBrokenSpec)

/-- 'flumelaw05.HpackLimits', WHERE WHAT IT READS IS OF BULK AT MOST 1048576: true; the input reads as it did. -/
def hpackLimitsUptoRow : OpenClaim := { program := "ytinieljgcenemaadoor", sum := "453713cc506b925afdee176e58a1f12b0b8d7c8e59a332cc16ead5834e0d7f6e", func := "flume/flumelaw05.HpackLimits", spec := "hpackLimits", inPlace := ["slices.overlaps[flume/api.Field]"], unfollowed := true, recurses := true, named := ["flume/huffman.counts"], apart := false, laid := [("flume/huffman.counts", laid_flume_huffman_counts)], narrowed := true }
def HpackLimitsUptoSaid : Prop := hpackLimitsUptoRow.holds Tryd.pinned (OpenSpec.upto hpackLimitsSpec)

/-- 'flumelaw05.HpackShort', WHERE WHAT IT READS IS OF BULK AT MOST 1048576: true; the input reads as it did. -/
def hpackShortUptoRow : OpenClaim := { program := "ytinieljgcenemaadoor", sum := "453713cc506b925afdee176e58a1f12b0b8d7c8e59a332cc16ead5834e0d7f6e", func := "flume/flumelaw05.HpackShort", spec := "hpackShort", inPlace := ["slices.overlaps[flume/api.Field]"], unfollowed := true, recurses := true, named := ["flume/huffman.counts"], apart := false, laid := [("flume/huffman.counts", laid_flume_huffman_counts)], narrowed := true }
def HpackShortUptoSaid : Prop := hpackShortUptoRow.holds Tryd.pinned (OpenSpec.upto hpackShortSpec)

end Rows
end Go.Proofs.YtinieljgcenemaaDoor
