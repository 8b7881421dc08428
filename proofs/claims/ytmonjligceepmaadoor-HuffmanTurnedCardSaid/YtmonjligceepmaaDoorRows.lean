/-
  NARROWER THAN 'FOR EVERY INPUT', by the rows' own cells (each row's printed sentence says how): HuffmanCodes: laid · HuffmanWrites: laid · HuffmanReads: laid · HuffmanBack: laid · HuffmanOne: laid · HuffmanPrefix: laid · HuffmanSizes: laid · HuffmanTurned: laid.
  DERIVED. THE GIVEN ROWS OF THIS SEAT. 8 by the template 'for every input the law returns true; each argument reads behind the call as it read before'; 0 by the template 'total and deterministic' (their statements: YtmonjligceepmaaDoorTotals.lean).
  GIVEN WITH THE SEED: the statements are not yours to turn. If you find one false, say at which input.
  Laid BY PROGRAM, IN A SANDBOX (cutbox-rows.mjs): the forced cells as the released guide's own fill.sh prints them over the translation 5d6e9be139681ad9… (all of the seat's roots in one cut). By AI agents, Wed Nov 11 2026. No macro, syntax, notation, axiom, sorry.
-/
import Derived.Test.YtmonjligceepmaaDoorChecked
import GoSem.Claim
import GoSem.ClaimJoined
import GoSem.ClaimMapViews
import Derived.JoinedTies
import Derived.KernelRfl
namespace Go.Proofs.YtmonjligceepmaaDoor
/- THE CELL 'sum', in the pinned program and in every row, IS THE sha256 OF THE DUMP (.gsa) THAT YtmonjligceepmaaDoorProg.lean LOADS. Nothing in Lean hashes anything: it is a label: what it is worth is what the hold of that sum in a sandbox is worth. -/
noncomputable def Tryd.pinned : Pinned := { name := "ytmonjligceepmaadoor", sum := "5d6e9be139681ad9b4f7e67c2d0e3ee0833b7636b383252ac1308f74426cb7c6", checked := Tryd.checked }
namespace Rows
def none {H : Type} : Left H := { results := [], args := [] }

/- WHAT THE LISTED PACKAGE-LEVEL VARIABLES READ AS WHEN THE CALL BEGINS. Each datum BY PROGRAM (the guide's laid-datum.mjs) off the statement by which the dump's own 'gosem.cut.vars' lays the variable. In a bare row this is a premise. The card (YtmonjligceepmaaDoorCards.lean) ties it to the program's text. -/
def laid_flume_huffman_counts {H : Type} : DataW H := .agg [.lit (.int .u32 0), .lit (.int .u32 0), .lit (.int .u32 0), .lit (.int .u32 0), .lit (.int .u32 0), .lit (.int .u32 10), .lit (.int .u32 26), .lit (.int .u32 32), .lit (.int .u32 6), .lit (.int .u32 0), .lit (.int .u32 5), .lit (.int .u32 3), .lit (.int .u32 2), .lit (.int .u32 6), .lit (.int .u32 2), .lit (.int .u32 3), .lit (.int .u32 0), .lit (.int .u32 0), .lit (.int .u32 0), .lit (.int .u32 3), .lit (.int .u32 8), .lit (.int .u32 13), .lit (.int .u32 26), .lit (.int .u32 29), .lit (.int .u32 12), .lit (.int .u32 4), .lit (.int .u32 15), .lit (.int .u32 19), .lit (.int .u32 29), .lit (.int .u32 0), .lit (.int .u32 4)]

/-- 'flumelaw02.HuffmanCodes': WHATEVER THE INPUT: true; the input reads as it did. -/
def huffmanCodesSpec : ChangeSpec := { name := "huffmanCodes", fn := fun _ => fun
  | [d] => { results := [.lit (.bool true)], args := [d] }
  | _ => none }
def huffmanCodesRow : OpenClaim := { program := "ytmonjligceepmaadoor", sum := "5d6e9be139681ad9b4f7e67c2d0e3ee0833b7636b383252ac1308f74426cb7c6", func := "flume/flumelaw02.HuffmanCodes", spec := "huffmanCodes", named := ["flume/huffman.counts"], apart := false, laid := [("flume/huffman.counts", laid_flume_huffman_counts)] }
def HuffmanCodesSaid : Prop := huffmanCodesRow.holds Tryd.pinned (OpenSpec.ofChange huffmanCodesSpec)

/-- ITS FALSE NEIGHBOUR: 'it returns false'. Refute it at one input. -/
def huffmanCodesWrong : ChangeSpec := { name := "huffmanCodes", fn := fun _ => fun
  | [d] => { results := [.lit (.bool false)], args := [d] }
  | _ => none }
def HuffmanCodesWrongFalsely : Prop := huffmanCodesRow.holds Tryd.pinned (OpenSpec.ofChange huffmanCodesWrong)

/-- 'flumelaw02.HuffmanWrites': WHATEVER THE INPUT: true; the input reads as it did. -/
def huffmanWritesSpec : ChangeSpec := { name := "huffmanWrites", fn := fun _ => fun
  | [d] => { results := [.lit (.bool true)], args := [d] }
  | _ => none }
def huffmanWritesRow : OpenClaim := { program := "ytmonjligceepmaadoor", sum := "5d6e9be139681ad9b4f7e67c2d0e3ee0833b7636b383252ac1308f74426cb7c6", func := "flume/flumelaw02.HuffmanWrites", spec := "huffmanWrites", named := ["flume/huffman.counts"], apart := false, laid := [("flume/huffman.counts", laid_flume_huffman_counts)] }
def HuffmanWritesSaid : Prop := huffmanWritesRow.holds Tryd.pinned (OpenSpec.ofChange huffmanWritesSpec)

/-- ITS FALSE NEIGHBOUR: 'it returns false'. Refute it at one input. -/
def huffmanWritesWrong : ChangeSpec := { name := "huffmanWrites", fn := fun _ => fun
  | [d] => { results := [.lit (.bool false)], args := [d] }
  | _ => none }
def HuffmanWritesWrongFalsely : Prop := huffmanWritesRow.holds Tryd.pinned (OpenSpec.ofChange huffmanWritesWrong)

/-- 'flumelaw02.HuffmanReads': WHATEVER THE INPUT: true; the input reads as it did. -/
def huffmanReadsSpec : ChangeSpec := { name := "huffmanReads", fn := fun _ => fun
  | [d1, d2] => { results := [.lit (.bool true)], args := [d1, d2] }
  | _ => none }
def huffmanReadsRow : OpenClaim := { program := "ytmonjligceepmaadoor", sum := "5d6e9be139681ad9b4f7e67c2d0e3ee0833b7636b383252ac1308f74426cb7c6", func := "flume/flumelaw02.HuffmanReads", spec := "huffmanReads", named := ["flume/huffman.counts"], apart := false, laid := [("flume/huffman.counts", laid_flume_huffman_counts)] }
def HuffmanReadsSaid : Prop := huffmanReadsRow.holds Tryd.pinned (OpenSpec.ofChange huffmanReadsSpec)

/-- ITS FALSE NEIGHBOUR: 'it returns false'. Refute it at one input. -/
def huffmanReadsWrong : ChangeSpec := { name := "huffmanReads", fn := fun _ => fun
  | [d1, d2] => { results := [.lit (.bool false)], args := [d1, d2] }
  | _ => none }
def HuffmanReadsWrongFalsely : Prop := huffmanReadsRow.holds Tryd.pinned (OpenSpec.ofChange huffmanReadsWrong)

/-- 'flumelaw02.HuffmanBack': WHATEVER THE INPUT: true; the input reads as it did. -/
def huffmanBackSpec : ChangeSpec := { name := "huffmanBack", fn := fun _ => fun
  | [d] => { results := [.lit (.bool true)], args := [d] }
  | _ => none }
def huffmanBackRow : OpenClaim := { program := "ytmonjligceepmaadoor", sum := "5d6e9be139681ad9b4f7e67c2d0e3ee0833b7636b383252ac1308f74426cb7c6", func := "flume/flumelaw02.HuffmanBack", spec := "huffmanBack", named := ["flume/huffman.counts"], apart := false, laid := [("flume/huffman.counts", laid_flume_huffman_counts)] }
def HuffmanBackSaid : Prop := huffmanBackRow.holds Tryd.pinned (OpenSpec.ofChange huffmanBackSpec)

/-- ITS FALSE NEIGHBOUR: 'it returns false'. Refute it at one input. -/
def huffmanBackWrong : ChangeSpec := { name := "huffmanBack", fn := fun _ => fun
  | [d] => { results := [.lit (.bool false)], args := [d] }
  | _ => none }
def HuffmanBackWrongFalsely : Prop := huffmanBackRow.holds Tryd.pinned (OpenSpec.ofChange huffmanBackWrong)

/-- 'flumelaw02.HuffmanOne': WHATEVER THE INPUT: true; the input reads as it did. -/
def huffmanOneSpec : ChangeSpec := { name := "huffmanOne", fn := fun _ => fun
  | [d] => { results := [.lit (.bool true)], args := [d] }
  | _ => none }
def huffmanOneRow : OpenClaim := { program := "ytmonjligceepmaadoor", sum := "5d6e9be139681ad9b4f7e67c2d0e3ee0833b7636b383252ac1308f74426cb7c6", func := "flume/flumelaw02.HuffmanOne", spec := "huffmanOne", named := ["flume/huffman.counts"], apart := false, laid := [("flume/huffman.counts", laid_flume_huffman_counts)] }
def HuffmanOneSaid : Prop := huffmanOneRow.holds Tryd.pinned (OpenSpec.ofChange huffmanOneSpec)

/-- ITS FALSE NEIGHBOUR: 'it returns false'. Refute it at one input. -/
def huffmanOneWrong : ChangeSpec := { name := "huffmanOne", fn := fun _ => fun
  | [d] => { results := [.lit (.bool false)], args := [d] }
  | _ => none }
def HuffmanOneWrongFalsely : Prop := huffmanOneRow.holds Tryd.pinned (OpenSpec.ofChange huffmanOneWrong)

/-- 'flumelaw02.HuffmanPrefix': WHATEVER THE INPUT: true; the input reads as it did. -/
def huffmanPrefixSpec : ChangeSpec := { name := "huffmanPrefix", fn := fun _ => fun
  | [d1, d2] => { results := [.lit (.bool true)], args := [d1, d2] }
  | _ => none }
def huffmanPrefixRow : OpenClaim := { program := "ytmonjligceepmaadoor", sum := "5d6e9be139681ad9b4f7e67c2d0e3ee0833b7636b383252ac1308f74426cb7c6", func := "flume/flumelaw02.HuffmanPrefix", spec := "huffmanPrefix", named := ["flume/huffman.counts"], apart := false, laid := [("flume/huffman.counts", laid_flume_huffman_counts)] }
def HuffmanPrefixSaid : Prop := huffmanPrefixRow.holds Tryd.pinned (OpenSpec.ofChange huffmanPrefixSpec)

/-- ITS FALSE NEIGHBOUR: 'it returns false'. Refute it at one input. -/
def huffmanPrefixWrong : ChangeSpec := { name := "huffmanPrefix", fn := fun _ => fun
  | [d1, d2] => { results := [.lit (.bool false)], args := [d1, d2] }
  | _ => none }
def HuffmanPrefixWrongFalsely : Prop := huffmanPrefixRow.holds Tryd.pinned (OpenSpec.ofChange huffmanPrefixWrong)

/-- 'flumelaw02.HuffmanSizes': WHATEVER THE INPUT: true; the input reads as it did. -/
def huffmanSizesSpec : ChangeSpec := { name := "huffmanSizes", fn := fun _ => fun
  | [d1, d2] => { results := [.lit (.bool true)], args := [d1, d2] }
  | _ => none }
def huffmanSizesRow : OpenClaim := { program := "ytmonjligceepmaadoor", sum := "5d6e9be139681ad9b4f7e67c2d0e3ee0833b7636b383252ac1308f74426cb7c6", func := "flume/flumelaw02.HuffmanSizes", spec := "huffmanSizes", named := ["flume/huffman.counts"], apart := false, laid := [("flume/huffman.counts", laid_flume_huffman_counts)] }
def HuffmanSizesSaid : Prop := huffmanSizesRow.holds Tryd.pinned (OpenSpec.ofChange huffmanSizesSpec)

/-- ITS FALSE NEIGHBOUR: 'it returns false'. Refute it at one input. -/
def huffmanSizesWrong : ChangeSpec := { name := "huffmanSizes", fn := fun _ => fun
  | [d1, d2] => { results := [.lit (.bool false)], args := [d1, d2] }
  | _ => none }
def HuffmanSizesWrongFalsely : Prop := huffmanSizesRow.holds Tryd.pinned (OpenSpec.ofChange huffmanSizesWrong)

/-- 'flumelaw02.HuffmanTurned': WHATEVER THE INPUT: true; the input reads as it did. -/
def huffmanTurnedSpec : ChangeSpec := { name := "huffmanTurned", fn := fun _ => fun
  | [d1, d2] => { results := [.lit (.bool true)], args := [d1, d2] }
  | _ => none }
def huffmanTurnedRow : OpenClaim := { program := "ytmonjligceepmaadoor", sum := "5d6e9be139681ad9b4f7e67c2d0e3ee0833b7636b383252ac1308f74426cb7c6", func := "flume/flumelaw02.HuffmanTurned", spec := "huffmanTurned", named := ["flume/huffman.counts"], apart := false, laid := [("flume/huffman.counts", laid_flume_huffman_counts)] }
def HuffmanTurnedSaid : Prop := huffmanTurnedRow.holds Tryd.pinned (OpenSpec.ofChange huffmanTurnedSpec)

/-- ITS FALSE NEIGHBOUR: 'it returns false'. Refute it at one input. -/
def huffmanTurnedWrong : ChangeSpec := { name := "huffmanTurned", fn := fun _ => fun
  | [d1, d2] => { results := [.lit (.bool false)], args := [d1, d2] }
  | _ => none }
def HuffmanTurnedWrongFalsely : Prop := huffmanTurnedRow.holds Tryd.pinned (OpenSpec.ofChange huffmanTurnedWrong)

/- THE SECOND FORM. 'bulk': how many values and letters a reading holds, each counted each time it is reached (what is shared counts as often as it is met; a slice's spare places count too). A statement '..UptoSaid' is the law's where the arguments, and the package variables that the reading takes, are together of bulk at most 1048576: NARROWER than '..Said'. Prove '..Said' where nothing that the law and all that it calls make is longer than what came in: it says more and counts as full. Else prove '..UptoSaid'. A law counts once. -/
mutual
def uptoBulk {H : Type} : DataW H → Nat
  | .lit (.string bytes) => bytes.length + 1
  | .lit _ => 1
  | .nil => 1
  | .ptr d => uptoBulk d + 1
  | .slice elems spare => uptoBulkAll elems + uptoBulkAll spare + 1
  | .agg parts => uptoBulkAll parts + 1
  | .iface _ d => uptoBulk d + 1
  | .map entries => uptoBulkEntries entries + 1
  | .held _ => 1
def uptoBulkAll {H : Type} : List (DataW H) → Nat
  | [] => 0
  | d :: r => uptoBulk d + uptoBulkAll r
def uptoBulkEntries {H : Type} : List (Lit × DataW H) → Nat
  | [] => 0
  | x :: r => uptoBulkEntry x + uptoBulkEntries r
def uptoBulkEntry {H : Type} : Lit × DataW H → Nat
  | (.string bytes, d) => bytes.length + uptoBulk d + 1
  | (_, d) => uptoBulk d + 1
 end
def uptoSmall : (H : Type) → List (DataW H) → Bool := fun _ ds => decide (uptoBulkAll ds ≤ 1048576)
def OpenSpec.upto (s : _root_.Go.ChangeSpec) : _root_.Go.OpenSpec := { _root_.Go.OpenSpec.ofChange s with cond := some uptoSmall }

/-- 'flumelaw02.HuffmanCodes', WHERE WHAT IT READS IS OF BULK AT MOST 1048576: true; the input reads as it did. -/
def huffmanCodesUptoRow : OpenClaim := { program := "ytmonjligceepmaadoor", sum := "5d6e9be139681ad9b4f7e67c2d0e3ee0833b7636b383252ac1308f74426cb7c6", func := "flume/flumelaw02.HuffmanCodes", spec := "huffmanCodes", named := ["flume/huffman.counts"], apart := false, laid := [("flume/huffman.counts", laid_flume_huffman_counts)], narrowed := true }
def HuffmanCodesUptoSaid : Prop := huffmanCodesUptoRow.holds Tryd.pinned (OpenSpec.upto huffmanCodesSpec)

/-- 'flumelaw02.HuffmanWrites', WHERE WHAT IT READS IS OF BULK AT MOST 1048576: true; the input reads as it did. -/
def huffmanWritesUptoRow : OpenClaim := { program := "ytmonjligceepmaadoor", sum := "5d6e9be139681ad9b4f7e67c2d0e3ee0833b7636b383252ac1308f74426cb7c6", func := "flume/flumelaw02.HuffmanWrites", spec := "huffmanWrites", named := ["flume/huffman.counts"], apart := false, laid := [("flume/huffman.counts", laid_flume_huffman_counts)], narrowed := true }
def HuffmanWritesUptoSaid : Prop := huffmanWritesUptoRow.holds Tryd.pinned (OpenSpec.upto huffmanWritesSpec)

/-- 'flumelaw02.HuffmanReads', WHERE WHAT IT READS IS OF BULK AT MOST 1048576: true; the input reads as it did. -/
def huffmanReadsUptoRow : OpenClaim := { program := "ytmonjligceepmaadoor", sum := "5d6e9be139681ad9b4f7e67c2d0e3ee0833b7636b383252ac1308f74426cb7c6", func := "flume/flumelaw02.HuffmanReads", spec := "huffmanReads", named := ["flume/huffman.counts"], apart := false, laid := [("flume/huffman.counts", laid_flume_huffman_counts)], narrowed := true }
def HuffmanReadsUptoSaid : Prop := huffmanReadsUptoRow.holds Tryd.pinned (OpenSpec.upto huffmanReadsSpec)

/-- 'flumelaw02.HuffmanBack', WHERE WHAT IT READS IS OF BULK AT MOST 1048576: true; the input reads as it did. -/
def huffmanBackUptoRow : OpenClaim := { program := "ytmonjligceepmaadoor", sum := "5d6e9be139681ad9b4f7e67c2d0e3ee0833b7636b383252ac1308f74426cb7c6", func := "flume/flumelaw02.HuffmanBack", spec := "huffmanBack", named := ["flume/huffman.counts"], apart := false, laid := [("flume/huffman.counts", laid_flume_huffman_counts)], narrowed := true }
def HuffmanBackUptoSaid : Prop := huffmanBackUptoRow.holds Tryd.pinned (OpenSpec.upto huffmanBackSpec)

/-- 'flumelaw02.HuffmanOne', WHERE WHAT IT READS IS OF BULK AT MOST 1048576: true; the input reads as it did. -/
def huffmanOneUptoRow : OpenClaim := { program := "ytmonjligceepmaadoor", sum := "5d6e9be139681ad9b4f7e67c2d0e3ee0833b7636b383252ac1308f74426cb7c6", func := "flume/flumelaw02.HuffmanOne", spec := "huffmanOne", named := ["flume/huffman.counts"], apart := false, laid := [("flume/huffman.counts", laid_flume_huffman_counts)], narrowed := true }
def HuffmanOneUptoSaid : Prop := huffmanOneUptoRow.holds Tryd.pinned (OpenSpec.upto huffmanOneSpec)

/-- 'flumelaw02.HuffmanPrefix', WHERE WHAT IT READS IS OF BULK AT MOST 1048576: true; the input reads as it did. -/
def huffmanPrefixUptoRow : OpenClaim := { program := "ytmonjligceepmaadoor", sum := "5d6e9be139681ad9b4f7e67c2d0e3ee0833b7636b383252ac1308f74426cb7c6", func := "flume/flumelaw02.HuffmanPrefix", spec := "huffmanPrefix", named := ["flume/huffman.counts"], apart := false, laid := [("flume/huffman.counts", laid_flume_huffman_counts)], narrowed := true }
def HuffmanPrefixUptoSaid : Prop := huffmanPrefixUptoRow.holds Tryd.pinned (OpenSpec.upto huffmanPrefixSpec)

/-- 'flumelaw02.HuffmanSizes', WHERE WHAT IT READS IS OF BULK AT MOST 1048576: true; the input reads as it did. -/
def huffmanSizesUptoRow : OpenClaim := { program := "ytmonjligceepmaadoor", sum := "5d6e9be139681ad9b4f7e67c2d0e3ee0833b7636b383252ac1308f74426cb7c6", func := "flume/flumelaw02.HuffmanSizes", spec := "huffmanSizes", named := ["flume/huffman.counts"], apart := false, laid := [("flume/huffman.counts", laid_flume_huffman_counts)], narrowed := true }
def HuffmanSizesUptoSaid : Prop := huffmanSizesUptoRow.holds Tryd.pinned (OpenSpec.upto huffmanSizesSpec)

/-- 'flumelaw02.HuffmanTurned', WHERE WHAT IT READS IS OF BULK AT MOST 1048576: true; the input reads as it did. -/
def huffmanTurnedUptoRow : OpenClaim := { program := "ytmonjligceepmaadoor", sum := "5d6e9be139681ad9b4f7e67c2d0e3ee0833b7636b383252ac1308f74426cb7c6", func := "flume/flumelaw02.HuffmanTurned", spec := "huffmanTurned", named := ["flume/huffman.counts"], apart := false, laid := [("flume/huffman.counts", laid_flume_huffman_counts)], narrowed := true }
def HuffmanTurnedUptoSaid : Prop := huffmanTurnedUptoRow.holds Tryd.pinned (OpenSpec.upto huffmanTurnedSpec)

end Rows
end Go.Proofs.YtmonjligceepmaaDoor
