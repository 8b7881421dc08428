/-
  NARROWER THAN 'FOR EVERY INPUT', by the rows' own cells (each row's printed sentence says how): HintsWrites: laid · HintsReads: laid · HintsTexts: laid · HintsBack: laid · HintsLeast: laid · HintsKept: laid.
  DERIVED. THE GIVEN ROWS OF THIS SEAT. 6 by the template 'for every input the law returns true; each argument reads behind the call as it read before'; 0 by the template 'total and deterministic' (their statements: YtdmheinepkeglaaDoorTotals.lean).
  GIVEN WITH THE SEED: the statements are not yours to turn. If you find one false, say at which input.
  Laid BY PROGRAM, IN A SANDBOX (cutbox-rows.mjs): the forced cells as the released guide's own fill.sh prints them over the translation fb8eb976172c763d… (all of the seat's roots in one cut). By AI agents, Wed Nov 11 2026. No macro, syntax, notation, axiom, sorry.
-/
import Derived.Test.YtdmheinepkeglaaDoorChecked
import GoSem.Claim
import GoSem.ClaimJoined
import GoSem.ClaimMapViews
import Derived.JoinedTies
import Derived.KernelRfl
namespace Go.Proofs.YtdmheinepkeglaaDoor
/- THE CELL 'sum', in the pinned program and in every row, IS THE sha256 OF THE DUMP (.gsa) THAT YtdmheinepkeglaaDoorProg.lean LOADS. Nothing in Lean hashes anything: it is a label: what it is worth is what the hold of that sum in a sandbox is worth. -/
noncomputable def Tryd.pinned : Pinned := { name := "ytdmheinepkeglaadoor", sum := "fb8eb976172c763d16de298b2ce341abd98b06de2104696edc0061aa677cf76d", checked := Tryd.checked }
namespace Rows
def none {H : Type} : Left H := { results := [], args := [] }

/- WHAT THE LISTED PACKAGE-LEVEL VARIABLES READ AS WHEN THE CALL BEGINS. Each datum BY PROGRAM (the guide's laid-datum.mjs) off the statement by which the dump's own 'gosem.cut.vars' lays the variable. In a bare row this is a premise. The card (YtdmheinepkeglaaDoorCards.lean) ties it to the program's text. -/
def laid_flume_huffman_counts {H : Type} : DataW H := .agg [.lit (.int .u32 0), .lit (.int .u32 0), .lit (.int .u32 0), .lit (.int .u32 0), .lit (.int .u32 0), .lit (.int .u32 10), .lit (.int .u32 26), .lit (.int .u32 32), .lit (.int .u32 6), .lit (.int .u32 0), .lit (.int .u32 5), .lit (.int .u32 3), .lit (.int .u32 2), .lit (.int .u32 6), .lit (.int .u32 2), .lit (.int .u32 3), .lit (.int .u32 0), .lit (.int .u32 0), .lit (.int .u32 0), .lit (.int .u32 3), .lit (.int .u32 8), .lit (.int .u32 13), .lit (.int .u32 26), .lit (.int .u32 29), .lit (.int .u32 12), .lit (.int .u32 4), .lit (.int .u32 15), .lit (.int .u32 19), .lit (.int .u32 29), .lit (.int .u32 0), .lit (.int .u32 4)]

/-- 'flumelaw03.HintsWrites': WHATEVER THE INPUT: true; the input reads as it did. -/
def hintsWritesSpec : ChangeSpec := { name := "hintsWrites", fn := fun _ => fun
  | [d1, d2, d3] => { results := [.lit (.bool true)], args := [d1, d2, d3] }
  | _ => none }
def hintsWritesRow : OpenClaim := { program := "ytdmheinepkeglaadoor", sum := "fb8eb976172c763d16de298b2ce341abd98b06de2104696edc0061aa677cf76d", func := "flume/flumelaw03.HintsWrites", spec := "hintsWrites", unfollowed := true, recurses := true, named := ["flume/huffman.counts"], apart := false, laid := [("flume/huffman.counts", laid_flume_huffman_counts)] }
def HintsWritesSaid : Prop := hintsWritesRow.holds Tryd.pinned (OpenSpec.ofChange hintsWritesSpec)

/-- ITS FALSE NEIGHBOUR: 'it returns false'. Refute it at one input. -/
def hintsWritesWrong : ChangeSpec := { name := "hintsWrites", fn := fun _ => fun
  | [d1, d2, d3] => { results := [.lit (.bool false)], args := [d1, d2, d3] }
  | _ => none }
def HintsWritesWrongFalsely : Prop := hintsWritesRow.holds Tryd.pinned (OpenSpec.ofChange hintsWritesWrong)

/-- 'flumelaw03.HintsReads': WHATEVER THE INPUT: true; the input reads as it did. -/
def hintsReadsSpec : ChangeSpec := { name := "hintsReads", fn := fun _ => fun
  | [d1, d2] => { results := [.lit (.bool true)], args := [d1, d2] }
  | _ => none }
def hintsReadsRow : OpenClaim := { program := "ytdmheinepkeglaadoor", sum := "fb8eb976172c763d16de298b2ce341abd98b06de2104696edc0061aa677cf76d", func := "flume/flumelaw03.HintsReads", spec := "hintsReads", unfollowed := true, recurses := true, named := ["flume/huffman.counts"], apart := false, laid := [("flume/huffman.counts", laid_flume_huffman_counts)] }
def HintsReadsSaid : Prop := hintsReadsRow.holds Tryd.pinned (OpenSpec.ofChange hintsReadsSpec)

/-- ITS FALSE NEIGHBOUR: 'it returns false'. Refute it at one input. -/
def hintsReadsWrong : ChangeSpec := { name := "hintsReads", fn := fun _ => fun
  | [d1, d2] => { results := [.lit (.bool false)], args := [d1, d2] }
  | _ => none }
def HintsReadsWrongFalsely : Prop := hintsReadsRow.holds Tryd.pinned (OpenSpec.ofChange hintsReadsWrong)

/-- 'flumelaw03.HintsTexts': WHATEVER THE INPUT: true; the input reads as it did. -/
def hintsTextsSpec : ChangeSpec := { name := "hintsTexts", fn := fun _ => fun
  | [d1, d2] => { results := [.lit (.bool true)], args := [d1, d2] }
  | _ => none }
def hintsTextsRow : OpenClaim := { program := "ytdmheinepkeglaadoor", sum := "fb8eb976172c763d16de298b2ce341abd98b06de2104696edc0061aa677cf76d", func := "flume/flumelaw03.HintsTexts", spec := "hintsTexts", unfollowed := true, recurses := true, named := ["flume/huffman.counts"], apart := false, laid := [("flume/huffman.counts", laid_flume_huffman_counts)] }
def HintsTextsSaid : Prop := hintsTextsRow.holds Tryd.pinned (OpenSpec.ofChange hintsTextsSpec)

/-- ITS FALSE NEIGHBOUR: 'it returns false'. Refute it at one input. -/
def hintsTextsWrong : ChangeSpec := { name := "hintsTexts", fn := fun _ => fun
  | [d1, d2] => { results := [.lit (.bool false)], args := [d1, d2] }
  | _ => none }
def HintsTextsWrongFalsely : Prop := hintsTextsRow.holds Tryd.pinned (OpenSpec.ofChange hintsTextsWrong)

/-- 'flumelaw03.HintsBack': WHATEVER THE INPUT: true; the input reads as it did. -/
def hintsBackSpec : ChangeSpec := { name := "hintsBack", fn := fun _ => fun
  | [d1, d2, d3, d4] => { results := [.lit (.bool true)], args := [d1, d2, d3, d4] }
  | _ => none }
def hintsBackRow : OpenClaim := { program := "ytdmheinepkeglaadoor", sum := "fb8eb976172c763d16de298b2ce341abd98b06de2104696edc0061aa677cf76d", func := "flume/flumelaw03.HintsBack", spec := "hintsBack", unfollowed := true, recurses := true, named := ["flume/huffman.counts"], apart := false, laid := [("flume/huffman.counts", laid_flume_huffman_counts)] }
def HintsBackSaid : Prop := hintsBackRow.holds Tryd.pinned (OpenSpec.ofChange hintsBackSpec)

/-- ITS FALSE NEIGHBOUR: 'it returns false'. Refute it at one input. -/
def hintsBackWrong : ChangeSpec := { name := "hintsBack", fn := fun _ => fun
  | [d1, d2, d3, d4] => { results := [.lit (.bool false)], args := [d1, d2, d3, d4] }
  | _ => none }
def HintsBackWrongFalsely : Prop := hintsBackRow.holds Tryd.pinned (OpenSpec.ofChange hintsBackWrong)

/-- 'flumelaw03.HintsLeast': WHATEVER THE INPUT: true; the input reads as it did. -/
def hintsLeastSpec : ChangeSpec := { name := "hintsLeast", fn := fun _ => fun
  | [d1, d2] => { results := [.lit (.bool true)], args := [d1, d2] }
  | _ => none }
def hintsLeastRow : OpenClaim := { program := "ytdmheinepkeglaadoor", sum := "fb8eb976172c763d16de298b2ce341abd98b06de2104696edc0061aa677cf76d", func := "flume/flumelaw03.HintsLeast", spec := "hintsLeast", unfollowed := true, recurses := true, named := ["flume/huffman.counts"], apart := false, laid := [("flume/huffman.counts", laid_flume_huffman_counts)] }
def HintsLeastSaid : Prop := hintsLeastRow.holds Tryd.pinned (OpenSpec.ofChange hintsLeastSpec)

/-- ITS FALSE NEIGHBOUR: 'it returns false'. Refute it at one input. -/
def hintsLeastWrong : ChangeSpec := { name := "hintsLeast", fn := fun _ => fun
  | [d1, d2] => { results := [.lit (.bool false)], args := [d1, d2] }
  | _ => none }
def HintsLeastWrongFalsely : Prop := hintsLeastRow.holds Tryd.pinned (OpenSpec.ofChange hintsLeastWrong)

/-- 'flumelaw03.HintsKept': WHATEVER THE INPUT: true; the input reads as it did. -/
def hintsKeptSpec : ChangeSpec := { name := "hintsKept", fn := fun _ => fun
  | [d1, d2, d3] => { results := [.lit (.bool true)], args := [d1, d2, d3] }
  | _ => none }
def hintsKeptRow : OpenClaim := { program := "ytdmheinepkeglaadoor", sum := "fb8eb976172c763d16de298b2ce341abd98b06de2104696edc0061aa677cf76d", func := "flume/flumelaw03.HintsKept", spec := "hintsKept", unfollowed := true, recurses := true, named := ["flume/huffman.counts"], apart := false, laid := [("flume/huffman.counts", laid_flume_huffman_counts)] }
def HintsKeptSaid : Prop := hintsKeptRow.holds Tryd.pinned (OpenSpec.ofChange hintsKeptSpec)

/-- ITS FALSE NEIGHBOUR: 'it returns false'. Refute it at one input. -/
def hintsKeptWrong : ChangeSpec := { name := "hintsKept", fn := fun _ => fun
  | [d1, d2, d3] => { results := [.lit (.bool false)], args := [d1, d2, d3] }
  | _ => none }
def HintsKeptWrongFalsely : Prop := hintsKeptRow.holds Tryd.pinned (OpenSpec.ofChange hintsKeptWrong)

/- THE SECOND FORM. 'bulk': how many values and letters a reading holds, each counted each time it is reached (what is shared counts as often as it is met; a slice's spare places count too). A statement '..UptoSaid' is the law's where the arguments, and the package variables that the reading takes, are together of bulk at most 1048576: NARROWER than '..Said'. Prove '..Said' where nothing that the law and all that it calls make is longer than what came in: it says more and counts as full. Else prove '..UptoSaid'. A law counts once. -/
mutual
def uptoBulk {H : Type} : DataW H → Nat
  | .lit (.string bytes) => bytes.length + 1
  | .lit _ => 1
  | .nil => 1
  | .ptr d => uptoBulk d + 1
  | .slice elems spare => uptoBulkAll elems + uptoBulkAll spare + 1
  | .agg parts => uptoBulkAll parts + 1
  | .iface _ d => uptoBulk d + 1
  | .map entries => uptoBulkEntries entries + 1
  | .held _ => 1
def uptoBulkAll {H : Type} : List (DataW H) → Nat
  | [] => 0
  | d :: r => uptoBulk d + uptoBulkAll r
def uptoBulkEntries {H : Type} : List (Lit × DataW H) → Nat
  | [] => 0
  | x :: r => uptoBulkEntry x + uptoBulkEntries r
def uptoBulkEntry {H : Type} : Lit × DataW H → Nat
  | (.string bytes, d) => bytes.length + uptoBulk d + 1
  | (_, d) => uptoBulk d + 1
 end
def uptoSmall : (H : Type) → List (DataW H) → Bool := fun _ ds => decide (uptoBulkAll ds ≤ 1048576)
def OpenSpec.upto (s : _root_.Go.ChangeSpec) : _root_.Go.OpenSpec := { _root_.Go.OpenSpec.ofChange s with cond := some uptoSmall }

/-- 'flumelaw03.HintsWrites', WHERE WHAT IT READS IS OF BULK AT MOST 1048576: true; the input reads as it did. -/
def hintsWritesUptoRow : OpenClaim := { program := "ytdmheinepkeglaadoor", sum := "fb8eb976172c763d16de298b2ce341abd98b06de2104696edc0061aa677cf76d", func := "flume/flumelaw03.HintsWrites", spec := "hintsWrites", unfollowed := true, recurses := true, named := ["flume/huffman.counts"], apart := false, laid := [("flume/huffman.counts", laid_flume_huffman_counts)], narrowed := true }
def HintsWritesUptoSaid : Prop := hintsWritesUptoRow.holds Tryd.pinned (OpenSpec.upto hintsWritesSpec)

/-- 'flumelaw03.HintsReads', WHERE WHAT IT READS IS OF BULK AT MOST 1048576: true; the input reads as it did. -/
def hintsReadsUptoRow : OpenClaim := { program := "ytdmheinepkeglaadoor", sum := "fb8eb976172c763d16de298b2ce341abd98b06de2104696edc0061aa677cf76d", func := "flume/flumelaw03.HintsReads", spec := "hintsReads", unfollowed := true, recurses := true, named := ["flume/huffman.counts"], apart := false, laid := [("flume/huffman.counts", laid_flume_huffman_counts)], narrowed := true }
def HintsReadsUptoSaid : Prop := hintsReadsUptoRow.holds Tryd.pinned (OpenSpec.upto hintsReadsSpec)

/-- 'flumelaw03.HintsTexts', WHERE WHAT IT READS IS OF BULK AT MOST 1048576: true; the input reads as it did. -/
def hintsTextsUptoRow : OpenClaim := { program := "ytdmheinepkeglaadoor", sum := "fb8eb976172c763d16de298b2ce341abd98b06de2104696edc0061aa677cf76d", func := "flume/flumelaw03.HintsTexts", spec := "hintsTexts", unfollowed := true, recurses := true, named := ["flume/huffman.counts"], apart := false, laid := [("flume/huffman.counts", laid_flume_huffman_counts)], narrowed := true }
def HintsTextsUptoSaid : Prop := hintsTextsUptoRow.holds Tryd.pinned (OpenSpec.upto hintsTextsSpec)

/-- 'flumelaw03.HintsBack', WHERE WHAT IT READS IS OF BULK AT MOST 1048576: true; the input reads as it did. -/
def hintsBackUptoRow : OpenClaim := { program := "ytdmheinepkeglaadoor", sum := "fb8eb976172c763d16de298b2ce341abd98b06de2104696edc0061aa677cf76d", func := "flume/flumelaw03.HintsBack", spec := "hintsBack", unfollowed := true, recurses := true, named := ["flume/huffman.counts"], apart := false, laid := [("flume/huffman.counts", laid_flume_huffman_counts)], narrowed := true }
def HintsBackUptoSaid : Prop := hintsBackUptoRow.holds Tryd.pinned (OpenSpec.upto hintsBackSpec)

/-- 'flumelaw03.HintsLeast', WHERE WHAT IT READS IS OF BULK AT MOST 1048576: true; the input reads as it did. -/
def hintsLeastUptoRow : OpenClaim := { program := "ytdmheinepkeglaadoor", sum := "fb8eb976172c763d16de298b2ce341abd98b06de2104696edc0061aa677cf76d", func := "flume/flumelaw03.HintsLeast", spec := "hintsLeast", unfollowed := true, recurses := true, named := ["flume/huffman.counts"], apart := false, laid := [("flume/huffman.counts", laid_flume_huffman_counts)], narrowed := true }
def HintsLeastUptoSaid : Prop := hintsLeastUptoRow.holds Tryd.pinned (OpenSpec.upto hintsLeastSpec)

/-- 'flumelaw03.HintsKept', WHERE WHAT IT READS IS OF BULK AT MOST 1048576: true; the input reads as it did. -/
def hintsKeptUptoRow : OpenClaim := { program := "ytdmheinepkeglaadoor", sum := "fb8eb976172c763d16de298b2ce341abd98b06de2104696edc0061aa677cf76d", func := "flume/flumelaw03.HintsKept", spec := "hintsKept", unfollowed := true, recurses := true, named := ["flume/huffman.counts"], apart := false, laid := [("flume/huffman.counts", laid_flume_huffman_counts)], narrowed := true }
def HintsKeptUptoSaid : Prop := hintsKeptUptoRow.holds Tryd.pinned (OpenSpec.upto hintsKeptSpec)

end Rows
end Go.Proofs.YtdmheinepkeglaaDoor
