/-
  NARROWER THAN 'FOR EVERY INPUT', by the rows' own cells (each row's printed sentence says how): FrameWrites: laid · FrameReads: laid · FrameBack: laid · FramePieces: laid · FrameAgain: laid · FrameHeld: laid · FrameStreams: laid · FrameSizes: laid · FrameOpens: laid.
  DERIVED. THE GIVEN ROWS OF THIS SEAT. 9 by the template 'for every input the law returns true; each argument reads behind the call as it read before'; 0 by the template 'total and deterministic' (their statements: YtokbdkbljgdcpaaDoorTotals.lean).
  GIVEN WITH THE SEED: the statements are not yours to turn. If you find one false, say at which input.
  Laid BY PROGRAM, IN A SANDBOX (cutbox-rows.mjs): the forced cells as the released guide's own fill.sh prints them over the translation cb6c6dd74612c637… (all of the seat's roots in one cut). By AI agents, Wed Nov 11 2026. No macro, syntax, notation, axiom, sorry.
-/
import Derived.Test.YtokbdkbljgdcpaaDoorChecked
import GoSem.Claim
import GoSem.ClaimJoined
import GoSem.ClaimMapViews
import Derived.JoinedTies
import Derived.KernelRfl
namespace Go.Proofs.YtokbdkbljgdcpaaDoor
/- THE CELL 'sum', in the pinned program and in every row, IS THE sha256 OF THE DUMP (.gsa) THAT YtokbdkbljgdcpaaDoorProg.lean LOADS. Nothing in Lean hashes anything: it is a label: what it is worth is what the hold of that sum in a sandbox is worth. -/
noncomputable def Tryd.pinned : Pinned := { name := "ytokbdkbljgdcpaadoor", sum := "cb6c6dd74612c63792c63b390d7f69082d5e0db7ae5331b14cdcd3c2c762c6c8", checked := Tryd.checked }
namespace Rows
def none {H : Type} : Left H := { results := [], args := [] }

/- WHAT THE LISTED PACKAGE-LEVEL VARIABLES READ AS WHEN THE CALL BEGINS. Each datum BY PROGRAM (the guide's laid-datum.mjs) off the statement by which the dump's own 'gosem.cut.vars' lays the variable. In a bare row this is a premise. The card (YtokbdkbljgdcpaaDoorCards.lean) ties it to the program's text. -/
def laid_flume_frame_flagBits {H : Type} : DataW H := .agg [.agg [.lit (.int .i64 1), .lit (.int .i64 1)], .agg [.lit (.int .i64 4), .lit (.int .i64 1)], .agg [.lit (.int .i64 2), .lit (.int .i64 4)], .agg [.lit (.int .i64 8), .lit (.int .i64 8)], .agg [.lit (.int .i64 16), .lit (.int .i64 32)]]
def laid_flume_frame_shapes {H : Type} : DataW H := .agg [.agg [.lit (.int .i64 1), .lit (.int .i64 73), .lit (.int .i64 0), .lit (.int .i64 1)], .agg [.lit (.int .i64 1), .lit (.int .i64 91), .lit (.int .i64 0), .lit (.int .i64 1)], .agg [.lit (.int .i64 1), .lit (.int .i64 32), .lit (.int .i64 5), .lit (.int .i64 0)], .agg [.lit (.int .i64 1), .lit (.int .i64 1024), .lit (.int .i64 4), .lit (.int .i64 0)], .agg [.lit (.int .i64 2), .lit (.int .i64 260), .lit (.int .i64 0), .lit (.int .i64 6)], .agg [.lit (.int .i64 1), .lit (.int .i64 586), .lit (.int .i64 4), .lit (.int .i64 1)], .agg [.lit (.int .i64 2), .lit (.int .i64 68), .lit (.int .i64 8), .lit (.int .i64 0)], .agg [.lit (.int .i64 2), .lit (.int .i64 1600), .lit (.int .i64 8), .lit (.int .i64 1)], .agg [.lit (.int .i64 0), .lit (.int .i64 2048), .lit (.int .i64 4), .lit (.int .i64 0)], .agg [.lit (.int .i64 1), .lit (.int .i64 66), .lit (.int .i64 0), .lit (.int .i64 1)]]

/-- 'flumelaw06.FrameWrites': WHATEVER THE INPUT: true; the input reads as it did. -/
def frameWritesSpec : ChangeSpec := { name := "frameWrites", fn := fun _ => fun
  | [d] => { results := [.lit (.bool true)], args := [d] }
  | _ => none }
def frameWritesRow : OpenClaim := { program := "ytokbdkbljgdcpaadoor", sum := "cb6c6dd74612c63792c63b390d7f69082d5e0db7ae5331b14cdcd3c2c762c6c8", func := "flume/flumelaw06.FrameWrites", spec := "frameWrites", unfollowed := true, recurses := true, named := ["flume/frame.shapes", "flume/frame.flagBits"], apart := false, laid := [("flume/frame.flagBits", laid_flume_frame_flagBits), ("flume/frame.shapes", laid_flume_frame_shapes)] }
def FrameWritesSaid : Prop := frameWritesRow.holds Tryd.pinned (OpenSpec.ofChange frameWritesSpec)

/-- ITS FALSE NEIGHBOUR: 'it returns false'. Refute it at one input. -/
def frameWritesWrong : ChangeSpec := { name := "frameWrites", fn := fun _ => fun
  | [d] => { results := [.lit (.bool false)], args := [d] }
  | _ => none }
def FrameWritesWrongFalsely : Prop := frameWritesRow.holds Tryd.pinned (OpenSpec.ofChange frameWritesWrong)

/-- 'flumelaw06.FrameReads': WHATEVER THE INPUT: true; the input reads as it did. -/
def frameReadsSpec : ChangeSpec := { name := "frameReads", fn := fun _ => fun
  | [d1, d2] => { results := [.lit (.bool true)], args := [d1, d2] }
  | _ => none }
def frameReadsRow : OpenClaim := { program := "ytokbdkbljgdcpaadoor", sum := "cb6c6dd74612c63792c63b390d7f69082d5e0db7ae5331b14cdcd3c2c762c6c8", func := "flume/flumelaw06.FrameReads", spec := "frameReads", unfollowed := true, recurses := true, named := ["flume/frame.shapes", "flume/frame.flagBits"], apart := false, laid := [("flume/frame.flagBits", laid_flume_frame_flagBits), ("flume/frame.shapes", laid_flume_frame_shapes)] }
def FrameReadsSaid : Prop := frameReadsRow.holds Tryd.pinned (OpenSpec.ofChange frameReadsSpec)

/-- ITS FALSE NEIGHBOUR: 'it returns false'. Refute it at one input. -/
def frameReadsWrong : ChangeSpec := { name := "frameReads", fn := fun _ => fun
  | [d1, d2] => { results := [.lit (.bool false)], args := [d1, d2] }
  | _ => none }
def FrameReadsWrongFalsely : Prop := frameReadsRow.holds Tryd.pinned (OpenSpec.ofChange frameReadsWrong)

/-- 'flumelaw06.FrameBack': WHATEVER THE INPUT: true; the input reads as it did. -/
def frameBackSpec : ChangeSpec := { name := "frameBack", fn := fun _ => fun
  | [d1, d2] => { results := [.lit (.bool true)], args := [d1, d2] }
  | _ => none }
def frameBackRow : OpenClaim := { program := "ytokbdkbljgdcpaadoor", sum := "cb6c6dd74612c63792c63b390d7f69082d5e0db7ae5331b14cdcd3c2c762c6c8", func := "flume/flumelaw06.FrameBack", spec := "frameBack", unfollowed := true, recurses := true, named := ["flume/frame.shapes", "flume/frame.flagBits"], apart := false, laid := [("flume/frame.flagBits", laid_flume_frame_flagBits), ("flume/frame.shapes", laid_flume_frame_shapes)] }
def FrameBackSaid : Prop := frameBackRow.holds Tryd.pinned (OpenSpec.ofChange frameBackSpec)

/-- ITS FALSE NEIGHBOUR: 'it returns false'. Refute it at one input. -/
def frameBackWrong : ChangeSpec := { name := "frameBack", fn := fun _ => fun
  | [d1, d2] => { results := [.lit (.bool false)], args := [d1, d2] }
  | _ => none }
def FrameBackWrongFalsely : Prop := frameBackRow.holds Tryd.pinned (OpenSpec.ofChange frameBackWrong)

/-- 'flumelaw06.FramePieces': WHATEVER THE INPUT: true; the input reads as it did. -/
def framePiecesSpec : ChangeSpec := { name := "framePieces", fn := fun _ => fun
  | [d1, d2, d3] => { results := [.lit (.bool true)], args := [d1, d2, d3] }
  | _ => none }
def framePiecesRow : OpenClaim := { program := "ytokbdkbljgdcpaadoor", sum := "cb6c6dd74612c63792c63b390d7f69082d5e0db7ae5331b14cdcd3c2c762c6c8", func := "flume/flumelaw06.FramePieces", spec := "framePieces", unfollowed := true, recurses := true, named := ["flume/frame.shapes", "flume/frame.flagBits"], apart := false, laid := [("flume/frame.flagBits", laid_flume_frame_flagBits), ("flume/frame.shapes", laid_flume_frame_shapes)] }
def FramePiecesSaid : Prop := framePiecesRow.holds Tryd.pinned (OpenSpec.ofChange framePiecesSpec)

/-- ITS FALSE NEIGHBOUR: 'it returns false'. Refute it at one input. -/
def framePiecesWrong : ChangeSpec := { name := "framePieces", fn := fun _ => fun
  | [d1, d2, d3] => { results := [.lit (.bool false)], args := [d1, d2, d3] }
  | _ => none }
def FramePiecesWrongFalsely : Prop := framePiecesRow.holds Tryd.pinned (OpenSpec.ofChange framePiecesWrong)

/-- 'flumelaw06.FrameAgain': WHATEVER THE INPUT: true; the input reads as it did. -/
def frameAgainSpec : ChangeSpec := { name := "frameAgain", fn := fun _ => fun
  | [d] => { results := [.lit (.bool true)], args := [d] }
  | _ => none }
def frameAgainRow : OpenClaim := { program := "ytokbdkbljgdcpaadoor", sum := "cb6c6dd74612c63792c63b390d7f69082d5e0db7ae5331b14cdcd3c2c762c6c8", func := "flume/flumelaw06.FrameAgain", spec := "frameAgain", unfollowed := true, recurses := true, named := ["flume/frame.shapes", "flume/frame.flagBits"], apart := false, laid := [("flume/frame.flagBits", laid_flume_frame_flagBits), ("flume/frame.shapes", laid_flume_frame_shapes)] }
def FrameAgainSaid : Prop := frameAgainRow.holds Tryd.pinned (OpenSpec.ofChange frameAgainSpec)

/-- ITS FALSE NEIGHBOUR: 'it returns false'. Refute it at one input. -/
def frameAgainWrong : ChangeSpec := { name := "frameAgain", fn := fun _ => fun
  | [d] => { results := [.lit (.bool false)], args := [d] }
  | _ => none }
def FrameAgainWrongFalsely : Prop := frameAgainRow.holds Tryd.pinned (OpenSpec.ofChange frameAgainWrong)

/-- 'flumelaw06.FrameHeld': WHATEVER THE INPUT: true; the input reads as it did. -/
def frameHeldSpec : ChangeSpec := { name := "frameHeld", fn := fun _ => fun
  | [d1, d2, d3] => { results := [.lit (.bool true)], args := [d1, d2, d3] }
  | _ => none }
def frameHeldRow : OpenClaim := { program := "ytokbdkbljgdcpaadoor", sum := "cb6c6dd74612c63792c63b390d7f69082d5e0db7ae5331b14cdcd3c2c762c6c8", func := "flume/flumelaw06.FrameHeld", spec := "frameHeld", unfollowed := true, recurses := true, named := ["flume/frame.shapes", "flume/frame.flagBits"], apart := false, laid := [("flume/frame.flagBits", laid_flume_frame_flagBits), ("flume/frame.shapes", laid_flume_frame_shapes)] }
def FrameHeldSaid : Prop := frameHeldRow.holds Tryd.pinned (OpenSpec.ofChange frameHeldSpec)

/-- ITS FALSE NEIGHBOUR: 'it returns false'. Refute it at one input. -/
def frameHeldWrong : ChangeSpec := { name := "frameHeld", fn := fun _ => fun
  | [d1, d2, d3] => { results := [.lit (.bool false)], args := [d1, d2, d3] }
  | _ => none }
def FrameHeldWrongFalsely : Prop := frameHeldRow.holds Tryd.pinned (OpenSpec.ofChange frameHeldWrong)

/-- 'flumelaw06.FrameStreams': WHATEVER THE INPUT: true; the input reads as it did. -/
def frameStreamsSpec : ChangeSpec := { name := "frameStreams", fn := fun _ => fun
  | [d1, d2, d3, d4] => { results := [.lit (.bool true)], args := [d1, d2, d3, d4] }
  | _ => none }
def frameStreamsRow : OpenClaim := { program := "ytokbdkbljgdcpaadoor", sum := "cb6c6dd74612c63792c63b390d7f69082d5e0db7ae5331b14cdcd3c2c762c6c8", func := "flume/flumelaw06.FrameStreams", spec := "frameStreams", unfollowed := true, recurses := true, named := ["flume/frame.shapes", "flume/frame.flagBits"], apart := false, laid := [("flume/frame.flagBits", laid_flume_frame_flagBits), ("flume/frame.shapes", laid_flume_frame_shapes)] }
def FrameStreamsSaid : Prop := frameStreamsRow.holds Tryd.pinned (OpenSpec.ofChange frameStreamsSpec)

/-- ITS FALSE NEIGHBOUR: 'it returns false'. Refute it at one input. -/
def frameStreamsWrong : ChangeSpec := { name := "frameStreams", fn := fun _ => fun
  | [d1, d2, d3, d4] => { results := [.lit (.bool false)], args := [d1, d2, d3, d4] }
  | _ => none }
def FrameStreamsWrongFalsely : Prop := frameStreamsRow.holds Tryd.pinned (OpenSpec.ofChange frameStreamsWrong)

/-- 'flumelaw06.FrameSizes': WHATEVER THE INPUT: true; the input reads as it did. -/
def frameSizesSpec : ChangeSpec := { name := "frameSizes", fn := fun _ => fun
  | [d1, d2, d3, d4] => { results := [.lit (.bool true)], args := [d1, d2, d3, d4] }
  | _ => none }
def frameSizesRow : OpenClaim := { program := "ytokbdkbljgdcpaadoor", sum := "cb6c6dd74612c63792c63b390d7f69082d5e0db7ae5331b14cdcd3c2c762c6c8", func := "flume/flumelaw06.FrameSizes", spec := "frameSizes", unfollowed := true, recurses := true, named := ["flume/frame.shapes", "flume/frame.flagBits"], apart := false, laid := [("flume/frame.flagBits", laid_flume_frame_flagBits), ("flume/frame.shapes", laid_flume_frame_shapes)] }
def FrameSizesSaid : Prop := frameSizesRow.holds Tryd.pinned (OpenSpec.ofChange frameSizesSpec)

/-- ITS FALSE NEIGHBOUR: 'it returns false'. Refute it at one input. -/
def frameSizesWrong : ChangeSpec := { name := "frameSizes", fn := fun _ => fun
  | [d1, d2, d3, d4] => { results := [.lit (.bool false)], args := [d1, d2, d3, d4] }
  | _ => none }
def FrameSizesWrongFalsely : Prop := frameSizesRow.holds Tryd.pinned (OpenSpec.ofChange frameSizesWrong)

/-- 'flumelaw06.FrameOpens': WHATEVER THE INPUT: true; the input reads as it did. -/
def frameOpensSpec : ChangeSpec := { name := "frameOpens", fn := fun _ => fun
  | [d1, d2, d3] => { results := [.lit (.bool true)], args := [d1, d2, d3] }
  | _ => none }
def frameOpensRow : OpenClaim := { program := "ytokbdkbljgdcpaadoor", sum := "cb6c6dd74612c63792c63b390d7f69082d5e0db7ae5331b14cdcd3c2c762c6c8", func := "flume/flumelaw06.FrameOpens", spec := "frameOpens", unfollowed := true, recurses := true, named := ["flume/frame.shapes", "flume/frame.flagBits"], apart := false, laid := [("flume/frame.flagBits", laid_flume_frame_flagBits), ("flume/frame.shapes", laid_flume_frame_shapes)] }
def FrameOpensSaid : Prop := frameOpensRow.holds Tryd.pinned (OpenSpec.ofChange frameOpensSpec)

/-- ITS FALSE NEIGHBOUR: 'it returns false'. Refute it at one input. -/
def frameOpensWrong : ChangeSpec := { name := "frameOpens", fn := fun _ => fun
  | [d1, d2, d3] => { results := [.lit (.bool false)], args := [d1, d2, d3] }
  | _ => none }
def FrameOpensWrongFalsely : Prop := frameOpensRow.holds Tryd.pinned (OpenSpec.ofChange frameOpensWrong)

/- THE SECOND FORM. 'bulk': how many values and letters a reading holds, each counted each time it is reached (what is shared counts as often as it is met; a slice's spare places count too). A statement '..UptoSaid' is the law's where the arguments, and the package variables that the reading takes, are together of bulk at most 1048576: NARROWER than '..Said'. Prove '..Said' where nothing that the law and all that it calls make is longer than what came in: it says more and counts as full. Else prove '..UptoSaid'. A law counts once. -/
mutual
def uptoBulk {H : Type} : DataW H → Nat
  | .lit (.string bytes) => bytes.length + 1
  | .lit _ => 1
  | .nil => 1
  | .ptr d => uptoBulk d + 1
  | .slice elems spare => uptoBulkAll elems + uptoBulkAll spare + 1
  | .agg parts => uptoBulkAll parts + 1
  | .iface _ d => uptoBulk d + 1
  | .map entries => uptoBulkEntries entries + 1
  | .held _ => 1
def uptoBulkAll {H : Type} : List (DataW H) → Nat
  | [] => 0
  | d :: r => uptoBulk d + uptoBulkAll r
def uptoBulkEntries {H : Type} : List (Lit × DataW H) → Nat
  | [] => 0
  | x :: r => uptoBulkEntry x + uptoBulkEntries r
def uptoBulkEntry {H : Type} : Lit × DataW H → Nat
  | (.string bytes, d) => bytes.length + uptoBulk d + 1
  | (_, d) => uptoBulk d + 1
 end
def uptoSmall : (H : Type) → List (DataW H) → Bool := fun _ ds => decide (uptoBulkAll ds ≤ 1048576)
def OpenSpec.upto (s : _root_.Go.ChangeSpec) : _root_.Go.OpenSpec := { _root_.Go.OpenSpec.ofChange s with cond := some uptoSmall }

/-- 'flumelaw06.FrameWrites', WHERE WHAT IT READS IS OF BULK AT MOST 1048576: true; the input reads as it did. -/
def frameWritesUptoRow : OpenClaim := { program := "ytokbdkbljgdcpaadoor", sum := "cb6c6dd74612c63792c63b390d7f69082d5e0db7ae5331b14cdcd3c2c762c6c8", func := "flume/flumelaw06.FrameWrites", spec := "frameWrites", unfollowed := true, recurses := true, named := ["flume/frame.shapes", "flume/frame.flagBits"], apart := false, laid := [("flume/frame.flagBits", laid_flume_frame_flagBits), ("flume/frame.shapes", laid_flume_frame_shapes)], narrowed := true }
def FrameWritesUptoSaid : Prop := frameWritesUptoRow.holds Tryd.pinned (OpenSpec.upto frameWritesSpec)

/-- 'flumelaw06.FrameReads', WHERE WHAT IT READS IS OF BULK AT MOST 1048576: true; the input reads as it did. -/
def frameReadsUptoRow : OpenClaim := { program := "ytokbdkbljgdcpaadoor", sum := "cb6c6dd74612c63792c63b390d7f69082d5e0db7ae5331b14cdcd3c2c762c6c8", func := "flume/flumelaw06.FrameReads", spec := "frameReads", unfollowed := true, recurses := true, named := ["flume/frame.shapes", "flume/frame.flagBits"], apart := false, laid := [("flume/frame.flagBits", laid_flume_frame_flagBits), ("flume/frame.shapes", laid_flume_frame_shapes)], narrowed := true }
def FrameReadsUptoSaid : Prop := frameReadsUptoRow.holds Tryd.pinned (OpenSpec.upto frameReadsSpec)

/-- 'flumelaw06.FrameBack', WHERE WHAT IT READS IS OF BULK AT MOST 1048576: true; the input reads as it did. -/
def frameBackUptoRow : OpenClaim := { program := "ytokbdkbljgdcpaadoor", sum := "cb6c6dd74612c63792c63b390d7f69082d5e0db7ae5331b14cdcd3c2c762c6c8", func := "flume/flumelaw06.FrameBack", spec := "frameBack", unfollowed := true, recurses := true, named := ["flume/frame.shapes", "flume/frame.flagBits"], apart := false, laid := [("flume/frame.flagBits", laid_flume_frame_flagBits), ("flume/frame.shapes", laid_flume_frame_shapes)], narrowed := true }
def FrameBackUptoSaid : Prop := frameBackUptoRow.holds Tryd.pinned (OpenSpec.upto frameBackSpec)

/-- 'flumelaw06.FramePieces', WHERE WHAT IT READS IS OF BULK AT MOST 1048576: true; the input reads as it did. -/
def framePiecesUptoRow : OpenClaim := { program := "ytokbdkbljgdcpaadoor", sum := "cb6c6dd74612c63792c63b390d7f69082d5e0db7ae5331b14cdcd3c2c762c6c8", func := "flume/flumelaw06.FramePieces", spec := "framePieces", unfollowed := true, recurses := true, named := ["flume/frame.shapes", "flume/frame.flagBits"], apart := false, laid := [("flume/frame.flagBits", laid_flume_frame_flagBits), ("flume/frame.shapes", laid_flume_frame_shapes)], narrowed := true }
def FramePiecesUptoSaid : Prop := framePiecesUptoRow.holds Tryd.pinned (OpenSpec.upto framePiecesSpec)

/-- 'flumelaw06.FrameAgain', WHERE WHAT IT READS IS OF BULK AT MOST 1048576: true; the input reads as it did. -/
def frameAgainUptoRow : OpenClaim := { program := "ytokbdkbljgdcpaadoor", sum := "cb6c6dd74612c63792c63b390d7f69082d5e0db7ae5331b14cdcd3c2c762c6c8", func := "flume/flumelaw06.FrameAgain", spec := "frameAgain", unfollowed := true, recurses := true, named := ["flume/frame.shapes", "flume/frame.flagBits"], apart := false, laid := [("flume/frame.flagBits", laid_flume_frame_flagBits), ("flume/frame.shapes", laid_flume_frame_shapes)], narrowed := true }
def FrameAgainUptoSaid : Prop := frameAgainUptoRow.holds Tryd.pinned (OpenSpec.upto frameAgainSpec)

/-- 'flumelaw06.FrameHeld', WHERE WHAT IT READS IS OF BULK AT MOST 1048576: true; the input reads as it did. -/
def frameHeldUptoRow : OpenClaim := { program := "ytokbdkbljgdcpaadoor", sum := "cb6c6dd74612c63792c63b390d7f69082d5e0db7ae5331b14cdcd3c2c762c6c8", func := "flume/flumelaw06.FrameHeld", spec := "frameHeld", unfollowed := true, recurses := true, named := ["flume/frame.shapes", "flume/frame.flagBits"], apart := false, laid := [("flume/frame.flagBits", laid_flume_frame_flagBits), ("flume/frame.shapes", laid_flume_frame_shapes)], narrowed := true }
def FrameHeldUptoSaid : Prop := frameHeldUptoRow.holds Tryd.pinned (OpenSpec.upto frameHeldSpec)

/-- 'flumelaw06.FrameStreams', WHERE WHAT IT READS IS OF BULK AT MOST 1048576: true; the input reads as it did. -/
def frameStreamsUptoRow : OpenClaim := { program := "ytokbdkbljgdcpaadoor", sum := "cb6c6dd74612c63792c63b390d7f69082d5e0db7ae5331b14cdcd3c2c762c6c8", func := "flume/flumelaw06.FrameStreams", spec := "frameStreams", unfollowed := true, recurses := true, named := ["flume/frame.shapes", "flume/frame.flagBits"], apart := false, laid := [("flume/frame.flagBits", laid_flume_frame_flagBits), ("flume/frame.shapes", laid_flume_frame_shapes)], narrowed := true }
def FrameStreamsUptoSaid : Prop := frameStreamsUptoRow.holds Tryd.pinned (OpenSpec.upto frameStreamsSpec)

/-- 'flumelaw06.FrameSizes', WHERE WHAT IT READS IS OF BULK AT MOST 1048576: true; the input reads as it did. -/
def frameSizesUptoRow : OpenClaim := { program := "ytokbdkbljgdcpaadoor", sum := "cb6c6dd74612c63792c63b390d7f69082d5e0db7ae5331b14cdcd3c2c762c6c8", func := "flume/flumelaw06.FrameSizes", spec := "frameSizes", unfollowed := true, recurses := true, named := ["flume/frame.shapes", "flume/frame.flagBits"], apart := false, laid := [("flume/frame.flagBits", laid_flume_frame_flagBits), ("flume/frame.shapes", laid_flume_frame_shapes)], narrowed := true }
def FrameSizesUptoSaid : Prop := frameSizesUptoRow.holds Tryd.pinned (OpenSpec.upto frameSizesSpec)

/-- 'flumelaw06.FrameOpens', WHERE WHAT IT READS IS OF BULK AT MOST 1048576: true; the input reads as it did. -/
def frameOpensUptoRow : OpenClaim := { program := "ytokbdkbljgdcpaadoor", sum := "cb6c6dd74612c63792c63b390d7f69082d5e0db7ae5331b14cdcd3c2c762c6c8", func := "flume/flumelaw06.FrameOpens", spec := "frameOpens", unfollowed := true, recurses := true, named := ["flume/frame.shapes", "flume/frame.flagBits"], apart := false, laid := [("flume/frame.flagBits", laid_flume_frame_flagBits), ("flume/frame.shapes", laid_flume_frame_shapes)], narrowed := true }
def FrameOpensUptoSaid : Prop := frameOpensUptoRow.holds Tryd.pinned (OpenSpec.upto frameOpensSpec)

end Rows
end Go.Proofs.YtokbdkbljgdcpaaDoor
