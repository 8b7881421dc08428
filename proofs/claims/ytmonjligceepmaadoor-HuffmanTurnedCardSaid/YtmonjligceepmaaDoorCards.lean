/-
  DERIVED. GIVEN WITH THE SEED: THE CARDS: each row of YtmonjligceepmaaDoorRows.lean that lists a variable, with what it lists TIED to the program's text (the seventh form; the later family's looks); each row that meets fmt, with fmt's text TOLD by the authors' own Lean function (tested against real Go, not proved from fmt's source: count such statements apart). THE CARD IS WHAT COUNTS. Prove the row's statement (the work); the ties are given (YtmonjligceepmaaDoorTie.lean); close each card by the builder's one call (the guide's Derived/Test/ToyasCard.lean, 'card_holds'). Laid BY PROGRAM, IN A SANDBOX (cutbox-door.mjs). By AI agents, Wed Nov 11 2026. No macro, syntax, notation, axiom, sorry.
-/
import Derived.Test.YtmonjligceepmaaDoorRows
import GoSem.ClaimSeven
namespace Go.Proofs.YtmonjligceepmaaDoor
namespace Rows

/-- THE TIED CARD OF 'flumelaw02.HuffmanCodes'. -/
def huffmanCodesCard : Claim7 := { stood := { row := huffmanCodesRow, standIns := [], harness := (true, "714100a9d2575969e7fdf369b69d66038a1e2a68f3da395beef37c2a42b5c481"), looks := false }, kinds := [], alts := [], laidByText := true, laidKinds := [.data], laidTests := true, laidLooks := .later }
def HuffmanCodesCardSaid : Prop := Claim7.holds Tryd.pinned (.plain (OpenSpec.ofChange huffmanCodesSpec)) huffmanCodesCard

/-- THE TIED CARD OF 'flumelaw02.HuffmanWrites'. -/
def huffmanWritesCard : Claim7 := { stood := { row := huffmanWritesRow, standIns := [], harness := (true, "714100a9d2575969e7fdf369b69d66038a1e2a68f3da395beef37c2a42b5c481"), looks := false }, kinds := [], alts := [], laidByText := true, laidKinds := [.data], laidTests := true, laidLooks := .later }
def HuffmanWritesCardSaid : Prop := Claim7.holds Tryd.pinned (.plain (OpenSpec.ofChange huffmanWritesSpec)) huffmanWritesCard

/-- THE TIED CARD OF 'flumelaw02.HuffmanReads'. -/
def huffmanReadsCard : Claim7 := { stood := { row := huffmanReadsRow, standIns := [], harness := (true, "714100a9d2575969e7fdf369b69d66038a1e2a68f3da395beef37c2a42b5c481"), looks := false }, kinds := [], alts := [], laidByText := true, laidKinds := [.data], laidTests := true, laidLooks := .later }
def HuffmanReadsCardSaid : Prop := Claim7.holds Tryd.pinned (.plain (OpenSpec.ofChange huffmanReadsSpec)) huffmanReadsCard

/-- THE TIED CARD OF 'flumelaw02.HuffmanBack'. -/
def huffmanBackCard : Claim7 := { stood := { row := huffmanBackRow, standIns := [], harness := (true, "714100a9d2575969e7fdf369b69d66038a1e2a68f3da395beef37c2a42b5c481"), looks := false }, kinds := [], alts := [], laidByText := true, laidKinds := [.data], laidTests := true, laidLooks := .later }
def HuffmanBackCardSaid : Prop := Claim7.holds Tryd.pinned (.plain (OpenSpec.ofChange huffmanBackSpec)) huffmanBackCard

/-- THE TIED CARD OF 'flumelaw02.HuffmanOne'. -/
def huffmanOneCard : Claim7 := { stood := { row := huffmanOneRow, standIns := [], harness := (true, "714100a9d2575969e7fdf369b69d66038a1e2a68f3da395beef37c2a42b5c481"), looks := false }, kinds := [], alts := [], laidByText := true, laidKinds := [.data], laidTests := true, laidLooks := .later }
def HuffmanOneCardSaid : Prop := Claim7.holds Tryd.pinned (.plain (OpenSpec.ofChange huffmanOneSpec)) huffmanOneCard

/-- THE TIED CARD OF 'flumelaw02.HuffmanPrefix'. -/
def huffmanPrefixCard : Claim7 := { stood := { row := huffmanPrefixRow, standIns := [], harness := (true, "714100a9d2575969e7fdf369b69d66038a1e2a68f3da395beef37c2a42b5c481"), looks := false }, kinds := [], alts := [], laidByText := true, laidKinds := [.data], laidTests := true, laidLooks := .later }
def HuffmanPrefixCardSaid : Prop := Claim7.holds Tryd.pinned (.plain (OpenSpec.ofChange huffmanPrefixSpec)) huffmanPrefixCard

/-- THE TIED CARD OF 'flumelaw02.HuffmanSizes'. -/
def huffmanSizesCard : Claim7 := { stood := { row := huffmanSizesRow, standIns := [], harness := (true, "714100a9d2575969e7fdf369b69d66038a1e2a68f3da395beef37c2a42b5c481"), looks := false }, kinds := [], alts := [], laidByText := true, laidKinds := [.data], laidTests := true, laidLooks := .later }
def HuffmanSizesCardSaid : Prop := Claim7.holds Tryd.pinned (.plain (OpenSpec.ofChange huffmanSizesSpec)) huffmanSizesCard

/-- THE TIED CARD OF 'flumelaw02.HuffmanTurned'. -/
def huffmanTurnedCard : Claim7 := { stood := { row := huffmanTurnedRow, standIns := [], harness := (true, "714100a9d2575969e7fdf369b69d66038a1e2a68f3da395beef37c2a42b5c481"), looks := false }, kinds := [], alts := [], laidByText := true, laidKinds := [.data], laidTests := true, laidLooks := .later }
def HuffmanTurnedCardSaid : Prop := Claim7.holds Tryd.pinned (.plain (OpenSpec.ofChange huffmanTurnedSpec)) huffmanTurnedCard

/-- THE SECOND FORM's CARD OF 'flumelaw02.HuffmanCodes'. -/
def huffmanCodesUptoCard : Claim7 := { stood := { row := huffmanCodesUptoRow, standIns := [], harness := (true, "714100a9d2575969e7fdf369b69d66038a1e2a68f3da395beef37c2a42b5c481"), looks := false }, kinds := [], alts := [], laidByText := true, laidKinds := [.data], laidTests := true, laidLooks := .later }
def HuffmanCodesUptoCardSaid : Prop := Claim7.holds Tryd.pinned (.plain (OpenSpec.upto huffmanCodesSpec)) huffmanCodesUptoCard

/-- THE SECOND FORM's CARD OF 'flumelaw02.HuffmanWrites'. -/
def huffmanWritesUptoCard : Claim7 := { stood := { row := huffmanWritesUptoRow, standIns := [], harness := (true, "714100a9d2575969e7fdf369b69d66038a1e2a68f3da395beef37c2a42b5c481"), looks := false }, kinds := [], alts := [], laidByText := true, laidKinds := [.data], laidTests := true, laidLooks := .later }
def HuffmanWritesUptoCardSaid : Prop := Claim7.holds Tryd.pinned (.plain (OpenSpec.upto huffmanWritesSpec)) huffmanWritesUptoCard

/-- THE SECOND FORM's CARD OF 'flumelaw02.HuffmanReads'. -/
def huffmanReadsUptoCard : Claim7 := { stood := { row := huffmanReadsUptoRow, standIns := [], harness := (true, "714100a9d2575969e7fdf369b69d66038a1e2a68f3da395beef37c2a42b5c481"), looks := false }, kinds := [], alts := [], laidByText := true, laidKinds := [.data], laidTests := true, laidLooks := .later }
def HuffmanReadsUptoCardSaid : Prop := Claim7.holds Tryd.pinned (.plain (OpenSpec.upto huffmanReadsSpec)) huffmanReadsUptoCard

/-- THE SECOND FORM's CARD OF 'flumelaw02.HuffmanBack'. -/
def huffmanBackUptoCard : Claim7 := { stood := { row := huffmanBackUptoRow, standIns := [], harness := (true, "714100a9d2575969e7fdf369b69d66038a1e2a68f3da395beef37c2a42b5c481"), looks := false }, kinds := [], alts := [], laidByText := true, laidKinds := [.data], laidTests := true, laidLooks := .later }
def HuffmanBackUptoCardSaid : Prop := Claim7.holds Tryd.pinned (.plain (OpenSpec.upto huffmanBackSpec)) huffmanBackUptoCard

/-- THE SECOND FORM's CARD OF 'flumelaw02.HuffmanOne'. -/
def huffmanOneUptoCard : Claim7 := { stood := { row := huffmanOneUptoRow, standIns := [], harness := (true, "714100a9d2575969e7fdf369b69d66038a1e2a68f3da395beef37c2a42b5c481"), looks := false }, kinds := [], alts := [], laidByText := true, laidKinds := [.data], laidTests := true, laidLooks := .later }
def HuffmanOneUptoCardSaid : Prop := Claim7.holds Tryd.pinned (.plain (OpenSpec.upto huffmanOneSpec)) huffmanOneUptoCard

/-- THE SECOND FORM's CARD OF 'flumelaw02.HuffmanPrefix'. -/
def huffmanPrefixUptoCard : Claim7 := { stood := { row := huffmanPrefixUptoRow, standIns := [], harness := (true, "714100a9d2575969e7fdf369b69d66038a1e2a68f3da395beef37c2a42b5c481"), looks := false }, kinds := [], alts := [], laidByText := true, laidKinds := [.data], laidTests := true, laidLooks := .later }
def HuffmanPrefixUptoCardSaid : Prop := Claim7.holds Tryd.pinned (.plain (OpenSpec.upto huffmanPrefixSpec)) huffmanPrefixUptoCard

/-- THE SECOND FORM's CARD OF 'flumelaw02.HuffmanSizes'. -/
def huffmanSizesUptoCard : Claim7 := { stood := { row := huffmanSizesUptoRow, standIns := [], harness := (true, "714100a9d2575969e7fdf369b69d66038a1e2a68f3da395beef37c2a42b5c481"), looks := false }, kinds := [], alts := [], laidByText := true, laidKinds := [.data], laidTests := true, laidLooks := .later }
def HuffmanSizesUptoCardSaid : Prop := Claim7.holds Tryd.pinned (.plain (OpenSpec.upto huffmanSizesSpec)) huffmanSizesUptoCard

/-- THE SECOND FORM's CARD OF 'flumelaw02.HuffmanTurned'. -/
def huffmanTurnedUptoCard : Claim7 := { stood := { row := huffmanTurnedUptoRow, standIns := [], harness := (true, "714100a9d2575969e7fdf369b69d66038a1e2a68f3da395beef37c2a42b5c481"), looks := false }, kinds := [], alts := [], laidByText := true, laidKinds := [.data], laidTests := true, laidLooks := .later }
def HuffmanTurnedUptoCardSaid : Prop := Claim7.holds Tryd.pinned (.plain (OpenSpec.upto huffmanTurnedSpec)) huffmanTurnedUptoCard
end Rows
end Go.Proofs.YtmonjligceepmaaDoor
