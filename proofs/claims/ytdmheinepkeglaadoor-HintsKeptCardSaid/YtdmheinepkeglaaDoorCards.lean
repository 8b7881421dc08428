/-
  DERIVED. GIVEN WITH THE SEED: THE CARDS: each row of YtdmheinepkeglaaDoorRows.lean that lists a variable, with what it lists TIED to the program's text (the seventh form; the later family's looks); each row that meets fmt, with fmt's text TOLD by the authors' own Lean function (tested against real Go, not proved from fmt's source: count such statements apart). THE CARD IS WHAT COUNTS. Prove the row's statement (the work); the ties are given (YtdmheinepkeglaaDoorTie.lean); close each card by the builder's one call (the guide's Derived/Test/ToyasCard.lean, 'card_holds'). Laid BY PROGRAM, IN A SANDBOX (cutbox-door.mjs). By AI agents, Wed Nov 11 2026. No macro, syntax, notation, axiom, sorry.
-/
import Derived.Test.YtdmheinepkeglaaDoorRows
import GoSem.ClaimSeven
namespace Go.Proofs.YtdmheinepkeglaaDoor
namespace Rows

/-- THE TIED CARD OF 'flumelaw03.HintsWrites'. -/
def hintsWritesCard : Claim7 := { stood := { row := hintsWritesRow, standIns := [], harness := (true, "0966d811f7d2ccd1f7973e1f7b9b02d3adc10273f0faa5421860f6d08b2a57bc"), looks := true }, kinds := [], alts := [], laidByText := true, laidKinds := [.data], laidTests := true, laidLooks := .later }
def HintsWritesCardSaid : Prop := Claim7.holds Tryd.pinned (.plain (OpenSpec.ofChange hintsWritesSpec)) hintsWritesCard

/-- THE TIED CARD OF 'flumelaw03.HintsReads'. -/
def hintsReadsCard : Claim7 := { stood := { row := hintsReadsRow, standIns := [], harness := (true, "0966d811f7d2ccd1f7973e1f7b9b02d3adc10273f0faa5421860f6d08b2a57bc"), looks := true }, kinds := [], alts := [], laidByText := true, laidKinds := [.data], laidTests := true, laidLooks := .later }
def HintsReadsCardSaid : Prop := Claim7.holds Tryd.pinned (.plain (OpenSpec.ofChange hintsReadsSpec)) hintsReadsCard

/-- THE TIED CARD OF 'flumelaw03.HintsTexts'. -/
def hintsTextsCard : Claim7 := { stood := { row := hintsTextsRow, standIns := [], harness := (true, "0966d811f7d2ccd1f7973e1f7b9b02d3adc10273f0faa5421860f6d08b2a57bc"), looks := true }, kinds := [], alts := [], laidByText := true, laidKinds := [.data], laidTests := true, laidLooks := .later }
def HintsTextsCardSaid : Prop := Claim7.holds Tryd.pinned (.plain (OpenSpec.ofChange hintsTextsSpec)) hintsTextsCard

/-- THE TIED CARD OF 'flumelaw03.HintsBack'. -/
def hintsBackCard : Claim7 := { stood := { row := hintsBackRow, standIns := [], harness := (true, "0966d811f7d2ccd1f7973e1f7b9b02d3adc10273f0faa5421860f6d08b2a57bc"), looks := true }, kinds := [], alts := [], laidByText := true, laidKinds := [.data], laidTests := true, laidLooks := .later }
def HintsBackCardSaid : Prop := Claim7.holds Tryd.pinned (.plain (OpenSpec.ofChange hintsBackSpec)) hintsBackCard

/-- THE TIED CARD OF 'flumelaw03.HintsLeast'. -/
def hintsLeastCard : Claim7 := { stood := { row := hintsLeastRow, standIns := [], harness := (true, "0966d811f7d2ccd1f7973e1f7b9b02d3adc10273f0faa5421860f6d08b2a57bc"), looks := true }, kinds := [], alts := [], laidByText := true, laidKinds := [.data], laidTests := true, laidLooks := .later }
def HintsLeastCardSaid : Prop := Claim7.holds Tryd.pinned (.plain (OpenSpec.ofChange hintsLeastSpec)) hintsLeastCard

/-- THE TIED CARD OF 'flumelaw03.HintsKept'. -/
def hintsKeptCard : Claim7 := { stood := { row := hintsKeptRow, standIns := [], harness := (true, "0966d811f7d2ccd1f7973e1f7b9b02d3adc10273f0faa5421860f6d08b2a57bc"), looks := true }, kinds := [], alts := [], laidByText := true, laidKinds := [.data], laidTests := true, laidLooks := .later }
def HintsKeptCardSaid : Prop := Claim7.holds Tryd.pinned (.plain (OpenSpec.ofChange hintsKeptSpec)) hintsKeptCard

/-- THE SECOND FORM's CARD OF 'flumelaw03.HintsWrites'. -/
def hintsWritesUptoCard : Claim7 := { stood := { row := hintsWritesUptoRow, standIns := [], harness := (true, "0966d811f7d2ccd1f7973e1f7b9b02d3adc10273f0faa5421860f6d08b2a57bc"), looks := true }, kinds := [], alts := [], laidByText := true, laidKinds := [.data], laidTests := true, laidLooks := .later }
def HintsWritesUptoCardSaid : Prop := Claim7.holds Tryd.pinned (.plain (OpenSpec.upto hintsWritesSpec)) hintsWritesUptoCard

/-- THE SECOND FORM's CARD OF 'flumelaw03.HintsReads'. -/
def hintsReadsUptoCard : Claim7 := { stood := { row := hintsReadsUptoRow, standIns := [], harness := (true, "0966d811f7d2ccd1f7973e1f7b9b02d3adc10273f0faa5421860f6d08b2a57bc"), looks := true }, kinds := [], alts := [], laidByText := true, laidKinds := [.data], laidTests := true, laidLooks := .later }
def HintsReadsUptoCardSaid : Prop := Claim7.holds Tryd.pinned (.plain (OpenSpec.upto hintsReadsSpec)) hintsReadsUptoCard

/-- THE SECOND FORM's CARD OF 'flumelaw03.HintsTexts'. -/
def hintsTextsUptoCard : Claim7 := { stood := { row := hintsTextsUptoRow, standIns := [], harness := (true, "0966d811f7d2ccd1f7973e1f7b9b02d3adc10273f0faa5421860f6d08b2a57bc"), looks := true }, kinds := [], alts := [], laidByText := true, laidKinds := [.data], laidTests := true, laidLooks := .later }
def HintsTextsUptoCardSaid : Prop := Claim7.holds Tryd.pinned (.plain (OpenSpec.upto hintsTextsSpec)) hintsTextsUptoCard

/-- THE SECOND FORM's CARD OF 'flumelaw03.HintsBack'. -/
def hintsBackUptoCard : Claim7 := { stood := { row := hintsBackUptoRow, standIns := [], harness := (true, "0966d811f7d2ccd1f7973e1f7b9b02d3adc10273f0faa5421860f6d08b2a57bc"), looks := true }, kinds := [], alts := [], laidByText := true, laidKinds := [.data], laidTests := true, laidLooks := .later }
def HintsBackUptoCardSaid : Prop := Claim7.holds Tryd.pinned (.plain (OpenSpec.upto hintsBackSpec)) hintsBackUptoCard

/-- THE SECOND FORM's CARD OF 'flumelaw03.HintsLeast'. -/
def hintsLeastUptoCard : Claim7 := { stood := { row := hintsLeastUptoRow, standIns := [], harness := (true, "0966d811f7d2ccd1f7973e1f7b9b02d3adc10273f0faa5421860f6d08b2a57bc"), looks := true }, kinds := [], alts := [], laidByText := true, laidKinds := [.data], laidTests := true, laidLooks := .later }
def HintsLeastUptoCardSaid : Prop := Claim7.holds Tryd.pinned (.plain (OpenSpec.upto hintsLeastSpec)) hintsLeastUptoCard

/-- THE SECOND FORM's CARD OF 'flumelaw03.HintsKept'. -/
def hintsKeptUptoCard : Claim7 := { stood := { row := hintsKeptUptoRow, standIns := [], harness := (true, "0966d811f7d2ccd1f7973e1f7b9b02d3adc10273f0faa5421860f6d08b2a57bc"), looks := true }, kinds := [], alts := [], laidByText := true, laidKinds := [.data], laidTests := true, laidLooks := .later }
def HintsKeptUptoCardSaid : Prop := Claim7.holds Tryd.pinned (.plain (OpenSpec.upto hintsKeptSpec)) hintsKeptUptoCard
end Rows
end Go.Proofs.YtdmheinepkeglaaDoor
