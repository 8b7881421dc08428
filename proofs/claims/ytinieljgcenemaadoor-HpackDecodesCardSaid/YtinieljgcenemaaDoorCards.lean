/-
  DERIVED. GIVEN WITH THE SEED: THE CARDS: each row of YtinieljgcenemaaDoorRows.lean that lists a variable, with what it lists TIED to the program's text (the seventh form; the later family's looks); each row that meets fmt, with fmt's text TOLD by the authors' own Lean function (tested against real Go, not proved from fmt's source: count such statements apart). THE CARD IS WHAT COUNTS. Prove the row's statement (the work); the ties are given (YtinieljgcenemaaDoorTie.lean); close each card by the builder's one call (the guide's Derived/Test/ToyasCard.lean, 'card_holds'). Laid BY PROGRAM, IN A SANDBOX (cutbox-door.mjs). By AI agents, Wed Nov 11 2026. No macro, syntax, notation, axiom, sorry.
-/
import Derived.Test.YtinieljgcenemaaDoorRows
import GoSem.ClaimSeven
namespace Go.Proofs.YtinieljgcenemaaDoor
namespace Rows

/-- THE TIED CARD OF 'flumelaw05.HpackEncodes'. -/
def hpackEncodesCard : Claim7 := { stood := { row := hpackEncodesRow, standIns := [], harness := (true, "abc963fdf31c3c5838a958111b5326a34370fcffc5debeaceedca26ab9fee26d"), looks := true }, kinds := [], alts := [], laidByText := true, laidKinds := [.data], laidTests := true, laidLooks := .later }
def HpackEncodesCardSaid : Prop := Claim7.holds Tryd.pinned (.plain (OpenSpec.ofChange hpackEncodesSpec)) hpackEncodesCard

/-- THE TIED CARD OF 'flumelaw05.HpackDecodes'. -/
def hpackDecodesCard : Claim7 := { stood := { row := hpackDecodesRow, standIns := [], harness := (true, "abc963fdf31c3c5838a958111b5326a34370fcffc5debeaceedca26ab9fee26d"), looks := true }, kinds := [], alts := [], laidByText := true, laidKinds := [.data], laidTests := true, laidLooks := .later }
def HpackDecodesCardSaid : Prop := Claim7.holds Tryd.pinned (.plain (OpenSpec.ofChange hpackDecodesSpec)) hpackDecodesCard

/-- THE TIED CARD OF 'flumelaw05.HpackBack'. -/
def hpackBackCard : Claim7 := { stood := { row := hpackBackRow, standIns := [], harness := (true, "abc963fdf31c3c5838a958111b5326a34370fcffc5debeaceedca26ab9fee26d"), looks := true }, kinds := [], alts := [], laidByText := true, laidKinds := [.data], laidTests := true, laidLooks := .later }
def HpackBackCardSaid : Prop := Claim7.holds Tryd.pinned (.plain (OpenSpec.ofChange hpackBackSpec)) hpackBackCard

/-- THE TIED CARD OF 'flumelaw05.HpackJoins'. -/
def hpackJoinsCard : Claim7 := { stood := { row := hpackJoinsRow, standIns := [], harness := (true, "abc963fdf31c3c5838a958111b5326a34370fcffc5debeaceedca26ab9fee26d"), looks := true }, kinds := [], alts := [], laidByText := true, laidKinds := [.data], laidTests := true, laidLooks := .later }
def HpackJoinsCardSaid : Prop := Claim7.holds Tryd.pinned (.plain (OpenSpec.ofChange hpackJoinsSpec)) hpackJoinsCard

/-- THE TIED CARD OF 'flumelaw05.HpackNever'. -/
def hpackNeverCard : Claim7 := { stood := { row := hpackNeverRow, standIns := [], harness := (true, "abc963fdf31c3c5838a958111b5326a34370fcffc5debeaceedca26ab9fee26d"), looks := true }, kinds := [], alts := [], laidByText := true, laidKinds := [.data], laidTests := true, laidLooks := .later }
def HpackNeverCardSaid : Prop := Claim7.holds Tryd.pinned (.plain (OpenSpec.ofChange hpackNeverSpec)) hpackNeverCard

/-- THE TIED CARD OF 'flumelaw05.HpackLong'. -/
def hpackLongCard : Claim7 := { stood := { row := hpackLongRow, standIns := [], harness := (true, "abc963fdf31c3c5838a958111b5326a34370fcffc5debeaceedca26ab9fee26d"), looks := true }, kinds := [], alts := [], laidByText := true, laidKinds := [.data], laidTests := true, laidLooks := .later }
def HpackLongCardSaid : Prop := Claim7.holds Tryd.pinned (.plain (OpenSpec.ofChange hpackLongSpec)) hpackLongCard

/-- THE TIED CARD OF 'flumelaw05.HpackBroken'. -/
def hpackBrokenCard : Claim7 := { stood := { row := hpackBrokenRow, standIns := [], harness := (true, "abc963fdf31c3c5838a958111b5326a34370fcffc5debeaceedca26ab9fee26d"), looks := true }, kinds := [], alts := [], laidByText := true, laidKinds := [.data], laidTests := true, laidLooks := .later }
def HpackBrokenCardSaid : Prop := Claim7.holds Tryd.pinned (.plain (OpenSpec.ofChange hpackBrokenSpec)) hpackBrokenCard

/-- THE TIED CARD OF 'flumelaw05.HpackLimits'. -/
def hpackLimitsCard : Claim7 := { stood := { row := hpackLimitsRow, standIns := [], harness := (true, "abc963fdf31c3c5838a958111b5326a34370fcffc5debeaceedca26ab9fee26d"), looks := true }, kinds := [], alts := [], laidByText := true, laidKinds := [.data], laidTests := true, laidLooks := .later }
def HpackLimitsCardSaid : Prop := Claim7.holds Tryd.pinned (.plain (OpenSpec.ofChange hpackLimitsSpec)) hpackLimitsCard

/-- THE TIED CARD OF 'flumelaw05.HpackShort'. -/
def hpackShortCard : Claim7 := { stood := { row := hpackShortRow, standIns := [], harness := (true, "abc963fdf31c3c5838a958111b5326a34370fcffc5debeaceedca26ab9fee26d"), looks := true }, kinds := [], alts := [], laidByText := true, laidKinds := [.data], laidTests := true, laidLooks := .later }
def HpackShortCardSaid : Prop := Claim7.holds Tryd.pinned (.plain (OpenSpec.ofChange hpackShortSpec)) hpackShortCard

/-- THE SECOND FORM's CARD OF 'flumelaw05.HpackEncodes'. -/
def hpackEncodesUptoCard : Claim7 := { stood := { row := hpackEncodesUptoRow, standIns := [], harness := (true, "abc963fdf31c3c5838a958111b5326a34370fcffc5debeaceedca26ab9fee26d"), looks := true }, kinds := [], alts := [], laidByText := true, laidKinds := [.data], laidTests := true, laidLooks := .later }
def HpackEncodesUptoCardSaid : Prop := Claim7.holds Tryd.pinned (.plain (OpenSpec.upto hpackEncodesSpec)) hpackEncodesUptoCard

/-- THE SECOND FORM's CARD OF 'flumelaw05.HpackDecodes'. -/
def hpackDecodesUptoCard : Claim7 := { stood := { row := hpackDecodesUptoRow, standIns := [], harness := (true, "abc963fdf31c3c5838a958111b5326a34370fcffc5debeaceedca26ab9fee26d"), looks := true }, kinds := [], alts := [], laidByText := true, laidKinds := [.data], laidTests := true, laidLooks := .later }
def HpackDecodesUptoCardSaid : Prop := Claim7.holds Tryd.pinned (.plain (OpenSpec.upto hpackDecodesSpec)) hpackDecodesUptoCard

/-- THE SECOND FORM's CARD OF 'flumelaw05.HpackBack'. -/
def hpackBackUptoCard : Claim7 := { stood := { row := hpackBackUptoRow, standIns := [], harness := (true, "abc963fdf31c3c5838a958111b5326a34370fcffc5debeaceedca26ab9fee26d"), looks := true }, kinds := [], alts := [], laidByText := true, laidKinds := [.data], laidTests := true, laidLooks := .later }
def HpackBackUptoCardSaid : Prop := Claim7.holds Tryd.pinned (.plain (OpenSpec.upto hpackBackSpec)) hpackBackUptoCard

/-- THE SECOND FORM's CARD OF 'flumelaw05.HpackJoins'. -/
def hpackJoinsUptoCard : Claim7 := { stood := { row := hpackJoinsUptoRow, standIns := [], harness := (true, "abc963fdf31c3c5838a958111b5326a34370fcffc5debeaceedca26ab9fee26d"), looks := true }, kinds := [], alts := [], laidByText := true, laidKinds := [.data], laidTests := true, laidLooks := .later }
def HpackJoinsUptoCardSaid : Prop := Claim7.holds Tryd.pinned (.plain (OpenSpec.upto hpackJoinsSpec)) hpackJoinsUptoCard

/-- THE SECOND FORM's CARD OF 'flumelaw05.HpackNever'. -/
def hpackNeverUptoCard : Claim7 := { stood := { row := hpackNeverUptoRow, standIns := [], harness := (true, "abc963fdf31c3c5838a958111b5326a34370fcffc5debeaceedca26ab9fee26d"), looks := true }, kinds := [], alts := [], laidByText := true, laidKinds := [.data], laidTests := true, laidLooks := .later }
def HpackNeverUptoCardSaid : Prop := Claim7.holds Tryd.pinned (.plain (OpenSpec.upto hpackNeverSpec)) hpackNeverUptoCard

/-- THE SECOND FORM's CARD OF 'flumelaw05.HpackLong'. -/
def hpackLongUptoCard : Claim7 := { stood := { row := hpackLongUptoRow, standIns := [], harness := (true, "abc963fdf31c3c5838a958111b5326a34370fcffc5debeaceedca26ab9fee26d"), looks := true }, kinds := [], alts := [], laidByText := true, laidKinds := [.data], laidTests := true, laidLooks := .later }
def HpackLongUptoCardSaid : Prop := Claim7.holds Tryd.pinned (.plain (OpenSpec.upto hpackLongSpec)) hpackLongUptoCard

/-- THE SECOND FORM's CARD OF 'flumelaw05.HpackBroken'. -/
def hpackBrokenUptoCard : Claim7 := { stood := { row := hpackBrokenUptoRow, standIns := [], harness := (true, "abc963fdf31c3c5838a958111b5326a34370fcffc5debeaceedca26ab9fee26d"), looks := true }, kinds := [], alts := [], laidByText := true, laidKinds := [.data], laidTests := true, laidLooks := .later }
def HpackBrokenUptoCardSaid : Prop := Claim7.holds Tryd.pinned (.plain (OpenSpec.upto hpackBrokenSpec)) hpackBrokenUptoCard

/-- THE SECOND FORM's CARD OF 'flumelaw05.HpackLimits'. -/
def hpackLimitsUptoCard : Claim7 := { stood := { row := hpackLimitsUptoRow, standIns := [], harness := (true, "abc963fdf31c3c5838a958111b5326a34370fcffc5debeaceedca26ab9fee26d"), looks := true }, kinds := [], alts := [], laidByText := true, laidKinds := [.data], laidTests := true, laidLooks := .later }
def HpackLimitsUptoCardSaid : Prop := Claim7.holds Tryd.pinned (.plain (OpenSpec.upto hpackLimitsSpec)) hpackLimitsUptoCard

/-- THE SECOND FORM's CARD OF 'flumelaw05.HpackShort'. -/
def hpackShortUptoCard : Claim7 := { stood := { row := hpackShortUptoRow, standIns := [], harness := (true, "abc963fdf31c3c5838a958111b5326a34370fcffc5debeaceedca26ab9fee26d"), looks := true }, kinds := [], alts := [], laidByText := true, laidKinds := [.data], laidTests := true, laidLooks := .later }
def HpackShortUptoCardSaid : Prop := Claim7.holds Tryd.pinned (.plain (OpenSpec.upto hpackShortSpec)) hpackShortUptoCard
end Rows
end Go.Proofs.YtinieljgcenemaaDoor
