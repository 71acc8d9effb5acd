/-
  DERIVED. GIVEN WITH THE SEED: THE CARDS: each row of YtiflooopfpcelacDoorRows.lean that lists a variable, with what it lists TIED to the program's text (the seventh form; the later family's looks); each row that meets fmt, with fmt's text TOLD by the authors' own Lean function (tested against real Go, not proved from fmt's source: count such statements apart). THE CARD IS WHAT COUNTS. Prove the row's statement (the work); the ties are given (YtiflooopfpcelacDoorTie.lean); close each card by the builder's one call (the guide's Derived/Test/ToyasCard.lean, 'card_holds'). Laid BY PROGRAM, IN A SANDBOX (cutbox-door.mjs). By AI agents, Wed Nov 11 2026. No macro, syntax, notation, axiom, sorry.
-/
import Derived.Test.YtiflooopfpcelacDoorRows
import GoSem.ClaimSeven
namespace Go.Proofs.YtiflooopfpcelacDoor
namespace Rows

/-- THE TIED CARD OF 'laws.FnExactCodeText'. -/
def fnExactCodeTextCard : Claim7 := { stood := { row := fnExactCodeTextRow, standIns := [], harness := (true, "d01903c252d909e2ec2ce0a4516ce7543fa112823d237976b0a12b01ee4c5310"), looks := true }, kinds := [], alts := [], laidByText := true, laidKinds := [.data, .data, .data, .data], laidTests := true, laidLooks := .later }
def FnExactCodeTextCardSaid : Prop := Claim7.holds Tryd.pinned (.plain (OpenSpec.ofChange fnExactCodeTextSpec)) fnExactCodeTextCard

/-- THE TIED CARD OF 'laws.FnExactParseCode'. -/
def fnExactParseCodeCard : Claim7 := { stood := { row := fnExactParseCodeRow, standIns := [], harness := (true, "d01903c252d909e2ec2ce0a4516ce7543fa112823d237976b0a12b01ee4c5310"), looks := true }, kinds := [], alts := [], laidByText := true, laidKinds := [.data, .data, .data, .data, .sentinel, .sentinel, .data, .pinned], laidTests := true, laidLooks := .later }
def FnExactParseCodeCardSaid : Prop := Claim7.holds Tryd.pinned (.plain (OpenSpec.ofChange fnExactParseCodeSpec)) fnExactParseCodeCard

/-- THE TIED CARD OF 'laws.FnExactBufText'. -/
def fnExactBufTextCard : Claim7 := { stood := { row := fnExactBufTextRow, standIns := [], harness := (true, "d01903c252d909e2ec2ce0a4516ce7543fa112823d237976b0a12b01ee4c5310"), looks := true }, kinds := [], alts := [], laidByText := true, laidKinds := [.data, .data, .data], laidTests := true, laidLooks := .later }
def FnExactBufTextCardSaid : Prop := Claim7.holds Tryd.pinned (.plain (OpenSpec.ofChange fnExactBufTextSpec)) fnExactBufTextCard

/-- THE TIED CARD OF 'laws.FnExactMachineText'. -/
def fnExactMachineTextCard : Claim7 := { stood := { row := fnExactMachineTextRow, standIns := [], harness := (true, "d01903c252d909e2ec2ce0a4516ce7543fa112823d237976b0a12b01ee4c5310"), looks := true }, kinds := [], alts := [], laidByText := true, laidKinds := [.data, .data, .data], laidTests := true, laidLooks := .later }
def FnExactMachineTextCardSaid : Prop := Claim7.holds Tryd.pinned (.plain (OpenSpec.ofChange fnExactMachineTextSpec)) fnExactMachineTextCard

/-- THE TIED CARD OF 'laws.FnExactOutcomeOf'. -/
def fnExactOutcomeOfCard : Claim7 := { stood := { row := fnExactOutcomeOfRow, standIns := [], harness := (true, "d01903c252d909e2ec2ce0a4516ce7543fa112823d237976b0a12b01ee4c5310"), looks := true }, kinds := [], alts := [], laidByText := true, laidKinds := [.data, .data, .data], laidTests := true, laidLooks := .later }
def FnExactOutcomeOfCardSaid : Prop := Claim7.holds Tryd.pinned (.plain (OpenSpec.ofChange fnExactOutcomeOfSpec)) fnExactOutcomeOfCard

/-- THE TIED CARD OF 'laws.FnExactAskText'. -/
def fnExactAskTextCard : Claim7 := { stood := { row := fnExactAskTextRow, standIns := [], harness := (true, "d01903c252d909e2ec2ce0a4516ce7543fa112823d237976b0a12b01ee4c5310"), looks := true }, kinds := [], alts := [], laidByText := true, laidKinds := [.data, .data, .data], laidTests := true, laidLooks := .later }
def FnExactAskTextCardSaid : Prop := Claim7.holds Tryd.pinned (.plain (OpenSpec.ofChange fnExactAskTextSpec)) fnExactAskTextCard

/-- THE TIED CARD OF 'laws.FnExactParseAsk'. -/
def fnExactParseAskCard : Claim7 := { stood := { row := fnExactParseAskRow, standIns := [], harness := (true, "d01903c252d909e2ec2ce0a4516ce7543fa112823d237976b0a12b01ee4c5310"), looks := true }, kinds := [], alts := [], laidByText := true, laidKinds := [.data, .data, .data, .data, .sentinel, .sentinel, .pinned], laidTests := true, laidLooks := .later }
def FnExactParseAskCardSaid : Prop := Claim7.holds Tryd.pinned (.plain (OpenSpec.ofChange fnExactParseAskSpec)) fnExactParseAskCard

/-- THE SECOND FORM's CARD OF 'laws.FnExactCodeText'. -/
def fnExactCodeTextUptoCard : Claim7 := { stood := { row := fnExactCodeTextUptoRow, standIns := [], harness := (true, "d01903c252d909e2ec2ce0a4516ce7543fa112823d237976b0a12b01ee4c5310"), looks := true }, kinds := [], alts := [], laidByText := true, laidKinds := [.data, .data, .data, .data], laidTests := true, laidLooks := .later }
def FnExactCodeTextUptoCardSaid : Prop := Claim7.holds Tryd.pinned (.plain (OpenSpec.upto fnExactCodeTextSpec)) fnExactCodeTextUptoCard

/-- THE SECOND FORM's CARD OF 'laws.FnExactParseCode'. -/
def fnExactParseCodeUptoCard : Claim7 := { stood := { row := fnExactParseCodeUptoRow, standIns := [], harness := (true, "d01903c252d909e2ec2ce0a4516ce7543fa112823d237976b0a12b01ee4c5310"), looks := true }, kinds := [], alts := [], laidByText := true, laidKinds := [.data, .data, .data, .data, .sentinel, .sentinel, .data, .pinned], laidTests := true, laidLooks := .later }
def FnExactParseCodeUptoCardSaid : Prop := Claim7.holds Tryd.pinned (.plain (OpenSpec.upto fnExactParseCodeSpec)) fnExactParseCodeUptoCard

/-- THE SECOND FORM's CARD OF 'laws.FnExactBufText'. -/
def fnExactBufTextUptoCard : Claim7 := { stood := { row := fnExactBufTextUptoRow, standIns := [], harness := (true, "d01903c252d909e2ec2ce0a4516ce7543fa112823d237976b0a12b01ee4c5310"), looks := true }, kinds := [], alts := [], laidByText := true, laidKinds := [.data, .data, .data], laidTests := true, laidLooks := .later }
def FnExactBufTextUptoCardSaid : Prop := Claim7.holds Tryd.pinned (.plain (OpenSpec.upto fnExactBufTextSpec)) fnExactBufTextUptoCard

/-- THE SECOND FORM's CARD OF 'laws.FnExactMachineText'. -/
def fnExactMachineTextUptoCard : Claim7 := { stood := { row := fnExactMachineTextUptoRow, standIns := [], harness := (true, "d01903c252d909e2ec2ce0a4516ce7543fa112823d237976b0a12b01ee4c5310"), looks := true }, kinds := [], alts := [], laidByText := true, laidKinds := [.data, .data, .data], laidTests := true, laidLooks := .later }
def FnExactMachineTextUptoCardSaid : Prop := Claim7.holds Tryd.pinned (.plain (OpenSpec.upto fnExactMachineTextSpec)) fnExactMachineTextUptoCard

/-- THE SECOND FORM's CARD OF 'laws.FnExactOutcomeOf'. -/
def fnExactOutcomeOfUptoCard : Claim7 := { stood := { row := fnExactOutcomeOfUptoRow, standIns := [], harness := (true, "d01903c252d909e2ec2ce0a4516ce7543fa112823d237976b0a12b01ee4c5310"), looks := true }, kinds := [], alts := [], laidByText := true, laidKinds := [.data, .data, .data], laidTests := true, laidLooks := .later }
def FnExactOutcomeOfUptoCardSaid : Prop := Claim7.holds Tryd.pinned (.plain (OpenSpec.upto fnExactOutcomeOfSpec)) fnExactOutcomeOfUptoCard

/-- THE SECOND FORM's CARD OF 'laws.FnExactAskText'. -/
def fnExactAskTextUptoCard : Claim7 := { stood := { row := fnExactAskTextUptoRow, standIns := [], harness := (true, "d01903c252d909e2ec2ce0a4516ce7543fa112823d237976b0a12b01ee4c5310"), looks := true }, kinds := [], alts := [], laidByText := true, laidKinds := [.data, .data, .data], laidTests := true, laidLooks := .later }
def FnExactAskTextUptoCardSaid : Prop := Claim7.holds Tryd.pinned (.plain (OpenSpec.upto fnExactAskTextSpec)) fnExactAskTextUptoCard

/-- THE SECOND FORM's CARD OF 'laws.FnExactParseAsk'. -/
def fnExactParseAskUptoCard : Claim7 := { stood := { row := fnExactParseAskUptoRow, standIns := [], harness := (true, "d01903c252d909e2ec2ce0a4516ce7543fa112823d237976b0a12b01ee4c5310"), looks := true }, kinds := [], alts := [], laidByText := true, laidKinds := [.data, .data, .data, .data, .sentinel, .sentinel, .pinned], laidTests := true, laidLooks := .later }
def FnExactParseAskUptoCardSaid : Prop := Claim7.holds Tryd.pinned (.plain (OpenSpec.upto fnExactParseAskSpec)) fnExactParseAskUptoCard
end Rows
end Go.Proofs.YtiflooopfpcelacDoor
