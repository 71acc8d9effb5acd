/-
  DERIVED. GIVEN WITH THE SEED: THE CARDS: each row of YtmickgldnfkiiaaDoorRows.lean that lists a variable, with what it lists TIED to the program's text (the seventh form; the later family's looks); each row that meets fmt, with fmt's text TOLD by the authors' own Lean function (tested against real Go, not proved from fmt's source: count such statements apart). THE CARD IS WHAT COUNTS. Prove the row's statement (the work); the ties are given (YtmickgldnfkiiaaDoorTie.lean); close each card by the builder's one call (the guide's Derived/Test/ToyasCard.lean, 'card_holds'). Laid BY PROGRAM, IN A SANDBOX (cutbox-door.mjs). By AI agents, Wed Nov 11 2026. No macro, syntax, notation, axiom, sorry.
-/
import Derived.Test.YtmickgldnfkiiaaDoorRows
import GoSem.ClaimSeven
namespace Go.Proofs.YtmickgldnfkiiaaDoor
namespace Rows

/-- THE TIED CARD OF 'laws.FnExactBufText'. -/
def fnExactBufTextCard : Claim7 := { stood := { row := fnExactBufTextRow, standIns := [], harness := (true, "c25dff17ad8fd80047229a06e447e77aa60cdfa7be62966b907da52625644d3d"), looks := true }, kinds := [], alts := [], laidByText := true, laidKinds := [.data, .data, .data], laidTests := true, laidLooks := .later }
def FnExactBufTextCardSaid : Prop := Claim7.holds Tryd.pinned (.plain (OpenSpec.ofChange fnExactBufTextSpec)) fnExactBufTextCard

/-- THE TIED CARD OF 'laws.FnCodes'. -/
def fnCodesCard : Claim7 := { stood := { row := fnCodesRow, standIns := [], harness := (true, "c25dff17ad8fd80047229a06e447e77aa60cdfa7be62966b907da52625644d3d"), looks := true }, kinds := [], alts := [], laidByText := true, laidKinds := [.data, .data, .data, .data, .sentinel, .sentinel, .data, .pinned], laidTests := true, laidLooks := .later }
def FnCodesCardSaid : Prop := Claim7.holds Tryd.pinned (.plain (OpenSpec.ofChange fnCodesSpec)) fnCodesCard

/-- THE SECOND FORM's CARD OF 'laws.FnExactBufText'. -/
def fnExactBufTextUptoCard : Claim7 := { stood := { row := fnExactBufTextUptoRow, standIns := [], harness := (true, "c25dff17ad8fd80047229a06e447e77aa60cdfa7be62966b907da52625644d3d"), looks := true }, kinds := [], alts := [], laidByText := true, laidKinds := [.data, .data, .data], laidTests := true, laidLooks := .later }
def FnExactBufTextUptoCardSaid : Prop := Claim7.holds Tryd.pinned (.plain (OpenSpec.upto fnExactBufTextSpec)) fnExactBufTextUptoCard

/-- THE SECOND FORM's CARD OF 'laws.FnCodes'. -/
def fnCodesUptoCard : Claim7 := { stood := { row := fnCodesUptoRow, standIns := [], harness := (true, "c25dff17ad8fd80047229a06e447e77aa60cdfa7be62966b907da52625644d3d"), looks := true }, kinds := [], alts := [], laidByText := true, laidKinds := [.data, .data, .data, .data, .sentinel, .sentinel, .data, .pinned], laidTests := true, laidLooks := .later }
def FnCodesUptoCardSaid : Prop := Claim7.holds Tryd.pinned (.plain (OpenSpec.upto fnCodesSpec)) fnCodesUptoCard
end Rows
end Go.Proofs.YtmickgldnfkiiaaDoor
