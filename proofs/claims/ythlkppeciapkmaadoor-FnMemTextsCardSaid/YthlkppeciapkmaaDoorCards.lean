/-
  DERIVED. GIVEN WITH THE SEED: THE CARDS: each row of YthlkppeciapkmaaDoorRows.lean that lists a variable, with what it lists TIED to the program's text (the seventh form; the later family's looks); each row that meets fmt, with fmt's text TOLD by the authors' own Lean function (tested against real Go, not proved from fmt's source: count such statements apart). THE CARD IS WHAT COUNTS. Prove the row's statement (the work); the ties are given (YthlkppeciapkmaaDoorTie.lean); close each card by the builder's one call (the guide's Derived/Test/ToyasCard.lean, 'card_holds'). Laid BY PROGRAM, IN A SANDBOX (cutbox-door.mjs). By AI agents, Wed Nov 11 2026. No macro, syntax, notation, axiom, sorry.
-/
import Derived.Test.YthlkppeciapkmaaDoorRows
import GoSem.ClaimSeven
namespace Go.Proofs.YthlkppeciapkmaaDoor
namespace Rows

/-- THE TIED CARD OF 'laws.FnMemTexts'. -/
def fnMemTextsCard : Claim7 := { stood := { row := fnMemTextsRow, standIns := [], harness := (true, "388d1efb7194ec4947652f9e566659f4c55d08c58e6a5d574bf4dac3e11465b2"), looks := true }, kinds := [], alts := [], laidByText := true, laidKinds := [.data, .data, .data, .data, .sentinel, .sentinel, .pinned], laidTests := true, laidLooks := .later }
def FnMemTextsCardSaid : Prop := Claim7.holds Tryd.pinned (.plain (OpenSpec.ofChange fnMemTextsSpec)) fnMemTextsCard

/-- THE TIED CARD OF 'laws.FnExactMemText'. -/
def fnExactMemTextCard : Claim7 := { stood := { row := fnExactMemTextRow, standIns := [], harness := (true, "388d1efb7194ec4947652f9e566659f4c55d08c58e6a5d574bf4dac3e11465b2"), looks := true }, kinds := [], alts := [], laidByText := true, laidKinds := [.data, .data, .data], laidTests := true, laidLooks := .later }
def FnExactMemTextCardSaid : Prop := Claim7.holds Tryd.pinned (.plain (OpenSpec.ofChange fnExactMemTextSpec)) fnExactMemTextCard

/-- THE TIED CARD OF 'laws.FnExactParseMem'. -/
def fnExactParseMemCard : Claim7 := { stood := { row := fnExactParseMemRow, standIns := [], harness := (true, "388d1efb7194ec4947652f9e566659f4c55d08c58e6a5d574bf4dac3e11465b2"), looks := true }, kinds := [], alts := [], laidByText := true, laidKinds := [.data, .data, .data, .data, .sentinel, .sentinel, .pinned], laidTests := true, laidLooks := .later }
def FnExactParseMemCardSaid : Prop := Claim7.holds Tryd.pinned (.plain (OpenSpec.ofChange fnExactParseMemSpec)) fnExactParseMemCard

/-- THE SECOND FORM's CARD OF 'laws.FnMemTexts'. -/
def fnMemTextsUptoCard : Claim7 := { stood := { row := fnMemTextsUptoRow, standIns := [], harness := (true, "388d1efb7194ec4947652f9e566659f4c55d08c58e6a5d574bf4dac3e11465b2"), looks := true }, kinds := [], alts := [], laidByText := true, laidKinds := [.data, .data, .data, .data, .sentinel, .sentinel, .pinned], laidTests := true, laidLooks := .later }
def FnMemTextsUptoCardSaid : Prop := Claim7.holds Tryd.pinned (.plain (OpenSpec.upto fnMemTextsSpec)) fnMemTextsUptoCard

/-- THE SECOND FORM's CARD OF 'laws.FnExactMemText'. -/
def fnExactMemTextUptoCard : Claim7 := { stood := { row := fnExactMemTextUptoRow, standIns := [], harness := (true, "388d1efb7194ec4947652f9e566659f4c55d08c58e6a5d574bf4dac3e11465b2"), looks := true }, kinds := [], alts := [], laidByText := true, laidKinds := [.data, .data, .data], laidTests := true, laidLooks := .later }
def FnExactMemTextUptoCardSaid : Prop := Claim7.holds Tryd.pinned (.plain (OpenSpec.upto fnExactMemTextSpec)) fnExactMemTextUptoCard

/-- THE SECOND FORM's CARD OF 'laws.FnExactParseMem'. -/
def fnExactParseMemUptoCard : Claim7 := { stood := { row := fnExactParseMemUptoRow, standIns := [], harness := (true, "388d1efb7194ec4947652f9e566659f4c55d08c58e6a5d574bf4dac3e11465b2"), looks := true }, kinds := [], alts := [], laidByText := true, laidKinds := [.data, .data, .data, .data, .sentinel, .sentinel, .pinned], laidTests := true, laidLooks := .later }
def FnExactParseMemUptoCardSaid : Prop := Claim7.holds Tryd.pinned (.plain (OpenSpec.upto fnExactParseMemSpec)) fnExactParseMemUptoCard
end Rows
end Go.Proofs.YthlkppeciapkmaaDoor
