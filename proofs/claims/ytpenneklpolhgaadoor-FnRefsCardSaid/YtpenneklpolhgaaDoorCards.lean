/-
  DERIVED. GIVEN WITH THE SEED: THE CARDS: each row of YtpenneklpolhgaaDoorRows.lean that lists a variable, with what it lists TIED to the program's text (the seventh form; the later family's looks); each row that meets fmt, with fmt's text TOLD by the authors' own Lean function (tested against real Go, not proved from fmt's source: count such statements apart). THE CARD IS WHAT COUNTS. Prove the row's statement (the work); the ties are given (YtpenneklpolhgaaDoorTie.lean); close each card by the builder's one call (the guide's Derived/Test/ToyasCard.lean, 'card_holds'). Laid BY PROGRAM, IN A SANDBOX (cutbox-door.mjs). By AI agents, Wed Nov 11 2026. No macro, syntax, notation, axiom, sorry.
-/
import Derived.Test.YtpenneklpolhgaaDoorRows
import GoSem.ClaimSeven
namespace Go.Proofs.YtpenneklpolhgaaDoor
namespace Rows

/-- THE TIED CARD OF 'laws.FnExactFreeObj'. -/
def fnExactFreeObjCard : Claim7 := { stood := { row := fnExactFreeObjRow, standIns := [], harness := (true, "62e97541599802320b01680ece8f6c60c401a3ba044f64bbd1e9e623260a4b8e"), looks := true }, kinds := [], alts := [], laidByText := true, laidKinds := [.handle], laidTests := true, laidLooks := .later }
def FnExactFreeObjCardSaid : Prop := Claim7.holds Tryd.pinned (.plain (OpenSpec.ofChange fnExactFreeObjSpec)) fnExactFreeObjCard

/-- THE TIED CARD OF 'laws.FnExactPlayHeap'. -/
def fnExactPlayHeapCard : Claim7 := { stood := { row := fnExactPlayHeapRow, standIns := [], harness := (true, "62e97541599802320b01680ece8f6c60c401a3ba044f64bbd1e9e623260a4b8e"), looks := true }, kinds := [], alts := [], laidByText := true, laidKinds := [.handle], laidTests := true, laidLooks := .later }
def FnExactPlayHeapCardSaid : Prop := Claim7.holds Tryd.pinned (.plain (OpenSpec.ofChange fnExactPlayHeapSpec)) fnExactPlayHeapCard

/-- THE TIED CARD OF 'laws.FnRefs'. -/
def fnRefsCard : Claim7 := { stood := { row := fnRefsRow, standIns := [], harness := (true, "62e97541599802320b01680ece8f6c60c401a3ba044f64bbd1e9e623260a4b8e"), looks := true }, kinds := [], alts := [], laidByText := true, laidKinds := [.handle], laidTests := true, laidLooks := .later }
def FnRefsCardSaid : Prop := Claim7.holds Tryd.pinned (.plain (OpenSpec.ofChange fnRefsSpec)) fnRefsCard

/-- THE SECOND FORM's CARD OF 'laws.FnExactFreeObj'. -/
def fnExactFreeObjUptoCard : Claim7 := { stood := { row := fnExactFreeObjUptoRow, standIns := [], harness := (true, "62e97541599802320b01680ece8f6c60c401a3ba044f64bbd1e9e623260a4b8e"), looks := true }, kinds := [], alts := [], laidByText := true, laidKinds := [.handle], laidTests := true, laidLooks := .later }
def FnExactFreeObjUptoCardSaid : Prop := Claim7.holds Tryd.pinned (.plain (OpenSpec.upto fnExactFreeObjSpec)) fnExactFreeObjUptoCard

/-- THE SECOND FORM's CARD OF 'laws.FnExactPlayHeap'. -/
def fnExactPlayHeapUptoCard : Claim7 := { stood := { row := fnExactPlayHeapUptoRow, standIns := [], harness := (true, "62e97541599802320b01680ece8f6c60c401a3ba044f64bbd1e9e623260a4b8e"), looks := true }, kinds := [], alts := [], laidByText := true, laidKinds := [.handle], laidTests := true, laidLooks := .later }
def FnExactPlayHeapUptoCardSaid : Prop := Claim7.holds Tryd.pinned (.plain (OpenSpec.upto fnExactPlayHeapSpec)) fnExactPlayHeapUptoCard

/-- THE SECOND FORM's CARD OF 'laws.FnRefs'. -/
def fnRefsUptoCard : Claim7 := { stood := { row := fnRefsUptoRow, standIns := [], harness := (true, "62e97541599802320b01680ece8f6c60c401a3ba044f64bbd1e9e623260a4b8e"), looks := true }, kinds := [], alts := [], laidByText := true, laidKinds := [.handle], laidTests := true, laidLooks := .later }
def FnRefsUptoCardSaid : Prop := Claim7.holds Tryd.pinned (.plain (OpenSpec.upto fnRefsSpec)) fnRefsUptoCard
end Rows
end Go.Proofs.YtpenneklpolhgaaDoor
