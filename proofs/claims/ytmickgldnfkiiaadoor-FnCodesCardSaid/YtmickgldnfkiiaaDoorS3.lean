/- Contract of spec.ParseInstr: the instruction that a text is. Condition: the text's length is a string's. -/
import Derived.Test.YtmickgldnfkiiaaDoorQ1
import Derived.Test.YtmickgldnfkiiaaDoorT5
import Derived.Deep.RegionHeld3
import Derived.IntWalk
namespace Go.Proofs.YtmickgldnfkiiaaDoor
set_option maxRecDepth 20000
set_option linter.unusedSimpArgs false
set_option linter.unusedVariables false
open Go.ChangeShapes Go.WideShapes Go.ChangeAt Go.RowKit
set_option linter.unusedVariables false
def RetInsB (o : Option Ins) (w : World) (e : Ending) (w' : World) : Prop := e = .returned (.tuple #[insV (o.getD ⟨0, 0, 0, 0⟩), .bool o.isSome]) ∧ Below w.heap.size w w'
theorem strsC_at {L : List (List UInt8)} {k : Nat} {p : List UInt8} (h : L[k]? = some p) : (strs L)[k]? = some (str p) := by simp [strs, h]
end Go.Proofs.YtmickgldnfkiiaaDoor
