/- Contract of impl.InstrOk: it answers as the model does, whatever the instruction. No condition. -/
import Derived.Test.YtgbgjlmkmlhefaaGreatDoorI4
namespace Go.Proofs.YtgbgjlmkmlhefaaGreatDoor
set_option maxRecDepth 20000
set_option linter.unusedSimpArgs false
set_option linter.unusedVariables false
open Go.ChangeShapes Go.WideShapes Go.ChangeAt Go.RowKit
end Go.Proofs.YtgbgjlmkmlhefaaGreatDoor
