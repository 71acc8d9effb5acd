/- Contracts of the laws' helpers over programs: size, copy, equality. -/
import Derived.Test.YtkpgjeeofghldaaM3
namespace Go.Proofs.Ytkpgjeeofghldaa
set_option maxRecDepth 20000
set_option linter.unusedSimpArgs false
set_option linter.unusedVariables false
open Go.ChangeShapes Go.WideShapes Go.ChangeAt Go.RowKit
/-- a program -/
structure Pr where
  c : Int
  x : List (List Ins)
deriving DecidableEq
end Go.Proofs.Ytkpgjeeofghldaa
