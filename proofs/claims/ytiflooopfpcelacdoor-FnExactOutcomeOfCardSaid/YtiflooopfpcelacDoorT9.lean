/- A machine that came in holds 64-bit integers alone. -/
import Derived.Test.YtiflooopfpcelacDoorT8
import Derived.Test.YtiflooopfpcelacDoorLaw4
namespace Go.Proofs.YtiflooopfpcelacDoor
set_option maxRecDepth 20000
set_option linter.unusedSimpArgs false
set_option linter.unusedVariables false
theorem shR_of {M : Ma} (h : MaR M) : ShR M := fun t ht => ⟨bounds_i64 (h.2 t ht).1, fun x hx => bounds_i64 ((h.2 t ht).2.1 x hx)⟩
end Go.Proofs.YtiflooopfpcelacDoor
