/- Contract of chapter 8's model function LiveRefs (package spec). Condition: the heap's rows can be read. -/
import Derived.Test.YtpenneklpolhgaaDoorH1
import Derived.Test.YtpenneklpolhgaaDoorB1
import Derived.Test.YtpenneklpolhgaaDoorSteps
namespace Go.Proofs.YtpenneklpolhgaaDoor
set_option maxRecDepth 20000
set_option linter.unusedSimpArgs false
set_option linter.unusedVariables false
open Go.ChangeShapes Go.WideShapes Go.ChangeAt Go.RowKit
set_option linter.unusedVariables false
/-- returns a row of pairs of its own -/
def RetP2s (L : List P2) (w : World) (e : Ending) (w' : World) : Prop :=
  ∃ v' bs, e = .returned v' ∧ Own w' v' 2 L.length (flc2 L) bs ∧ (∀ b ∈ bs, w.heap.size ≤ b) ∧ Below w.heap.size w w'
theorem infoRef : (Tryd.prog.info? 33).map (fun i => (i.zero, i.size, i.bytes)) = some (some (.agg #[.int .i64 0, .int .i64 0]), 2, 16) := by kernel_rfl
end Go.Proofs.YtpenneklpolhgaaDoor
