/- Contracts of the laws' helpers over a memory: size, copy, equality, marks and their look-up. Condition: at most 1048576 cells. -/
import Derived.Test.YtkpgjeeofghldaaInts
namespace Go.Proofs.Ytkpgjeeofghldaa
set_option maxRecDepth 20000
set_option linter.unusedSimpArgs false
set_option linter.unusedVariables false
open Go.ChangeShapes Go.WideShapes Go.ChangeAt Go.RowKit
set_option linter.unusedVariables false
/-- returns a memory of its own -/
def RetMem (L : List Int) (w : World) (e : Ending) (w' : World) : Prop :=
  ∃ v' bs, e = .returned (.agg #[v']) ∧ Own w' v' 1 L.length (ints L) bs ∧ (∀ b ∈ bs, w.heap.size ≤ b) ∧ Below w.heap.size w w'
theorem eqIntSB (v u : Value) (xs ys : List Int) (w : World) (h : Rd w v 1 xs.length (ints xs)) (h' : Rd w u 1 ys.length (ints ys)) :
    Calls Try.prog 15 #[v, u] w fun e w' => e = .returned (.bool (decide (xs = ys))) ∧ Below w.heap.size w w' :=
  (eqIntS v u xs ys w h h').mono fun e w' ⟨he, n, hw⟩ => ⟨he, hw ▸ below_drewN w n⟩
end Go.Proofs.Ytkpgjeeofghldaa
