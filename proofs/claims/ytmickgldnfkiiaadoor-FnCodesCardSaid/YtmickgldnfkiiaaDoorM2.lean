/- Contracts of the laws' helpers over instructions and codes: copy, size, equality, marks and their look-up. Condition: lengths as the law bounds them. -/
import Derived.Test.YtmickgldnfkiiaaDoorFlat
import Derived.Test.YtmickgldnfkiiaaDoorInts
import Derived.Deep.RegionHeld3
namespace Go.Proofs.YtmickgldnfkiiaaDoor
set_option maxRecDepth 20000
set_option linter.unusedSimpArgs false
set_option linter.unusedVariables false
open Go.ChangeShapes Go.WideShapes Go.ChangeAt Go.RowKit
set_option linter.unusedVariables false
set_option maxHeartbeats 400000 in
theorem ins_op (i : Ins) (w : World) :
    Calls Tryd.prog 50 #[(Value.agg #[.int .i64 i.o, .int .i64 i.r, .int .i64 i.s, .int .i64 i.n])] w fun e w' => e = .returned (.int .i64 i.o) ∧ Below w.heap.size w w' := by
  go_enter Tryd.func50, Tryd.ntmps50
  go_wp2_with fail
  go_ret
  exact ⟨rfl, (Below.refl _ _).alloc (Nat.le_refl _) _⟩
theorem infoIns : (Tryd.prog.info? 44).map (fun i => (i.zero, i.size, i.bytes)) = some (some (.agg #[.int .i64 0, .int .i64 0, .int .i64 0, .int .i64 0]), 4, 32) := by kernel_rfl
end Go.Proofs.YtmickgldnfkiiaaDoor
