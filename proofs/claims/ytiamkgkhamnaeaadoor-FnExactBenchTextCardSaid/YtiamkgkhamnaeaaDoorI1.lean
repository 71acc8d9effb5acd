/- Contracts of chapter 1's functions (package impl): what each returns, for every memory that can be read and every integer. -/
import Derived.Test.YtiamkgkhamnaeaaDoorS1
import Derived.Deep.RegionLaw
import Derived.Laws.CopyOwn
namespace Go.Proofs.YtiamkgkhamnaeaaDoor
set_option maxRecDepth 20000
set_option linter.unusedSimpArgs false
set_option linter.unusedVariables false
open Go.ChangeShapes Go.WideShapes Go.ChangeAt Go.RowKit
set_option linter.unusedVariables false
set_option maxHeartbeats 400000 in
theorem impl_indexOk (i n : Int) (w : World) :
    Calls Tryd.prog 37 #[.int .i64 i, .int .i64 n] w fun e w' => e = .returned (.bool (inB i 0 (n - 1))) ∧ w = w' := by
  by_cases h1 : 0 ≤ i
  · go_enter Tryd.func37, Tryd.ntmps37
    go_wp2
    go_ret
    exact ⟨ret_bool (by simp only [inB]; rw [Bool.eq_iff_iff]; simp [h1]; omega), rfl⟩
  · go_enter Tryd.func37, Tryd.ntmps37
    go_wp2
    go_ret
    exact ⟨ret_bool (by simp only [inB]; rw [Bool.eq_iff_iff]; simp; omega), rfl⟩
end Go.Proofs.YtiamkgkhamnaeaaDoor
