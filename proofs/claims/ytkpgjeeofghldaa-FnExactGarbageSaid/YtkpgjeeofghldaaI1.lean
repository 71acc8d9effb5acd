/- Contracts of chapter 1's functions (package impl): what each returns, for every memory that can be read and every integer. -/
import Derived.Test.YtkpgjeeofghldaaS1
import Derived.Deep.RegionLaw
import Derived.Laws.CopyOwn
namespace Go.Proofs.Ytkpgjeeofghldaa
set_option maxRecDepth 20000
set_option linter.unusedSimpArgs false
set_option linter.unusedVariables false
open Go.ChangeShapes Go.WideShapes Go.ChangeAt Go.RowKit
set_option linter.unusedVariables false
set_option maxHeartbeats 400000 in
theorem impl_indexOk (i n : Int) (w : World) :
    Calls Try.prog 27 #[.int .i64 i, .int .i64 n] w fun e w' => e = .returned (.bool (inB i 0 (n - 1))) ∧ w = w' := by
  by_cases h1 : 0 ≤ i
  · go_enter Try.func27, Try.ntmps27
    go_wp2
    go_ret
    exact ⟨ret_bool (by simp only [inB]; rw [Bool.eq_iff_iff]; simp [h1]; omega), rfl⟩
  · go_enter Try.func27, Try.ntmps27
    go_wp2
    go_ret
    exact ⟨ret_bool (by simp only [inB]; rw [Bool.eq_iff_iff]; simp; omega), rfl⟩
end Go.Proofs.Ytkpgjeeofghldaa
