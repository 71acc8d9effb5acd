/- Contracts of chapter 1's functions (package impl): what each returns, for every memory that can be read and every integer. -/
import Derived.Test.YtgbgjlmkmlhefaaGreatDoorS1
import Derived.Deep.RegionLaw
import Derived.Laws.CopyOwn
namespace Go.Proofs.YtgbgjlmkmlhefaaGreatDoor
set_option maxRecDepth 20000
set_option linter.unusedSimpArgs false
set_option linter.unusedVariables false
open Go.ChangeShapes Go.WideShapes Go.ChangeAt Go.RowKit
set_option linter.unusedVariables false
set_option maxHeartbeats 400000 in
theorem impl_Clamp (x : Int) (w : World) :
    Calls Tryz.prog 86 #[.int .i64 x] w fun e w' => e = .returned (.int .i64 (clampF x)) ∧ w = w' := by
  go_enter Tryz.func86, Tryz.ntmps86
  go_wp2
  all_goals go_ret
  all_goals exact ⟨ret_int (by simp only [clampF]; omega), rfl⟩
set_option maxHeartbeats 400000 in
theorem impl_valueOk (x : Int) (w : World) :
    Calls Tryz.prog 62 #[.int .i64 x] w fun e w' => e = .returned (.bool (valB x)) ∧ w = w' := by
  have hv : (x == clampF x) = valB x := by
    rw [Bool.eq_iff_iff]
    simp only [beq_iff_eq, valB, inB, clampF, Bool.and_eq_true, decide_eq_true_eq]
    omega
  have HV := Lib.hid hv
  clear hv
  go_enter Tryz.func62, Tryz.ntmps62
  go_wp2_with (go_at_call 86; refine (impl_Clamp _ _).mono ?_; rintro e w' ⟨rfl, rfl⟩)
  all_goals go_ret
  exact ⟨ret_bool HV.out, rfl⟩
end Go.Proofs.YtgbgjlmkmlhefaaGreatDoor
