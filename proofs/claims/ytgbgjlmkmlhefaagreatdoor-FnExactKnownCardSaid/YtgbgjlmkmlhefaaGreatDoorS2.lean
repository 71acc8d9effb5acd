/- Contracts of chapter 2's model functions (package spec) that make no text. No condition but that the slices can be read. -/
import Derived.Test.YtgbgjlmkmlhefaaGreatDoorM2
import Derived.Test.YtgbgjlmkmlhefaaGreatDoorS1
import Derived.Deep.RegionHeld3
namespace Go.Proofs.YtgbgjlmkmlhefaaGreatDoor
set_option maxRecDepth 20000
set_option linter.unusedSimpArgs false
set_option linter.unusedVariables false
open Go.ChangeShapes Go.WideShapes Go.ChangeAt Go.RowKit
set_option linter.unusedVariables false
def fenceB (i : Ins) : Bool := i.o == 4 || i.o == 5 || i.o == 7
def formTab : List (List UInt8) := [[114, 110], [114, 115], [114, 110], [114, 110], [], [114, 115, 110], [114, 110], [114, 115, 110], [114, 115]]
def formF (o : Int) : List UInt8 := if inB o 0 8 then formTab.getD o.toNat [] else [63]
theorem op_cases {o : Int} (h : inB o 0 8 = true) : o = 0 ∨ o = 1 ∨ o = 2 ∨ o = 3 ∨ o = 4 ∨ o = 5 ∨ o = 6 ∨ o = 7 ∨ o = 8 := by
  have := inB_true h
  omega
set_option maxHeartbeats 1600000 in
theorem l02Form (o : Int) (w : World) :
    Calls Tryz.prog 76 #[.int .i64 o] w fun e w' => e = .returned (str (formF o)) ∧ Below w.heap.size w w' := by
  cases hin : inB o 0 8
  · go_enter Tryz.func76, Tryz.ntmps76
    go_wp2_with (go_at_call 26; refine (l01In _ _ _ _).mono ?_; rintro e w' ⟨rfl, rfl⟩)
    go_ret
    refine ⟨?_, (Below.refl _ _).alloc (Nat.le_refl _) _⟩
    simp [formF, hin]
  · rcases op_cases hin with rfl | rfl | rfl | rfl | rfl | rfl | rfl | rfl | rfl
    all_goals
      go_enter Tryz.func76, Tryz.ntmps76
      go_wp2_with (go_at_call 26; refine (l01In _ _ _ _).mono ?_; rintro e w' ⟨rfl, rfl⟩)
      go_ret
      exact ⟨rfl, (Below.refl _ _).alloc (Nat.le_refl _) _⟩
end Go.Proofs.YtgbgjlmkmlhefaaGreatDoor
