/- Contracts of chapter 2's model functions (package spec) that make no text. No condition but that the slices can be read. -/
import Derived.Test.YtgbgjlmkmlhefaaM2
import Derived.Test.YtgbgjlmkmlhefaaS1
import Derived.Deep.RegionHeld3
namespace Go.Proofs.Ytgbgjlmkmlhefaa
set_option maxRecDepth 20000
set_option linter.unusedSimpArgs false
set_option linter.unusedVariables false
open Go.ChangeShapes Go.WideShapes Go.ChangeAt Go.RowKit
set_option linter.unusedVariables false
def fenceB (i : Ins) : Bool := i.o == 4 || i.o == 5 || i.o == 7
set_option maxHeartbeats 800000 in
theorem spec_HasFence (i : Ins) (w : World) :
    Calls Try.prog 59 #[(Value.agg #[.int .i64 i.o, .int .i64 i.r, .int .i64 i.s, .int .i64 i.n])] w fun e w' => e = .returned (.bool (fenceB i)) ∧ Below w.heap.size w w' := by
  obtain ⟨o, r, s, n⟩ := i
  have hB := (Below.refl w.heap.size w).alloc (Nat.le_refl _) (.cells #[.int .i64 o, .int .i64 r, .int .i64 s, .int .i64 n] 74)
  have HB := Lib.hid hB
  clear hB
  cases h4 : (o == (4 : Int))
  · cases h5 : (o == (5 : Int))
    · go_enter Try.func59, Try.ntmps59
      go_wp2_with fail
      go_ret
      exact ⟨ret_bool (by simp [fenceB, h4, h5]), HB.out⟩
    · go_enter Try.func59, Try.ntmps59
      go_wp2_with fail
      go_ret
      exact ⟨ret_bool (by simp [fenceB, h4, h5]), HB.out⟩
  · go_enter Try.func59, Try.ntmps59
    go_wp2_with fail
    go_ret
    exact ⟨ret_bool (by simp [fenceB, h4]), HB.out⟩
def formTab : List (List UInt8) := [[114, 110], [114, 115], [114, 110], [114, 110], [], [114, 115, 110], [114, 110], [114, 115, 110], [114, 115]]
def formF (o : Int) : List UInt8 := if inB o 0 8 then formTab.getD o.toNat [] else [63]
theorem op_cases {o : Int} (h : inB o 0 8 = true) : o = 0 ∨ o = 1 ∨ o = 2 ∨ o = 3 ∨ o = 4 ∨ o = 5 ∨ o = 6 ∨ o = 7 ∨ o = 8 := by
  have := inB_true h
  omega
set_option maxHeartbeats 1600000 in
theorem l02Form (o : Int) (w : World) :
    Calls Try.prog 101 #[.int .i64 o] w fun e w' => e = .returned (str (formF o)) ∧ Below w.heap.size w w' := by
  cases hin : inB o 0 8
  · go_enter Try.func101, Try.ntmps101
    go_wp2_with (go_at_call 43; refine (l01In _ _ _ _).mono ?_; rintro e w' ⟨rfl, rfl⟩)
    go_ret
    refine ⟨?_, (Below.refl _ _).alloc (Nat.le_refl _) _⟩
    simp [formF, hin]
  · rcases op_cases hin with rfl | rfl | rfl | rfl | rfl | rfl | rfl | rfl | rfl
    all_goals
      go_enter Try.func101, Try.ntmps101
      go_wp2_with (go_at_call 43; refine (l01In _ _ _ _).mono ?_; rintro e w' ⟨rfl, rfl⟩)
      go_ret
      exact ⟨rfl, (Below.refl _ _).alloc (Nat.le_refl _) _⟩
end Go.Proofs.Ytgbgjlmkmlhefaa
