/- Contracts of chapter 6's atoms, of both sides: which place an atom looks at, whether it is well. Condition: the program can be read. -/
import Derived.Test.YtiflooopfpcelacDoorV8
import Derived.Test.YtiflooopfpcelacDoorI5
import Derived.Test.YtiflooopfpcelacDoorS2p
import Derived.Test.YtiflooopfpcelacDoorSteps
namespace Go.Proofs.YtiflooopfpcelacDoor
set_option maxRecDepth 20000
set_option linter.unusedSimpArgs false
set_option linter.unusedVariables false
open Go.ChangeShapes Go.WideShapes Go.ChangeAt Go.RowKit
set_option linter.unusedVariables false
def placeV (a : Ins) : Value := if a.o = 0 then .iface 146 (.agg #[.int .i64 a.r, .int .i64 a.s]) else if a.o = 1 then .iface 149 (.agg #[.int .i64 a.s]) else .nilIface
def knownB (a : Ins) : Bool := a.o == 0 || a.o == 1
def strayB (a : Ins) : Bool := a.o == 1 && a.r != 0
set_option maxHeartbeats 800000 in
theorem impl_placeOf (a : Ins) (w : World) :
    Calls Tryd.prog 102 #[(Value.agg #[.int .i64 a.o, .int .i64 a.r, .int .i64 a.s, .int .i64 a.n])] w fun e w' => e = .returned (.tuple #[placeV a, .bool (knownB a)]) ∧ Below w.heap.size w w' := by
  obtain ⟨o, r, s, n⟩ := a
  have HB := Lib.hid ((Below.refl w.heap.size w).alloc (Nat.le_refl _) (.cells #[.int .i64 o, .int .i64 r, .int .i64 s, .int .i64 n] 100))
  by_cases h0 : o = 0
  · subst h0
    go_enter Tryd.func102, Tryd.ntmps102
    go_wp2_with fail
    go_ret2
    exact ⟨rfl, HB.out⟩
  · by_cases h1 : o = 1
    · subst h1
      clear h0
      go_enter Tryd.func102, Tryd.ntmps102
      go_wp2_with fail
      go_ret2
      exact ⟨rfl, HB.out⟩
    · have e0 : (o == (0 : Int)) = false := by simp [h0]
      have e1 : (o == (1 : Int)) = false := by simp [h1]
      have HV : Hid (placeV ⟨o, r, s, n⟩ = .nilIface ∧ knownB ⟨o, r, s, n⟩ = false) := Lib.hid ⟨by simp [placeV, h0, h1], by simp [knownB, h0, h1]⟩
      clear h0 h1
      go_enter Tryd.func102, Tryd.ntmps102
      go_wp2_with fail
      go_ret2
      exact ⟨by rw [HV.out.1, HV.out.2]; rfl, HB.out⟩
set_option maxHeartbeats 800000 in
theorem impl_stray (a : Ins) (w : World) :
    Calls Tryd.prog 101 #[(Value.agg #[.int .i64 a.o, .int .i64 a.r, .int .i64 a.s, .int .i64 a.n])] w fun e w' => e = .returned (.bool (strayB a)) ∧ Below w.heap.size w w' := by
  obtain ⟨o, r, s, n⟩ := a
  have HB := Lib.hid ((Below.refl w.heap.size w).alloc (Nat.le_refl _) (.cells #[.int .i64 o, .int .i64 r, .int .i64 s, .int .i64 n] 100))
  cases e1 : (o == (1 : Int))
  · have HV : Hid (strayB ⟨o, r, s, n⟩ = false) := Lib.hid (by simp [strayB, e1])
    go_enter Tryd.func101, Tryd.ntmps101
    go_wp2_with fail
    go_ret
    exact ⟨ret_bool HV.out.symm, HB.out⟩
  · have HV : Hid (strayB ⟨o, r, s, n⟩ = (r != 0)) := Lib.hid (by simp [strayB, e1])
    go_enter Tryd.func101, Tryd.ntmps101
    go_wp2_with fail
    go_ret
    exact ⟨ret_bool HV.out.symm, HB.out⟩
end Go.Proofs.YtiflooopfpcelacDoor
