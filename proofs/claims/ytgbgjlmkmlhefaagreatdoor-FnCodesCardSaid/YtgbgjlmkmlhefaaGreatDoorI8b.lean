/- The two contracts of ParseInstr, their answers named. -/
import Derived.Test.YtgbgjlmkmlhefaaGreatDoorI8
namespace Go.Proofs.YtgbgjlmkmlhefaaGreatDoor
set_option maxRecDepth 20000
set_option linter.unusedSimpArgs false
set_option linter.unusedVariables false
open Go.ChangeShapes Go.WideShapes Go.ChangeAt Go.RowKit
theorem spec_PI (s : List UInt8) (w : World) (rx : Ins) (rb : Bool) (hs : s.length ≤ 1048576) (h1 : (parseIF s).getD ⟨0, 0, 0, 0⟩ = rx) (h2 : (parseIF s).isSome = rb) :
    Calls Tryz.prog 90 #[str s] w fun e w' => e = .returned (.tuple #[(Value.agg #[.int .i64 rx.o, .int .i64 rx.r, .int .i64 rx.s, .int .i64 rx.n]), .bool rb]) ∧ Below w.heap.size w w' := by
  have := spec_ParseInstr s w hs
  unfold RetInsB at this
  rw [h1, h2] at this
  exact this
theorem impl_PI (s : List UInt8) (w : World) (rx : Ins) (rb : Bool) (hs : s.length ≤ 1048576) (h1 : (parseIF s).getD ⟨0, 0, 0, 0⟩ = rx) (h2 : (parseIF s).isSome = rb) (hE : EnvP w) :
    Calls Tryz.prog 31 #[str s] w fun e w' => e = .returned (.tuple #[(Value.agg #[.int .i64 rx.o, .int .i64 rx.r, .int .i64 rx.s, .int .i64 rx.n]), .bool rb]) ∧ Below w.heap.size w w' := by
  have := impl_ParseInstr s w hs hE
  unfold RetInsB at this
  rw [h1, h2] at this
  exact this
end Go.Proofs.YtgbgjlmkmlhefaaGreatDoor
