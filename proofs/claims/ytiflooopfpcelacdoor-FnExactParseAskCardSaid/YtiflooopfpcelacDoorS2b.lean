/- Contracts of chapter 2's model functions (package spec): which fields an op names, a valid instruction, a valid program. -/
import Derived.Test.YtiflooopfpcelacDoorS2
namespace Go.Proofs.YtiflooopfpcelacDoor
set_option maxRecDepth 20000
set_option linter.unusedSimpArgs false
set_option linter.unusedVariables false
open Go.ChangeShapes Go.WideShapes Go.ChangeAt Go.RowKit
set_option linter.unusedVariables false
def namedF (o : Int) (c : UInt8) : Bool := (formF o).any (· == c)
theorem formF_len (o : Int) : (formF o).length ≤ 3 := by
  unfold formF
  cases h : inB o 0 8
  · simp
  · rcases op_cases h with rfl | rfl | rfl | rfl | rfl | rfl | rfl | rfl | rfl <;> decide
def nOkF (i : Ins) (cells size : Int) : Bool :=
  if i.o = 0 then inB i.n (-1000) 1000 else if i.o = 2 ∨ i.o = 3 ∨ i.o = 5 ∨ i.o = 7 then inB i.n 0 (cells - 1) else if i.o = 6 then inB i.n 0 size else true
def insOk (i : Ins) (cells size : Int) : Bool :=
  inB cells 1 16 && inB size 0 16 && inB i.o 0 8 && inB i.r 0 3 && inB i.s 0 3 && (namedF i.o 114 || i.r == 0) && (namedF i.o 115 || i.s == 0) && (namedF i.o 110 || i.n == 0) && nOkF i cells size
end Go.Proofs.YtiflooopfpcelacDoor
