/- Contracts of spec.ProgOk and impl.ProgOk: a valid program. Condition: the codes can be read; lengths are those of slices. -/
import Derived.Test.YtiflooopfpcelacDoorM3b
import Derived.Test.YtiflooopfpcelacDoorI5
namespace Go.Proofs.YtiflooopfpcelacDoor
set_option maxRecDepth 20000
set_option linter.unusedSimpArgs false
set_option linter.unusedVariables false
open Go.ChangeShapes Go.WideShapes Go.ChangeAt Go.RowKit
def codeOkF (c : Int) (xs : List Ins) : Bool := decide (xs.length ≤ 16) && xs.all fun i => insOk i c xs.length
def progOkF (p : Pr) : Bool := inB p.c 1 16 && inB p.x.length 1 3 && p.x.all (codeOkF p.c)
theorem allN_false {α : Type} {p : α → Bool} {xs : List α} {k : Nat} {x : α} (hx : xs[k]? = some x) (hp : p x = false) : xs.all p = false := by
  rw [List.all_eq_false]
  exact ⟨x, List.mem_of_getElem? hx, by simp [hp]⟩
theorem allN_snoc {α : Type} {p : α → Bool} {xs : List α} {k : Nat} {x : α} (h : (xs.take k).all p = true) (hx : xs[k]? = some x) (hp : p x = true) : (xs.take (k + 1)).all p = true := by
  rw [List.take_add_one, List.all_append, h, hx]
  simp [hp]
end Go.Proofs.YtiflooopfpcelacDoor
