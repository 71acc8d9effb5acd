/- Contract of spec.WithFences: fences behind stores, targets moved. Condition: the code can be read. -/
import Derived.Test.YtiflooopfpcelacDoorA3
import Derived.Test.YtiflooopfpcelacDoorS2c
namespace Go.Proofs.YtiflooopfpcelacDoor
set_option maxRecDepth 20000
set_option linter.unusedSimpArgs false
set_option linter.unusedVariables false
open Go.ChangeShapes Go.WideShapes Go.ChangeAt Go.RowKit
set_option linter.unusedVariables false
def RetCodeB (L : List Ins) (ok : Bool) (w : World) (e : Ending) (w' : World) : Prop :=
  ∃ v' bs, e = .returned (.tuple #[v', .bool ok]) ∧ Own w' v' 4 L.length (flc L) bs ∧ (∀ b ∈ bs, w.heap.size ≤ b) ∧ Below w.heap.size w w'
theorem owns_newCells (w : World) (t : TypeId) (s : Nat) : (w.alloc (.cells #[] t)).ownsRow w.heap.size t s (.slice (some ⟨w.heap.size, 0, none⟩) 0 0) 0 [] :=
  ⟨by simp, .inr ⟨w.heap.size, 0, #[], rfl, Nat.le_refl _, heap_alloc_new w _, Nat.le_refl _, by simp [maxLen], by simp, by simp⟩⟩
theorem owns_snocI {w : World} {base : Nat} {t : TypeId} {v : Value} {N : List Ins} {x : Ins} (h : w.ownsRow base t 4 v (N.length + 1) (flc N ++ [.int .i64 x.o, .int .i64 x.r, .int .i64 x.s, .int .i64 x.n])) : w.ownsRow base t 4 v (N ++ [x]).length (flc (N ++ [x])) := by
  rw [flc_append, flc_one]
  simpa [insC] using h
theorem owns_formS {w : World} {base : Nat} {e : TypeId} {size : Nat} {A : Option Addr} {n m c : Nat} {xs : List Value} (h : w.ownsRow base e size (.slice A m c) n xs) (hn : 0 < n) : ∃ g, A = some ⟨g, 0, none⟩ := by
  obtain ⟨_, ⟨_, h0⟩ | ⟨g, cap, cur, h1, _⟩⟩ := h
  · omega
  · injection h1 with h1
    exact ⟨g, h1⟩
end Go.Proofs.YtiflooopfpcelacDoor
