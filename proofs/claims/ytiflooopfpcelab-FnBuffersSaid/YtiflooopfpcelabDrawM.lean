/- What DrawMemOk and DrawMemText may give: a memory whose values are in their bounds. Condition: the bytes can be read, at most 1048576. -/
import Derived.Test.YtiflooopfpcelabDraw
namespace Go.Proofs.Ytiflooopfpcelab
set_option maxRecDepth 20000
set_option linter.unusedSimpArgs false
set_option linter.unusedVariables false
open Go.ChangeShapes Go.WideShapes Go.ChangeAt Go.RowKit
set_option linter.unusedVariables false
def DrawnM (w : World) (e : Ending) (w' : World) : Prop :=
  ∃ v' ys bs, e = .returned (.agg #[v']) ∧ MemVal ys ∧ Own w' v' 1 ys.length (ints ys) bs ∧ (∀ b ∈ bs, w.heap.size ≤ b) ∧ Below w.heap.size w w'
theorem Byt.alloc {w : World} {A : Option Addr} {n : Nat} (h : Byt w A n) (o : Obj) : Byt (w.alloc o) A n :=
  h.keep (B := 0) (fun ad ha hn => by obtain ⟨ad', e1, e2, _⟩ := h hn; rw [ha] at e1; injection e1 with e1; subst e1; exact Below.heap_alloc w _ _ e2) (by simp)
theorem Byt.lt {w : World} {A : Option Addr} {n : Nat} (h : Byt w A n) : ∀ ad, A = some ad → 0 < n → ad.block < w.heap.size := fun ad ha hn => by
  obtain ⟨ad', e1, e2, _⟩ := h hn
  rw [ha] at e1
  injection e1 with e1
  subst e1
  exact e2
end Go.Proofs.Ytiflooopfpcelab
