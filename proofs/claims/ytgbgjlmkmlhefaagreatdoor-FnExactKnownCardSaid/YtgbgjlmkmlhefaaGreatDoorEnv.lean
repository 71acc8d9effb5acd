/- What ParseMem asks of the library's variables, in one word. -/
import Derived.Test.YtgbgjlmkmlhefaaGreatDoorP3
namespace Go.Proofs.YtgbgjlmkmlhefaaGreatDoor
set_option maxRecDepth 20000
set_option linter.unusedSimpArgs false
set_option linter.unusedVariables false
open Go.ChangeShapes Go.WideShapes Go.ChangeAt Go.RowKit
set_option linter.unusedVariables false
structure Env (w : World) : Prop where
  tab : Tab w
  errs : Errs w
  max : MaxSet w
theorem Env.below {B : Nat} {w w' : World} (h : Env w) (hb : Below B w w') (hB : w.heap.size ≤ B) : Env w' := by
  refine ⟨h.tab.below hb hB, h.errs.below hb hB, ?_⟩
  obtain ⟨m, hm⟩ := h.max
  exact ⟨m, (hb.cell (p := ⟨1, 0, none⟩) (by have := World.block_lt_of_cell? _ _ hm; show 1 < B; have : 1 < w.heap.size := this; omega)).trans hm⟩
theorem specParseF_len (s : List UInt8) : ((specParseF s).getD []).length ≤ 16 := by
  unfold specParseF
  split
  · simp
  · cases hm : memF (listF (partsF 32 s)) with
    | none => simp
    | some xs =>
      have := memOk_parts (memF_some.1 hm).2
      simpa using this.2.1
end Go.Proofs.YtgbgjlmkmlhefaaGreatDoor
