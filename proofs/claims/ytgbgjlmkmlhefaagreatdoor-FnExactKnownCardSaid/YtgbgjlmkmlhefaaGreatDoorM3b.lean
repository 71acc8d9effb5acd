/- Contracts of the laws' helpers over programs: size, copy, equality. -/
import Derived.Test.YtgbgjlmkmlhefaaGreatDoorM3
namespace Go.Proofs.YtgbgjlmkmlhefaaGreatDoor
set_option maxRecDepth 20000
set_option linter.unusedSimpArgs false
set_option linter.unusedVariables false
open Go.ChangeShapes Go.WideShapes Go.ChangeAt Go.RowKit
/-- a program -/
structure Pr where
  c : Int
  x : List (List Ins)
deriving DecidableEq
set_option maxHeartbeats 400000 in
theorem eqProg (v u : Value) (p q : Pr) (w : World) (h : RdSS w v p.x) (h' : RdSS w u q.x) :
    Calls Tryz.prog 15 #[.agg #[.int .i64 p.c, v], .agg #[.int .i64 q.c, u]] w fun e w' => e = .returned (.bool (decide (p = q))) ∧ Below w.heap.size w w' := by
  obtain ⟨vs, ⟨A, c, rfl, -, -, -, -⟩, -⟩ := id h
  obtain ⟨vs', ⟨A', c', rfl, -, -, -, -⟩, -⟩ := id h'
  obtain ⟨pc, px⟩ := p
  obtain ⟨qc, qx⟩ := q
  have hB := ((Below.refl w.heap.size w).alloc (Nat.le_refl _) (.cells #[.int .i64 pc, .slice A px.length c] 26)).alloc (by simp) (.cells #[.int .i64 qc, .slice A' qx.length c'] 26)
  by_cases h1 : pc = qc
  · subst h1
    have hr := eqInstrSS _ _ px qx _ (h.below hB) (h'.below hB)
    have hd : decide (Pr.mk pc px = Pr.mk pc qx) = decide (px = qx) := by simp
    have HR := Lib.hid hr
    have HB := Lib.hid hB
    have HD := Lib.hid hd
    clear h h' hr hB hd
    go_enter Tryz.func15, Tryz.ntmps15
    go_wp2_with fail
    refine HR.out.mono ?_
    rintro e w1 ⟨rfl, hb1⟩
    cases hdd : decide (px = qx)
    all_goals
      have HE := Lib.hid hdd
      clear hdd
      go_wp2_with fail
      go_ret
      exact ⟨ret_bool (HD.out.trans HE.out).symm, HB.out.trans (hb1.mono HB.out.size)⟩
  · have hne : (pc != qc) = true := by simp [h1]
    have HB := Lib.hid hB
    have HD : Hid (decide (Pr.mk pc px = Pr.mk qc qx) = false) := Lib.hid (by simp [h1])
    clear h h' hB h1
    go_enter Tryz.func15, Tryz.ntmps15
    go_wp2_with fail
    go_ret
    exact ⟨ret_bool HD.out.symm, HB.out⟩
end Go.Proofs.YtgbgjlmkmlhefaaGreatDoor
