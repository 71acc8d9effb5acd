/- Contract of chapter 8's function GoodRef (package impl). Condition: the heap's rows can be read. -/
import Derived.Test.YtpenneklpolhgaaDoorH8
namespace Go.Proofs.YtpenneklpolhgaaDoor
set_option maxRecDepth 20000
set_option linter.unusedSimpArgs false
set_option linter.unusedVariables false
open Go.ChangeShapes Go.WideShapes Go.ChangeAt Go.RowKit
set_option linter.unusedVariables false
set_option maxHeartbeats 800000 in
theorem impl_GoodRef (gv lv : Value) (h : Hp) (r : P2) (w : World) (rd : RdHp w gv lv h) :
    Calls Tryd.prog 28 #[.agg #[gv, lv], .agg #[.int .i64 r.a, .int .i64 r.b]] w fun e w' => e = .returned (.bool (goodB h r)) ∧ Below w.heap.size w w' := by
  obtain ⟨A, c, B, d, rfl, rfl, hc1, hd1, hc2, hd2⟩ := rd.slices
  have hB0 := ((Below.refl w.heap.size w).alloc (Nat.le_refl _) (.cells #[.slice A h.g.length c, .slice B h.l.length d] 29)).alloc (by simp) (.cells #[.int .i64 r.a, .int .i64 r.b] 33)
  have HC := Lib.hid (heap_check _ _ h r _ (rd.below hB0))
  cases hg : goodB h r
  · have hne : ∃ c, refE h r = .iface 69 (.int .i64 c) := by
      cases hi : inH h r.a
      · exact ⟨1, refE_out hi⟩
      · exact ⟨2, refE_stale hi hg⟩
    obtain ⟨c, hc⟩ := hne
    rw [hc] at HC
    clear hg hc
    go_enter Tryd.func28, Tryd.ntmps28
    go_wp2_with (go_at_call 41; refine HC.out.mono ?_; rintro e w1 ⟨rfl, hb1⟩)
    go_ret
    exact ⟨rfl, hB0.trans (hb1.mono hB0.size)⟩
  · rw [refE_good hg] at HC
    clear hg
    go_enter Tryd.func28, Tryd.ntmps28
    go_wp2_with (go_at_call 41; refine HC.out.mono ?_; rintro e w1 ⟨rfl, hb1⟩)
    go_ret
    exact ⟨rfl, hB0.trans (hb1.mono hB0.size)⟩
end Go.Proofs.YtpenneklpolhgaaDoor
