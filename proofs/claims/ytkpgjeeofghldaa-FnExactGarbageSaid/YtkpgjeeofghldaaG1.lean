/- Chapter 14's count of what waits (Garbage): contracts of both sides. Condition: the bench's rows can be read; lengths that a law bounds. -/
import Derived.Test.YtkpgjeeofghldaaN1
import Derived.Test.YtkpgjeeofghldaaN6
namespace Go.Proofs.Ytkpgjeeofghldaa
set_option maxRecDepth 20000
set_option linter.unusedSimpArgs false
set_option linter.unusedVariables false
open Go.ChangeShapes Go.WideShapes Go.ChangeAt Go.RowKit
set_option linter.unusedVariables false
def garbF (B : Bn) : Int := if bnOk B then (B.w.length : Int) else -1
theorem ret_intG {k j : Int} (h : k = j) : Ending.returned (.int .i64 k) = .returned (.int .i64 j) := by rw [h]
set_option maxHeartbeats 1600000 in
theorem spec_Garbage (a b c d : Value) (B : Bn) (w : World) (r : RdBn w a b c d B)  (hsz : szBn B ≤ 16777216) :
    Calls Try.prog 5 #[.agg #[a, b, c, d, .int .i64 B.n]] w fun e w' => e = .returned (.int .i64 (garbF B)) ∧ Below w.heap.size w w' := by
  obtain ⟨A1, c1, A2, c2, A3, c3, A4, c4, ⟨rfl, rfl, rfl, rfl⟩, -, -⟩ := r.slices
  have hB0 := (Below.refl w.heap.size w).alloc (Nat.le_refl _) (.cells #[.slice A1 B.l.length c1, .slice A2 B.h.length c2, .slice A3 B.w.length c3, .slice A4 B.f.length c4, .int .i64 B.n] 30)
  have k0 := Bk.new w #[.slice A1 B.l.length c1, .slice A2 B.h.length c2, .slice A3 B.w.length c3, .slice A4 B.f.length c4, .int .i64 B.n] 30
  have hC := spec_BenchOk _ _ _ _ B _ (r.below hB0) (by omega)
  cases hok : bnOk B
  · rw [hok] at hC
    have HC := Lib.hid hC
    have HF : Hid (garbF B = -1) := Lib.hid (by simp [garbF, hok])
    clear hC hok r
    go_enter Try.func5, Try.ntmps5
    go_wp2_with (go_at_call 11; refine HC.out.mono ?_; rintro e w1 ⟨rfl, hb1⟩)
    go_ret
    exact ⟨ret_intG HF.out.symm, hB0.trans (hb1.mono hB0.size)⟩
  · rw [hok] at hC
    have HC := Lib.hid hC
    have HF : Hid (garbF B = (B.w.length : Int)) := Lib.hid (by simp [garbF, hok])
    clear hC hok r
    go_enter Try.func5, Try.ntmps5
    go_wp2_with (go_at_call 11; refine HC.out.mono ?_; rintro e w1 ⟨rfl, hb1⟩; obtain ⟨hx2, -⟩ := (k0.below hb1 k0.lt).at_ 2 (x := .slice A3 B.w.length c3) rfl)
    go_ret
    exact ⟨ret_intG HF.out.symm, hB0.trans (hb1.mono hB0.size)⟩
set_option maxHeartbeats 1600000 in
theorem impl_Garbage (a b c d : Value) (B : Bn) (w : World) (r : RdBn w a b c d B) (hw : BnR B) (hsz : szBn B ≤ 16777216) :
    Calls Try.prog 7 #[.agg #[a, b, c, d, .int .i64 B.n]] w fun e w' => e = .returned (.int .i64 (garbF B)) ∧ Below w.heap.size w w' := by
  obtain ⟨A1, c1, A2, c2, A3, c3, A4, c4, ⟨rfl, rfl, rfl, rfl⟩, -, -⟩ := r.slices
  have hB0 := (Below.refl w.heap.size w).alloc (Nat.le_refl _) (.cells #[.slice A1 B.l.length c1, .slice A2 B.h.length c2, .slice A3 B.w.length c3, .slice A4 B.f.length c4, .int .i64 B.n] 30)
  have k0 := Bk.new w #[.slice A1 B.l.length c1, .slice A2 B.h.length c2, .slice A3 B.w.length c3, .slice A4 B.f.length c4, .int .i64 B.n] 30
  have hC := impl_BenchOk _ _ _ _ B _ (r.below hB0) hw (by omega)
  cases hok : bnOk B
  · rw [hok] at hC
    have HC := Lib.hid hC
    have HF : Hid (garbF B = -1) := Lib.hid (by simp [garbF, hok])
    clear hC hok r
    go_enter Try.func7, Try.ntmps7
    go_wp2_with (go_at_call 14; refine HC.out.mono ?_; rintro e w1 ⟨rfl, hb1⟩)
    go_ret
    exact ⟨ret_intG HF.out.symm, hB0.trans (hb1.mono hB0.size)⟩
  · rw [hok] at hC
    have HC := Lib.hid hC
    have HF : Hid (garbF B = (B.w.length : Int)) := Lib.hid (by simp [garbF, hok])
    clear hC hok r
    go_enter Try.func7, Try.ntmps7
    go_wp2_with (go_at_call 14; refine HC.out.mono ?_; rintro e w1 ⟨rfl, hb1⟩; obtain ⟨hx2, -⟩ := (k0.below hb1 k0.lt).at_ 2 (x := .slice A3 B.w.length c3) rfl)
    go_ret
    exact ⟨ret_intG HF.out.symm, hB0.trans (hb1.mono hB0.size)⟩
end Go.Proofs.Ytkpgjeeofghldaa
