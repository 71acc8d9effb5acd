/- Contracts of core and effectOf (package impl). Condition: the machine lies in the box. -/
import Derived.Test.YtiflooopfpcelaaC12
import Derived.Test.YtiflooopfpcelaaHeads
import Derived.StillTailTactics
import Derived.Laws.EntriesVeiled
namespace Go.Proofs.Ytiflooopfpcelaa
set_option maxRecDepth 20000
set_option linter.unusedSimpArgs false
set_option linter.unusedVariables false
open Go.ChangeShapes Go.WideShapes Go.ChangeAt Go.RowKit
set_option linter.unusedVariables false
def coreV (bT oT k gm : Nat) : Value := .agg #[.pointer (some ⟨bT, oT + k * 3, none⟩), .pointer (some ⟨gm, 0, none⟩)]
set_option maxHeartbeats 1600000 in
theorem impl_core (gm bT oT c k : Nat) (mv : Value) (M : Ma) (vs : List (Value × Value)) (qs : List (List Nat × List Nat)) (bm : List Nat) (w : World) (hM : MB w gm bT oT c mv M vs qs bm) (hk : k < M.ths.length) :
    Calls Try.prog 86 #[.pointer (some ⟨gm, 0, none⟩), .int .i64 k] w fun e w' => e = .returned (coreV bT oT k gm) ∧ Below w.heap.size w w' := by
  obtain ⟨b', o', c', he, -, -, -, hc1, hc2⟩ := hM.ths.row.open_ (by omega)
  injection he with he1 _ he3
  subst he3
  clear he1
  have hb := (Below.refl w.heap.size w).alloc (Nat.le_refl _) (.cells #[.pointer none, .pointer none] 123)
  have k0 := Bk.new w #[.pointer none, .pointer none] 123
  have hM0 := (hM.below hb).box
  obtain ⟨x1, -⟩ := hM0.at_ 1 (x := .slice (some ⟨bT, oT, none⟩) M.ths.length c) rfl
  obtain ⟨p0, q0⟩ := k0.at_ 0 (x := .pointer none) rfl
  obtain ⟨p1, q1⟩ := k0.at_ 1 (x := .pointer none) rfl
  have k2 := (k0.set_ 0 (.pointer (some ⟨bT, oT + k * 3, none⟩))).set_ 1 (.pointer (some ⟨gm, 0, none⟩))
  have HK := Lib.hid k2
  have HB := Lib.hid ((hb.setCell (p := ⟨w.heap.size, 0, none⟩) (Nat.le_refl _) (.pointer (some ⟨bT, oT + k * 3, none⟩))).setCell (p := ⟨w.heap.size, 1, none⟩) (Nat.le_refl _) (.pointer (some ⟨gm, 0, none⟩)))
  obtain ⟨W0, hW0⟩ : ∃ W0, W0 = w.alloc (.cells #[.pointer none, .pointer none] 123) := ⟨_, rfl⟩
  have HW := Lib.hid hW0
  rw [← hW0] at x1 p0 q0 p1 q1 HK HB
  have hk' : (k : Int) < M.ths.length := by omega
  clear hb k0 hM0 hM hW0 k2
  unfold coreV
  go_enter Try.func86, Try.ntmps86
  go_wp2_with fail
  rw [← HW.out]
  refine wp_region_still_tail 10 (by kernel_rfl) (by kernel_rfl) ?_
  simp only [List.take_succ_cons, List.take_zero, List.drop_succ_cons, List.drop_zero]
  rw [show ({ W0 with drawn := W0.drawn + 1 } : World) = W0.drew from rfl]
  repeat still_step
  try refine wpStill_nil ?_
  go_wp2_with fail
  obtain ⟨r0, -⟩ := HK.out.at_ 0 (x := .pointer (some ⟨bT, oT + k * 3, none⟩)) rfl
  obtain ⟨r1, -⟩ := HK.out.at_ 1 (x := .pointer (some ⟨gm, 0, none⟩)) rfl
  exact bodyPost_ret (v := .agg #[.pointer (some ⟨bT, oT + k * 3, none⟩), .pointer (some ⟨gm, 0, none⟩)]) (by simp [results, Try.results86, go_sem, r0, r1]) rfl ⟨rfl, HB.out.drew⟩
def effV (o : Int) : Value :=
  if o = 0 then .func (.func 145) #[] #[] else if o = 1 then .func (.func 146) #[] #[] else if o = 2 then .func (.func 147) #[] #[]
  else if o = 3 then .func (.func 148) #[] #[] else if o = 4 then .func (.func 149) #[] #[] else if o = 5 then .func (.func 150) #[] #[]
  else if o = 6 then .func (.func 151) #[] #[] else if o = 7 then .func (.func 152) #[] #[] else .func (.func 153) #[] #[]
set_option maxHeartbeats 1600000 in
theorem impl_effectOf (o : Int) (w : World) (ho : 0 ≤ o ∧ o ≤ 8) :
    Calls Try.prog 129 #[.int .i64 o] w fun e w' => e = .returned (effV o) ∧ Below w.heap.size w w' := by
  obtain rfl | rfl | rfl | rfl | rfl | rfl | rfl | rfl | rfl : o = 0 ∨ o = 1 ∨ o = 2 ∨ o = 3 ∨ o = 4 ∨ o = 5 ∨ o = 6 ∨ o = 7 ∨ o = 8 := by omega
  all_goals
    go_enter Try.func129, Try.ntmps129
    go_wp2_with fail
    go_ret
    exact ⟨rfl, (Below.refl _ _).alloc (Nat.le_refl _) _⟩
end Go.Proofs.Ytiflooopfpcelaa
