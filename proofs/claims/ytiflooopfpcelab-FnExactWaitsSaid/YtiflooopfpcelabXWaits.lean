/- FnExactWaits answers true at every input: Waits answers as its model does, leaves its arguments alone and owns its answer. Conditions: none. -/
import Derived.Test.YtiflooopfpcelabLaw
import Derived.Test.YtiflooopfpcelabLaw3
import Derived.Test.YtiflooopfpcelabB2
import Derived.Deep.RegionHeld3
namespace Go.Proofs.Ytiflooopfpcelab
set_option maxRecDepth 20000
set_option linter.unusedSimpArgs false
set_option linter.unusedVariables false
open Go.ChangeShapes Go.WideShapes Go.ChangeAt Go.RowKit
set_option linter.unusedVariables false
set_option maxHeartbeats 4000000 in
theorem walk_Waits (v0 : Value) (xs0 : List P2) (a1 : Int) (w : World) (hA0 : RdA w v0 2 xs0.length (flc2 xs0)) (hw1 : (Lit.int .i64 a1).wf = true) :
    Calls Try.prog 14 #[v0, .int .i64 a1] w fun e w' => e = .returned (.bool true) ∧ Below w.heap.size w w' := by
  obtain ⟨Aa0, da0, rfl, -, -, -, -⟩ := id hA0
  have HAaB := Lib.hid hA0
  clear hA0
  have hB := Below.refl w.heap.size w
  go_enter Try.func14, Try.ntmps14
  go_wp2_with fail
  refine (toB (szSlotS _ _ _ (1048576) _ (HAaB.out.below hB) (by omega) (by omega))).mono ?_
  rintro e w1 ⟨rfl, hb1⟩
  have sz2 := hb1.size
  try simp only [World.size_alloc] at sz2
  have hB' := hB.trans (hb1.mono hB.size)
  clear hB
  by_cases hn1 : (1048576 : Int) - xs0.length < 0
  · rw [show szF xs0.length (1048576) = -1 by unfold szF; rw [if_pos hn1]]
    go_wp2_with fail
    go_ret
    exact ⟨rfl, hB'⟩
  rw [show szF xs0.length (1048576) = 1048576 - xs0.length by unfold szF; rw [if_neg hn1]]
  go_wp2_with fail
  refine (toSlotS _ xs0 _ (HAaB.out.below hB') (by omega)).mono ?_
  rintro e w3 ⟨v3x0, bs3, rfl, ho3, lo3, hb3⟩
  have sz4 := hb3.size
  try simp only [World.size_alloc] at sz4
  have hB'' := hB'.trans (hb3.mono hB'.size)
  clear hB'
  have hi3 := ho3.lt
  try simp only [World.size_alloc] at lo3
  obtain ⟨A3, d3, rfl, -, -⟩ := ho3.slice
  go_wp2_with fail
  refine (toB (spec_Waits _ xs0 a1 _ ho3.rd)).mono ?_
  rintro e w5 ⟨rfl, hb5⟩
  have sz6 := hb5.size
  try simp only [World.size_alloc] at sz6
  have hB''' := hB''.trans (hb5.mono hB''.size)
  clear hB''
  have ho3' := ho3.below hb5
  clear ho3
  go_wp2_with fail
  refine (toSlotS _ xs0 _ (HAaB.out.below hB''') (by omega)).mono ?_
  rintro e w7 ⟨v7x0, bs7, rfl, ho7, lo7, hb7⟩
  have sz8 := hb7.size
  try simp only [World.size_alloc] at sz8
  have hB'''' := hB'''.trans (hb7.mono hB'''.size)
  clear hB'''
  have ho3'' := ho3'.below hb7
  clear ho3'
  have hi7 := ho7.lt
  try simp only [World.size_alloc] at lo7
  obtain ⟨A7, d7, rfl, -, -⟩ := ho7.slice
  go_wp2_with fail
  refine (impl_Waits _ xs0 a1 _ ho7.rd).mono ?_
  rintro e w9 ⟨rfl, hb9⟩
  have sz10 := hb9.size
  try simp only [World.size_alloc] at sz10
  have hB''''' := hB''''.trans (hb9.mono hB''''.size)
  clear hB''''
  have ho3''' := ho3''.below hb9
  clear ho3''
  have ho7' := ho7.below hb9
  clear ho7
  go_wp2_with fail
  refine (toSlotS _ xs0 _ (HAaB.out.below hB''''') (by omega)).mono ?_
  rintro e w11 ⟨v11x0, bs11, rfl, ho11, lo11, hb11⟩
  have sz12 := hb11.size
  try simp only [World.size_alloc] at sz12
  have hB'''''' := hB'''''.trans (hb11.mono hB'''''.size)
  clear hB'''''
  have ho3'''' := ho3'''.below hb11
  clear ho3'''
  have ho7'' := ho7'.below hb11
  clear ho7'
  have hi11 := ho11.lt
  try simp only [World.size_alloc] at lo11
  obtain ⟨A11, d11, rfl, -, -⟩ := ho11.slice
  go_wp2_with fail
  refine (eqSlotS _ _ (xs0) (xs0) _ ho7''.rd ho11.rd).mono ?_
  rintro e w13 ⟨rfl, hb13⟩
  rw [decide_eq_true rfl]
  have sz14 := hb13.size
  try simp only [World.size_alloc] at sz14
  have hB''''''' := hB''''''.trans (hb13.mono hB''''''.size)
  clear hB''''''
  have ho3''''' := ho3''''.below hb13
  clear ho3''''
  have ho7''' := ho7''.below hb13
  clear ho7''
  have ho11' := ho11.below hb13
  clear ho11
  go_wp2_with fail
  go_ret
  exact ⟨rfl, hB'''''''⟩
set_option maxRecDepth 100000 in
theorem lift_Waits (os : Os) (started : os.Started) (H : Type) (enc : TypeId × Value → H) :
    ReturnsInHanded {} Try.checked os 14 .any (Rows.fnExactWaitsSpec.pre6 enc Try.prog Try.f14 Rows.fnExactWaitsRow.domain false) (Rows.fnExactWaitsSpec.post enc Try.prog Try.f14 false true false false) := by
  refine returnsInHanded_of_change (C := Try.checked) (by kernel_rfl) started (by kernel_rfl) Try.func14
    (ChangeSpec.witness6 (enc := enc) (C := Try.checked) false ⟨#[], #[.slice none 0 0, .int .i64 0], []⟩ 8 (by kernel_rfl) (by kernel_rfl) (by kernel_rfl) (by kernel_rfl)) ?_
  intro W base args ds gs before hval0 hW hcnd _
  have hval : ∀ (j : Nat) t v, Try.f14.params[j]? = some t → args[j]? = some v → Value.okWide Try.prog W .any base t v := hval0
  have hW' := hW
  obtain ⟨p, q, hA0, hV, rfl, hfz, hnd⟩ := hW
  have hA : DataW.TrodAll enc Try.prog W 0 (fun _ => true) true Try.f14.params.toList args.toList ds p := hA0
  rw [Try.params14] at hA hval
  obtain ⟨v0, vs0, d0, ds0, p0, q0, hargs, rfl, rfl, h0, r0⟩ := trodAll_cons hA
  obtain ⟨v1, vs1, d1, ds1, p1, q1, rfl, rfl, rfl, h1, r1⟩ := trodAll_cons r0
  obtain ⟨rfl, rfl, rfl⟩ := trodAll_nil r1
  obtain rfl : args = #[v0, v1] := by cases args; simp_all
  obtain ⟨rfl, rfl⟩ := trodVars_none hV
  obtain ⟨c0, l0, e0, rfl⟩ := okWide_slice Try.underlying63 (hval 0 _ v0 rfl rfl)
  obtain ⟨fuel0, hf0⟩ := h0
  obtain ⟨xs0, hR0, hI0⟩ := read_p2s Try.underlying63 Try.underlying118 (by kernel_rfl) ⟨rfl, rfl⟩ (by decide +kernel) ⟨Try.underlying3, Try.underlying3⟩ (by simpa [Value.cells] using hf0)
  obtain ⟨a1, rfl, rfl, rfl, w1⟩ := open_int Try.underlying3 (hval 1 _ v1 rfl rfl) h1
  refine (walk_Waits _ xs0 a1 W hR0 w1).mono fun e W' ⟨he, hb⟩ => ?_
  subst he
  exact ⟨_, rfl, post_law (by kernel_rfl) rfl rfl (by kernel_rfl) Try.underlying4 (of_decide_eq_true (by kernel_rfl)) hW' hb⟩
theorem FnExactWaits_holds : Rows.FnExactWaitsSaid :=
  OpenClaim.holds_of_wide 14 Try.f14 rfl rfl rfl rfl rfl rfl rfl ⟨rfl, rfl, rfl, rfl, rfl⟩ rfl rfl rfl rfl rfl (by kernel_rfl) Try.func14 (by kernel_rfl)
    (of_decide_eq_true (by kernel_rfl)) (by unfold Func.isWrapper; first | (rw [if_pos (by decide +kernel)]; kernel_rfl) | (rw [if_neg (by decide +kernel)]; exact ⟨rfl, rfl⟩))
    (fun os started H enc _ => lift_Waits os started H enc)
#print axioms FnExactWaits_holds
end Go.Proofs.Ytiflooopfpcelab
