/- FnExactWithFences answers true at every input: WithFences answers as its model does, leaves its arguments alone and owns its answer. Conditions: none. -/
import Derived.Test.YtgbgjlmkmlhefaaLaw
import Derived.Test.YtgbgjlmkmlhefaaLaw2
import Derived.Test.YtgbgjlmkmlhefaaI7
import Derived.Deep.RegionHeld3
namespace Go.Proofs.Ytgbgjlmkmlhefaa
set_option maxRecDepth 20000
set_option linter.unusedSimpArgs false
set_option linter.unusedVariables false
open Go.ChangeShapes Go.WideShapes Go.ChangeAt Go.RowKit
set_option linter.unusedVariables false
set_option maxHeartbeats 4000000 in
theorem walk_WithFences (v0 : Value) (xs0 : List Ins) (w : World) (hA0 : RdA w v0 4 xs0.length (flc xs0)) :
    Calls Try.prog 9 #[v0] w fun e w' => e = .returned (.bool true) ∧ Below w.heap.size w w' := by
  obtain ⟨Aa0, da0, rfl, -, -, -, -⟩ := id hA0
  have HAaCode := Lib.hid hA0
  clear hA0
  have hq : ((wfF xs0).getD []).length ≤ 16 := wfF_len xs0
  have hB := Below.refl w.heap.size w
  go_enter Try.func9, Try.ntmps9
  go_wp2_with fail
  refine (toB (szInstrS _ _ _ (1048576) _ (HAaCode.out.below hB) (by omega) (by omega))).mono ?_
  rintro e w1 ⟨rfl, hb1⟩
  have sz2 := hb1.size
  try simp only [World.size_alloc] at sz2
  have hB' := hB.trans (hb1.mono hB.size)
  clear hB
  by_cases hn1 : (1048576 : Int) - xs0.length < 0
  · rw [show szF xs0.length (1048576) = -1 by unfold szF; rw [if_pos hn1]]
    go_wp2_with fail
    go_ret
    exact ⟨rfl, hB'⟩
  rw [show szF xs0.length (1048576) = 1048576 - xs0.length by unfold szF; rw [if_neg hn1]]
  go_wp2_with fail
  refine (toInstrS _ xs0 _ (HAaCode.out.below hB') (by omega)).mono ?_
  rintro e w3 ⟨v3x0, bs3, rfl, ho3, lo3, hb3⟩
  have sz4 := hb3.size
  try simp only [World.size_alloc] at sz4
  have hB'' := hB'.trans (hb3.mono hB'.size)
  clear hB'
  have hi3 := ho3.lt
  try simp only [World.size_alloc] at lo3
  obtain ⟨A3, d3, rfl, -, -⟩ := ho3.slice
  go_wp2_with fail
  refine (spec_WithFences _ xs0 _ ho3.rd).mono ?_
  rintro e w5 ⟨v6x0, bs6, rfl, ho6, lo6, hb6⟩
  have sz7 := hb6.size
  try simp only [World.size_alloc] at sz7
  have hB''' := hB''.trans (hb6.mono hB''.size)
  clear hB''
  have ho3' := ho3.below hb6
  clear ho3
  have hi6 := ho6.lt
  try simp only [World.size_alloc] at lo6
  obtain ⟨A6, d6, rfl, -, -⟩ := ho6.slice
  go_wp2_with fail
  refine (toInstrS _ xs0 _ (HAaCode.out.below hB''') (by omega)).mono ?_
  rintro e w8 ⟨v8x0, bs8, rfl, ho8, lo8, hb8⟩
  have sz9 := hb8.size
  try simp only [World.size_alloc] at sz9
  have hB'''' := hB'''.trans (hb8.mono hB'''.size)
  clear hB'''
  have ho3'' := ho3'.below hb8
  clear ho3'
  have ho6' := ho6.below hb8
  clear ho6
  have hi8 := ho8.lt
  try simp only [World.size_alloc] at lo8
  obtain ⟨A8, d8, rfl, -, -⟩ := ho8.slice
  go_wp2_with fail
  refine (impl_WithFences _ xs0 _ ho8.rd).mono ?_
  rintro e w10 ⟨v11x0, bs11, rfl, ho11, lo11, hb11⟩
  have sz12 := hb11.size
  try simp only [World.size_alloc] at sz12
  have hB''''' := hB''''.trans (hb11.mono hB''''.size)
  clear hB''''
  have ho3''' := ho3''.below hb11
  clear ho3''
  have ho6'' := ho6'.below hb11
  clear ho6'
  have ho8' := ho8.below hb11
  clear ho8
  have hi11 := ho11.lt
  try simp only [World.size_alloc] at lo11
  obtain ⟨A11, d11, rfl, -, -⟩ := ho11.slice
  go_wp2_with fail
  refine (eqInstrS _ _ (((wfF xs0).getD [])) (((wfF xs0).getD [])) _ ho11.rd ho6''.rd).mono ?_
  rintro e w13 ⟨rfl, hb13⟩
  rw [decide_eq_true rfl]
  have sz14 := hb13.size
  try simp only [World.size_alloc] at sz14
  have hB'''''' := hB'''''.trans (hb13.mono hB'''''.size)
  clear hB'''''
  have ho3'''' := ho3'''.below hb13
  clear ho3'''
  have ho6''' := ho6''.below hb13
  clear ho6''
  have ho8'' := ho8'.below hb13
  clear ho8'
  have ho11' := ho11.below hb13
  clear ho11
  go_wp2_with fail
  refine (toInstrS _ xs0 _ (HAaCode.out.below hB'''''') (by omega)).mono ?_
  rintro e w15 ⟨v15x0, bs15, rfl, ho15, lo15, hb15⟩
  have sz16 := hb15.size
  try simp only [World.size_alloc] at sz16
  have hB''''''' := hB''''''.trans (hb15.mono hB''''''.size)
  clear hB''''''
  have ho3''''' := ho3''''.below hb15
  clear ho3''''
  have ho6'''' := ho6'''.below hb15
  clear ho6'''
  have ho8''' := ho8''.below hb15
  clear ho8''
  have ho11'' := ho11'.below hb15
  clear ho11'
  have hi15 := ho15.lt
  try simp only [World.size_alloc] at lo15
  obtain ⟨A15, d15, rfl, -, -⟩ := ho15.slice
  go_wp2_with fail
  refine (eqInstrS _ _ (xs0) (xs0) _ ho8'''.rd ho15.rd).mono ?_
  rintro e w17 ⟨rfl, hb17⟩
  rw [decide_eq_true rfl]
  have sz18 := hb17.size
  try simp only [World.size_alloc] at sz18
  have hB'''''''' := hB'''''''.trans (hb17.mono hB'''''''.size)
  clear hB'''''''
  have ho3'''''' := ho3'''''.below hb17
  clear ho3'''''
  have ho6''''' := ho6''''.below hb17
  clear ho6''''
  have ho8'''' := ho8'''.below hb17
  clear ho8'''
  have ho11''' := ho11''.below hb17
  clear ho11''
  have ho15' := ho15.below hb17
  clear ho15
  go_wp2_with fail
  refine (markInstrS _ _ xs0.length bs8 (1) _ ho8'''' (by omega) (by omega) (by omega)).mono ?_
  rintro e w19 ⟨rfl, hq19, hon19⟩
  have sz20 := hon19.size
  try simp only [World.size_alloc] at sz20
  have hB''''''''' := hB''''''''.trans (hon19.below hB''''''''.size (fun b hb => by have := lo8 b hb; omega))
  clear hB''''''''
  have ho3''''''' := ho3''''''.only hon19 (fun b hb hm => by have := lo8 b hm; have := hi8 b hm; have := lo3 b hb; have := hi3 b hb; omega)
  clear ho3''''''
  have ho6'''''' := ho6'''''.only hon19 (fun b hb hm => by have := lo8 b hm; have := hi8 b hm; have := lo6 b hb; have := hi6 b hb; omega)
  clear ho6'''''
  have ho11'''' := ho11'''.only hon19 (fun b hb hm => by have := lo8 b hm; have := hi8 b hm; have := lo11 b hb; have := hi11 b hb; omega)
  clear ho11'''
  have ho15'' := ho15'.only hon19 (fun b hb hm => by have := lo8 b hm; have := hi8 b hm; have := lo15 b hb; have := hi15 b hb; omega)
  clear ho15'
  go_wp2_with fail
  refine (eqInstrS _ _ (((wfF xs0).getD [])) (((wfF xs0).getD [])) _ ho11''''.rd ho6''''''.rd).mono ?_
  rintro e w21 ⟨rfl, hb21⟩
  rw [decide_eq_true rfl]
  have sz22 := hb21.size
  try simp only [World.size_alloc] at sz22
  have hB'''''''''' := hB'''''''''.trans (hb21.mono hB'''''''''.size)
  clear hB'''''''''
  have ho3'''''''' := ho3'''''''.below hb21
  clear ho3'''''''
  have ho6''''''' := ho6''''''.below hb21
  clear ho6''''''
  have hq19' := hq19.below hb21
  clear hq19
  have ho11''''' := ho11''''.below hb21
  clear ho11''''
  have ho15''' := ho15''.below hb21
  clear ho15''
  go_wp2_with fail
  refine (markInstrS _ _ ((wfF xs0).getD []).length bs11 (1) _ ho11''''' (by omega) (by omega) (by omega)).mono ?_
  rintro e w23 ⟨rfl, hq23, hon23⟩
  have sz24 := hon23.size
  try simp only [World.size_alloc] at sz24
  have hB''''''''''' := hB''''''''''.trans (hon23.below hB''''''''''.size (fun b hb => by have := lo11 b hb; omega))
  clear hB''''''''''
  have ho3''''''''' := ho3''''''''.only hon23 (fun b hb hm => by have := lo11 b hm; have := hi11 b hm; have := lo3 b hb; have := hi3 b hb; omega)
  clear ho3''''''''
  have ho6'''''''' := ho6'''''''.only hon23 (fun b hb hm => by have := lo11 b hm; have := hi11 b hm; have := lo6 b hb; have := hi6 b hb; omega)
  clear ho6'''''''
  have hq19'' := hq19'.only hon23 (fun b hb hm => by have := lo11 b hm; have := hi11 b hm; have := lo8 b hb; have := hi8 b hb; omega)
  clear hq19'
  have ho15'''' := ho15'''.only hon23 (fun b hb hm => by have := lo11 b hm; have := hi11 b hm; have := lo15 b hb; have := hi15 b hb; omega)
  clear ho15'''
  go_wp2_with fail
  refine (heldInstrSB _ ((wfF xs0).getD []).length _ _ hq23.rd (by omega) (by omega) (by omega)).mono ?_
  rintro e w25 ⟨rfl, hb25⟩
  have sz26 := hb25.size
  try simp only [World.size_alloc] at sz26
  have hB'''''''''''' := hB'''''''''''.trans (hb25.mono hB'''''''''''.size)
  clear hB'''''''''''
  have ho3'''''''''' := ho3'''''''''.below hb25
  clear ho3'''''''''
  have ho6''''''''' := ho6''''''''.below hb25
  clear ho6''''''''
  have hq19''' := hq19''.below hb25
  clear hq19''
  have hq23' := hq23.below hb25
  clear hq23
  have ho15''''' := ho15''''.below hb25
  clear ho15''''
  go_wp2_with fail
  refine (toInstrS _ xs0 _ (HAaCode.out.below hB'''''''''''') (by omega)).mono ?_
  rintro e w27 ⟨v27x0, bs27, rfl, ho27, lo27, hb27⟩
  have sz28 := hb27.size
  try simp only [World.size_alloc] at sz28
  have hB''''''''''''' := hB''''''''''''.trans (hb27.mono hB''''''''''''.size)
  clear hB''''''''''''
  have ho3''''''''''' := ho3''''''''''.below hb27
  clear ho3''''''''''
  have ho6'''''''''' := ho6'''''''''.below hb27
  clear ho6'''''''''
  have hq19'''' := hq19'''.below hb27
  clear hq19'''
  have hq23'' := hq23'.below hb27
  clear hq23'
  have ho15'''''' := ho15'''''.below hb27
  clear ho15'''''
  have hi27 := ho27.lt
  try simp only [World.size_alloc] at lo27
  obtain ⟨A27, d27, rfl, -, -⟩ := ho27.slice
  go_wp2_with fail
  refine (impl_WithFences _ xs0 _ ho27.rd).mono ?_
  rintro e w29 ⟨v30x0, bs30, rfl, ho30, lo30, hb30⟩
  have sz31 := hb30.size
  try simp only [World.size_alloc] at sz31
  have hB'''''''''''''' := hB'''''''''''''.trans (hb30.mono hB'''''''''''''.size)
  clear hB'''''''''''''
  have ho3'''''''''''' := ho3'''''''''''.below hb30
  clear ho3'''''''''''
  have ho6''''''''''' := ho6''''''''''.below hb30
  clear ho6''''''''''
  have hq19''''' := hq19''''.below hb30
  clear hq19''''
  have hq23''' := hq23''.below hb30
  clear hq23''
  have ho15''''''' := ho15''''''.below hb30
  clear ho15''''''
  have ho27' := ho27.below hb30
  clear ho27
  have hi30 := ho30.lt
  try simp only [World.size_alloc] at lo30
  obtain ⟨A30, d30, rfl, -, -⟩ := ho30.slice
  go_wp2_with fail
  refine (eqInstrS _ _ (((wfF xs0).getD [])) (((wfF xs0).getD [])) _ ho30.rd ho6'''''''''''.rd).mono ?_
  rintro e w32 ⟨rfl, hb32⟩
  rw [decide_eq_true rfl]
  have sz33 := hb32.size
  try simp only [World.size_alloc] at sz33
  have hB''''''''''''''' := hB''''''''''''''.trans (hb32.mono hB''''''''''''''.size)
  clear hB''''''''''''''
  have ho3''''''''''''' := ho3''''''''''''.below hb32
  clear ho3''''''''''''
  have ho6'''''''''''' := ho6'''''''''''.below hb32
  clear ho6'''''''''''
  have hq19'''''' := hq19'''''.below hb32
  clear hq19'''''
  have hq23'''' := hq23'''.below hb32
  clear hq23'''
  have ho15'''''''' := ho15'''''''.below hb32
  clear ho15'''''''
  have ho27'' := ho27'.below hb32
  clear ho27'
  have ho30' := ho30.below hb32
  clear ho30
  go_wp2_with fail
  refine (heldInstrSB _ ((wfF xs0).getD []).length _ _ hq23''''.rd (by omega) (by omega) (by omega)).mono ?_
  rintro e w34 ⟨rfl, hb34⟩
  have sz35 := hb34.size
  try simp only [World.size_alloc] at sz35
  have hB'''''''''''''''' := hB'''''''''''''''.trans (hb34.mono hB'''''''''''''''.size)
  clear hB'''''''''''''''
  have ho3'''''''''''''' := ho3'''''''''''''.below hb34
  clear ho3'''''''''''''
  have ho6''''''''''''' := ho6''''''''''''.below hb34
  clear ho6''''''''''''
  have hq19''''''' := hq19''''''.below hb34
  clear hq19''''''
  have hq23''''' := hq23''''.below hb34
  clear hq23''''
  have ho15''''''''' := ho15''''''''.below hb34
  clear ho15''''''''
  have ho27''' := ho27''.below hb34
  clear ho27''
  have ho30'' := ho30'.below hb34
  clear ho30'
  go_wp2_with fail
  go_ret
  exact ⟨rfl, hB''''''''''''''''⟩
set_option maxRecDepth 100000 in
theorem lift_WithFences (os : Os) (started : os.Started) (H : Type) (enc : TypeId × Value → H) :
    ReturnsInHanded {} Try.checked os 9 .any (Rows.fnExactWithFencesSpec.pre6 enc Try.prog Try.f9 Rows.fnExactWithFencesRow.domain false) (Rows.fnExactWithFencesSpec.post enc Try.prog Try.f9 false true false false) := by
  refine returnsInHanded_of_change (C := Try.checked) (by kernel_rfl) started (by kernel_rfl) Try.func9
    (ChangeSpec.witness6 (enc := enc) (C := Try.checked) false ⟨#[], #[.slice none 0 0], []⟩ 8 (by kernel_rfl) (by kernel_rfl) (by kernel_rfl) (by kernel_rfl)) ?_
  intro W base args ds gs before hval0 hW hcnd _
  have hval : ∀ (j : Nat) t v, Try.f9.params[j]? = some t → args[j]? = some v → Value.okWide Try.prog W .any base t v := hval0
  have hW' := hW
  obtain ⟨p, q, hA0, hV, rfl, hfz, hnd⟩ := hW
  have hA : DataW.TrodAll enc Try.prog W 0 (fun _ => true) true Try.f9.params.toList args.toList ds p := hA0
  rw [Try.params9] at hA hval
  obtain ⟨v0, vs0, d0, ds0, p0, q0, hargs, rfl, rfl, h0, r0⟩ := trodAll_cons hA
  obtain ⟨rfl, rfl, rfl⟩ := trodAll_nil r0
  obtain rfl : args = #[v0] := by cases args; simp_all
  obtain ⟨rfl, rfl⟩ := trodVars_none hV
  obtain ⟨c0, l0, e0, rfl⟩ := okWide_slice Try.underlying55 (hval 0 _ v0 rfl rfl)
  obtain ⟨fuel0, hf0⟩ := h0
  obtain ⟨xs0, hR0⟩ := read_code Try.underlying55 Try.underlying94 (by kernel_rfl) ⟨rfl, rfl, rfl, rfl⟩ (by decide +kernel) ⟨Try.underlying3, Try.underlying3, Try.underlying3, Try.underlying3⟩ (by simpa [Value.cells] using hf0)
  refine (walk_WithFences _ xs0 W hR0).mono fun e W' ⟨he, hb⟩ => ?_
  subst he
  exact ⟨_, rfl, post_law (by kernel_rfl) rfl rfl (by kernel_rfl) Try.underlying4 (of_decide_eq_true (by kernel_rfl)) hW' hb⟩
theorem FnExactWithFences_holds : Rows.FnExactWithFencesSaid :=
  OpenClaim.holds_of_wide 9 Try.f9 rfl rfl rfl rfl rfl rfl rfl ⟨rfl, rfl, rfl, rfl, rfl⟩ rfl rfl rfl rfl rfl (by kernel_rfl) Try.func9 (by kernel_rfl)
    (of_decide_eq_true (by kernel_rfl)) (by unfold Func.isWrapper; first | (rw [if_pos (by decide +kernel)]; kernel_rfl) | (rw [if_neg (by decide +kernel)]; exact ⟨rfl, rfl⟩))
    (fun os started H enc _ => lift_WithFences os started H enc)
#print axioms FnExactWithFences_holds
end Go.Proofs.Ytgbgjlmkmlhefaa
