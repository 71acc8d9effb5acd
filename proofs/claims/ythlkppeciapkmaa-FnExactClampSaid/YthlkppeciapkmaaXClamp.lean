/- FnExactClamp answers true at every input: Clamp answers as its model does, leaves its arguments alone and owns its answer. Conditions: none. -/
import Derived.Test.YthlkppeciapkmaaLaw
import Derived.Test.YthlkppeciapkmaaI1
import Derived.Deep.RegionHeld3
namespace Go.Proofs.Ythlkppeciapkmaa
open Go.ChangeShapes Go.WideShapes Go.ChangeAt Go.RowKit
set_option linter.unusedVariables false
set_option maxHeartbeats 4000000 in
theorem walk_Clamp (a0 : Int) (w : World) (hw0 : (Lit.int .i64 a0).wf = true) :
    Calls Try.prog 10 #[.int .i64 a0] w fun e w' => e = .returned (.bool true) ∧ Below w.heap.size w w' := by
  have hB := Below.refl w.heap.size w
  go_enter Try.func10, Try.ntmps10
  go_wp2_with fail
  refine (toB (spec_Clamp a0 _)).mono ?_
  rintro e w1 ⟨rfl, hb1⟩
  have sz2 := hb1.size
  try simp only [World.size_alloc] at sz2
  have hB' := hB.trans (hb1.mono hB.size)
  clear hB
  go_wp2_with fail
  refine (toB (impl_Clamp a0 _)).mono ?_
  rintro e w3 ⟨rfl, hb3⟩
  have sz4 := hb3.size
  try simp only [World.size_alloc] at sz4
  have hB'' := hB'.trans (hb3.mono hB'.size)
  clear hB'
  go_wp2_with fail
  go_ret
  exact ⟨rfl, hB''⟩
set_option maxRecDepth 100000 in
theorem lift_Clamp (os : Os) (started : os.Started) (H : Type) (enc : TypeId × Value → H) :
    ReturnsInHanded {} Try.checked os 10 .any (Rows.fnExactClampSpec.pre6 enc Try.prog Try.f10 Rows.fnExactClampRow.domain false) (Rows.fnExactClampSpec.post enc Try.prog Try.f10 false true false false) := by
  refine returnsInHanded_of_change (C := Try.checked) (by kernel_rfl) started (by kernel_rfl) Try.func10
    (ChangeSpec.witness6 (enc := enc) (C := Try.checked) false ⟨#[], #[.int .i64 0], []⟩ 8 (by kernel_rfl) (by kernel_rfl) (by kernel_rfl) (by kernel_rfl)) ?_
  intro W base args ds gs before hval0 hW hcnd _
  have hval : ∀ (j : Nat) t v, Try.f10.params[j]? = some t → args[j]? = some v → Value.okWide Try.prog W .any base t v := hval0
  have hW' := hW
  obtain ⟨p, q, hA0, hV, rfl, hfz, hnd⟩ := hW
  have hA : DataW.TrodAll enc Try.prog W 0 (fun _ => true) true Try.f10.params.toList args.toList ds p := hA0
  rw [Try.params10] at hA hval
  obtain ⟨v0, vs0, d0, ds0, p0, q0, hargs, rfl, rfl, h0, r0⟩ := trodAll_cons hA
  obtain ⟨rfl, rfl, rfl⟩ := trodAll_nil r0
  obtain rfl : args = #[v0] := by cases args; simp_all
  obtain ⟨rfl, rfl⟩ := trodVars_none hV
  obtain ⟨a0, rfl, rfl, rfl, w0⟩ := open_int Try.underlying3 (hval 0 _ v0 rfl rfl) h0
  refine (walk_Clamp a0 W w0).mono fun e W' ⟨he, hb⟩ => ?_
  subst he
  exact ⟨_, rfl, post_law (by kernel_rfl) rfl rfl (by kernel_rfl) Try.underlying4 (of_decide_eq_true (by kernel_rfl)) hW' hb⟩
theorem FnExactClamp_holds : Rows.FnExactClampSaid :=
  OpenClaim.holds_of_wide 10 Try.f10 rfl rfl rfl rfl rfl rfl rfl ⟨rfl, rfl, rfl, rfl, rfl⟩ rfl rfl rfl rfl rfl (by kernel_rfl) Try.func10 (by kernel_rfl)
    (of_decide_eq_true (by kernel_rfl)) (by unfold Func.isWrapper; first | (rw [if_pos (by decide +kernel)]; kernel_rfl) | (rw [if_neg (by decide +kernel)]; exact ⟨rfl, rfl⟩))
    (fun os started H enc _ => lift_Clamp os started H enc)
#print axioms FnExactClamp_holds
end Go.Proofs.Ythlkppeciapkmaa
