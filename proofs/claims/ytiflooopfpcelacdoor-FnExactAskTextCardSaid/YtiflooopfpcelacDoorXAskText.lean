/- FnExactAskText answers true at every input: AskText answers as its model does, leaves its arguments alone and owns its answer. Conditions: none. -/
import Derived.Test.YtiflooopfpcelacDoorLaw
import Derived.Test.YtiflooopfpcelacDoorLaw2
import Derived.Test.YtiflooopfpcelacDoorMA
import Derived.Test.YtiflooopfpcelacDoorA9
import Derived.Test.YtiflooopfpcelacDoorLaid
import Derived.Deep.RegionHeld3
namespace Go.Proofs.YtiflooopfpcelacDoor
set_option maxRecDepth 20000
set_option linter.unusedSimpArgs false
set_option linter.unusedVariables false
open Go.ChangeShapes Go.WideShapes Go.ChangeAt Go.RowKit
set_option linter.unusedVariables false
set_option maxHeartbeats 4000000 in
theorem walk_AskText (v0 : Value) (xs0 : List Ins) (w : World) (hA0 : RdA w v0 4 xs0.length (flc xs0)) (hI0 : ∀ x ∈ xs0, InsR x) (hT : Tab w) :
    Calls Tryd.prog 8 #[v0] w fun e w' => e = .returned (.bool true) ∧ Below w.heap.size w w' := by
  obtain ⟨Aa0, da0, rfl, -, -, -, -⟩ := id hA0
  have HAaAsk := Lib.hid hA0
  clear hA0
  have HT := Lib.hid hT
  clear hT
  have hB := Below.refl w.heap.size w
  go_enter Tryd.func8, Tryd.ntmps8
  go_wp2_with fail
  refine (toB (szAtomS _ _ _ (1048576) _ (HAaAsk.out.below hB) (by omega) (by omega))).mono ?_
  rintro e w1 ⟨rfl, hb1⟩
  have sz2 := hb1.size
  try simp only [World.size_alloc] at sz2
  have hB' := hB.trans (hb1.mono hB.size)
  clear hB
  by_cases hn1 : (1048576 : Int) - xs0.length < 0
  · rw [show szF xs0.length (1048576) = -1 by unfold szF; rw [if_pos hn1]]
    go_wp2_with fail
    go_ret
    exact ⟨rfl, hB'⟩
  rw [show szF xs0.length (1048576) = 1048576 - xs0.length by unfold szF; rw [if_neg hn1]]
  go_wp2_with fail
  refine (toAtomS _ xs0 _ (HAaAsk.out.below hB') (by omega)).mono ?_
  rintro e w3 ⟨v3x0, bs3, rfl, ho3, lo3, hb3⟩
  have sz4 := hb3.size
  try simp only [World.size_alloc] at sz4
  have hB'' := hB'.trans (hb3.mono hB'.size)
  clear hB'
  have hi3 := ho3.lt
  try simp only [World.size_alloc] at lo3
  obtain ⟨A3, d3, rfl, -, -⟩ := ho3.slice
  go_wp2_with fail
  refine (spec_AskText _ xs0 _ ho3.rd hI0).mono ?_
  rintro e w5 ⟨rfl, hb5⟩
  have sz6 := hb5.size
  try simp only [World.size_alloc] at sz6
  have hB''' := hB''.trans (hb5.mono hB''.size)
  clear hB''
  have ho3' := ho3.below hb5
  clear ho3
  go_wp2_with fail
  refine (toAtomS _ xs0 _ (HAaAsk.out.below hB''') (by omega)).mono ?_
  rintro e w7 ⟨v7x0, bs7, rfl, ho7, lo7, hb7⟩
  have sz8 := hb7.size
  try simp only [World.size_alloc] at sz8
  have hB'''' := hB'''.trans (hb7.mono hB'''.size)
  clear hB'''
  have ho3'' := ho3'.below hb7
  clear ho3'
  have hi7 := ho7.lt
  try simp only [World.size_alloc] at lo7
  obtain ⟨A7, d7, rfl, -, -⟩ := ho7.slice
  go_wp2_with fail
  refine (impl_AskText _ xs0 _ ho7.rd hI0 (HT.out.below hB'''' (Nat.le_refl _))).mono ?_
  rintro e w9 ⟨rfl, hb9⟩
  have sz10 := hb9.size
  try simp only [World.size_alloc] at sz10
  have hB''''' := hB''''.trans (hb9.mono hB''''.size)
  clear hB''''
  have ho3''' := ho3''.below hb9
  clear ho3''
  have ho7' := ho7.below hb9
  clear ho7
  go_wp2_with fail
  refine (toAtomS _ xs0 _ (HAaAsk.out.below hB''''') (by omega)).mono ?_
  rintro e w11 ⟨v11x0, bs11, rfl, ho11, lo11, hb11⟩
  have sz12 := hb11.size
  try simp only [World.size_alloc] at sz12
  have hB'''''' := hB'''''.trans (hb11.mono hB'''''.size)
  clear hB'''''
  have ho3'''' := ho3'''.below hb11
  clear ho3'''
  have ho7'' := ho7'.below hb11
  clear ho7'
  have hi11 := ho11.lt
  try simp only [World.size_alloc] at lo11
  obtain ⟨A11, d11, rfl, -, -⟩ := ho11.slice
  go_wp2_with fail
  refine (eqAtomS _ _ (xs0) (xs0) _ ho7''.rd ho11.rd).mono ?_
  rintro e w13 ⟨rfl, hb13⟩
  rw [decide_eq_true rfl]
  have sz14 := hb13.size
  try simp only [World.size_alloc] at sz14
  have hB''''''' := hB''''''.trans (hb13.mono hB''''''.size)
  clear hB''''''
  have ho3''''' := ho3''''.below hb13
  clear ho3''''
  have ho7''' := ho7''.below hb13
  clear ho7''
  have ho11' := ho11.below hb13
  clear ho11
  go_wp2_with fail
  go_ret
  exact ⟨rfl, hB'''''''⟩
theorem tab_AskText {W : World} (h : laidMetH Tryd.prog Rows.fnExactAskTextRow.laid W) (hS : W.ShapedOpen Tryd.prog) : Tab W := tab_of 2 (by kernel_rfl) rfl h
set_option maxRecDepth 100000 in
theorem contract_AskText (H : Type) (enc : TypeId × Value → H) (W : World) (base : Nat) (args : Array Value) (ds gs : List (DataW H)) (before : List MemPlace)
    (hval0 : ∀ (j : Nat) t v, Tryd.f8.params[j]? = some t → args[j]? = some v → Value.okWide Tryd.prog W .any base t v)
    (hW : DataW.Whole enc Tryd.prog Tryd.f8.params.toList Rows.fnExactAskTextSpec.vars false W args.toList ds gs before) (hL : laidMetH Tryd.prog Rows.fnExactAskTextRow.laid W) (hS : W.ShapedOpen Tryd.prog) :
    Calls Tryd.prog 8 args W fun e W' => ∃ v, e = .returned v ∧ Rows.fnExactAskTextSpec.post enc Tryd.prog Tryd.f8 false true false false W args v W' := by
  have hval : ∀ (j : Nat) t v, Tryd.f8.params[j]? = some t → args[j]? = some v → Value.okWide Tryd.prog W .any base t v := hval0
  have hW' := hW
  obtain ⟨p, q, hA0, hV, rfl, hfz, hnd⟩ := hW
  have hA : DataW.TrodAll enc Tryd.prog W 0 (fun _ => true) true Tryd.f8.params.toList args.toList ds p := hA0
  rw [Tryd.params8] at hA hval
  obtain ⟨v0, vs0, d0, ds0, p0, q0, hargs, rfl, rfl, h0, r0⟩ := trodAll_cons hA
  obtain ⟨rfl, rfl, rfl⟩ := trodAll_nil r0
  obtain rfl : args = #[v0] := by cases args; simp_all
  obtain ⟨rfl, rfl⟩ := trodVars_none hV
  obtain ⟨c0, l0, e0, rfl⟩ := okWide_slice Tryd.underlying56 (hval 0 _ v0 rfl rfl)
  obtain ⟨fuel0, hf0⟩ := h0
  obtain ⟨xs0, hR0, hI0⟩ := read_codeR Tryd.underlying56 Tryd.underlying104 (by kernel_rfl) ⟨rfl, rfl, rfl, rfl⟩ (by decide +kernel) ⟨Tryd.underlying3, Tryd.underlying3, Tryd.underlying3, Tryd.underlying3⟩ (by simpa [Value.cells] using hf0)
  have hL' := tab_AskText hL hS
  refine (walk_AskText _ xs0 W hR0 hI0 hL').mono fun e W' ⟨he, hb⟩ => ?_
  subst he
  exact ⟨_, rfl, post_law (by kernel_rfl) rfl rfl (by kernel_rfl) Tryd.underlying4 (of_decide_eq_true (by kernel_rfl)) hW' hb⟩
noncomputable def world_AskText (os : Os) : World := laidWorld os Rows.fnExactAskTextRow.laid
theorem met_AskText (os : Os) : laidMet Tryd.prog Rows.fnExactAskTextRow.laid ((world_AskText os).forCall (fun _ _ => 0) ⟨#[], #[.slice none 0 0], []⟩).memory := laidMet_of_run' 8 (by kernel_rfl) (by kernel_rfl)
theorem reads_AskText (os : Os) {H : Type} (enc : TypeId × Value → H) : ∃ places, DataW.whole enc Tryd.prog ((world_AskText os).forCall (fun _ _ => 0) ⟨#[], #[.slice none 0 0], []⟩).memory Tryd.f8.params.toList Rows.fnExactAskTextSpec.vars false (#[.slice none 0 0] : Array Value).toList 8 = some ([.nil], [], places) :=
  ⟨[], by kernel_rfl⟩
set_option maxRecDepth 100000 in
theorem lift_AskText (os : Os) (started : os.Started) (H : Type) (enc : TypeId × Value → H) (F : Stop.Interp) :
    ReturnsInHanded {} Tryd.checked os 8 .any ((OpenSpec.ofChange Rows.fnExactAskTextSpec).preRow enc Tryd.prog Tryd.f8 Rows.fnExactAskTextRow.domain false Rows.fnExactAskTextRow.laid) (((OpenSpec.ofChange Rows.fnExactAskTextSpec).at F).post enc Tryd.prog Tryd.f8 false true false false) := by
  obtain ⟨places, hx⟩ := reads_AskText os enc
  refine returnsInHanded_of_row (C := Tryd.checked) (s := OpenSpec.ofChange Rows.fnExactAskTextSpec) (by kernel_rfl) started (by kernel_rfl) Tryd.func8
    (witness_row_at (enc := enc) (C := Tryd.checked) false (world_AskText os) #[.slice none 0 0] rfl (by kernel_rfl) (by kernel_rfl) (by kernel_rfl)
      (OpenSpec.preRow_of_cond 8 hx (by kernel_rfl) (fun k hk => by cases hk) (by kernel_rfl) (met_AskText os))) ?_
  intro W base args ds gs before hval hW _ _ _ hL hS _
  exact contract_AskText H enc W base args ds gs before hval hW hL hS
theorem FnExactAskText_row : Rows.FnExactAskTextSaid :=
  OpenClaim.holds_of_cond 8 Tryd.f8 rfl rfl rfl rfl rfl rfl rfl ⟨rfl, rfl, rfl, rfl, rfl⟩ rfl rfl rfl rfl rfl (by kernel_rfl) Tryd.func8 (by kernel_rfl)
    (of_decide_eq_true (by kernel_rfl)) (by unfold Func.isWrapper; first | (rw [if_pos (by decide +kernel)]; kernel_rfl) | (rw [if_neg (by decide +kernel)]; exact ⟨rfl, rfl⟩))
    (fun os started H enc _ F => by rw [OpenClaim.pre_eq_preRow]; exact lift_AskText os started H enc F)
theorem plain_AskText (f : FuncId) (fn : Func) (hf : Tryd.pinned.checked.prog.funcNamed Rows.fnExactAskTextRow.func = some f) (hfn : Tryd.pinned.checked.prog.funcs[f]? = some fn) :
    true = Tryd.pinned.checked.prog.looks [] ∧ ∀ (j : Nat) t, fn.params[j]? = some t → Tryd.pinned.checked.prog.wantsStandIn t = false := by
  obtain rfl : f = 8 := Option.some.inj ((show Tryd.prog.funcNamed Rows.fnExactAskTextRow.func = some 8 by kernel_rfl).symm.trans hf) |>.symm
  obtain rfl : fn = Tryd.f8 := (Option.some.inj (Tryd.func8.symm.trans hfn)).symm
  refine ⟨by kernel_rfl, fun j t ht => ?_⟩
  rw [Tryd.params8] at ht
  obtain rfl : t = 56 := by simpa using Array.mem_of_getElem? ht
  kernel_rfl
theorem FnExactAskText_holds : Rows.FnExactAskTextCardSaid :=
  Claim7.holds_tied_plain_at .later [] _ _ _ _ FnExactAskText_row (fun _ h => by cases h) (by kernel_rfl) (fun _ h => by cases h) fnExactAskText_row_tie rfl ⟨rfl, rfl⟩ (by kernel_rfl) rfl plain_AskText (by kernel_rfl)
#print axioms FnExactAskText_holds
end Go.Proofs.YtiflooopfpcelacDoor
