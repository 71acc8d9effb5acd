/- FnExactParseAsk answers true at every input: ParseAsk answers as its model does, leaves its arguments alone and owns its answer. Conditions: none. -/
import Derived.Test.YtiflooopfpcelacDoorLaw
import Derived.Test.YtiflooopfpcelacDoorLaw2
import Derived.Test.YtiflooopfpcelacDoorMA
import Derived.Test.YtiflooopfpcelacDoorK1
import Derived.Test.YtiflooopfpcelacDoorLaidE
import Derived.Deep.RegionHeld3
namespace Go.Proofs.YtiflooopfpcelacDoor
set_option maxRecDepth 20000
set_option linter.unusedSimpArgs false
set_option linter.unusedVariables false
open Go.ChangeShapes Go.WideShapes Go.ChangeAt Go.RowKit
set_option linter.unusedVariables false
set_option maxHeartbeats 4000000 in
theorem walk_ParseAsk (s0 : List UInt8) (w : World) (hT : Env w) :
    Calls Tryd.prog 9 #[str s0] w fun e w' => e = .returned (.bool true) ∧ Below w.heap.size w w' := by
  have hlen := askCF_len s0
  obtain ⟨rL, hrx⟩ : ∃ rL, (askCF s0).getD [] = rL := ⟨_, rfl⟩
  obtain ⟨rb, hrb⟩ : ∃ rb, (askCF s0).isSome = rb := ⟨_, rfl⟩
  rw [hrx] at hlen
  have HX := Lib.hid hrx
  have HBb := Lib.hid hrb
  clear hrx hrb
  have HT := Lib.hid hT
  clear hT
  have hB := Below.refl w.heap.size w
  by_cases hbig : 1048576 < s0.length
  · go_enter Tryd.func9, Tryd.ntmps9
    go_wp2_with fail
    go_ret
    exact ⟨rfl, Below.refl _ _⟩
  go_enter Tryd.func9, Tryd.ntmps9
  go_wp2_with fail
  refine (spec_PA s0 _ rL rb (by omega) HX.out HBb.out).mono ?_
  rintro e w1 ⟨v2x0, bs2, rfl, ho2, lo2, hb2⟩
  have sz3 := hb2.size
  try simp only [World.size_alloc] at sz3
  have hB' := hB.trans (hb2.mono hB.size)
  clear hB
  have hi2 := ho2.lt
  try simp only [World.size_alloc] at lo2
  obtain ⟨A2, d2, rfl, -, -⟩ := ho2.slice
  go_wp2_with fail
  refine (impl_PA s0 _ rL rb (by omega) HX.out HBb.out (HT.out.below hB' (Nat.le_refl _))).mono ?_
  rintro e w4 ⟨v5x0, bs5, rfl, ho5, lo5, hb5⟩
  have sz6 := hb5.size
  try simp only [World.size_alloc] at sz6
  have hB'' := hB'.trans (hb5.mono hB'.size)
  clear hB'
  have ho2' := ho2.below hb5
  clear ho2
  have hi5 := ho5.lt
  try simp only [World.size_alloc] at lo5
  obtain ⟨A5, d5, rfl, -, -⟩ := ho5.slice
  go_wp2_with fail
  refine (eqAtomS _ _ (rL) (rL) _ ho5.rd ho2'.rd).mono ?_
  rintro e w7 ⟨rfl, hb7⟩
  rw [decide_eq_true rfl]
  have sz8 := hb7.size
  try simp only [World.size_alloc] at sz8
  have hB''' := hB''.trans (hb7.mono hB''.size)
  clear hB''
  have ho2'' := ho2'.below hb7
  clear ho2'
  have ho5' := ho5.below hb7
  clear ho5
  go_wp2_with fail
  refine (markAtomS _ _ rL.length bs5 (1) _ ho5' (by omega) (by omega) (by omega)).mono ?_
  rintro e w9 ⟨rfl, hq9, hon9⟩
  have sz10 := hon9.size
  try simp only [World.size_alloc] at sz10
  have hB'''' := hB'''.trans (hon9.below hB'''.size (fun b hb => by have := lo5 b hb; omega))
  clear hB'''
  have ho2''' := ho2''.only hon9 (fun b hb hm => by have := lo5 b hm; have := hi5 b hm; have := lo2 b hb; have := hi2 b hb; omega)
  clear ho2''
  go_wp2_with fail
  refine (heldAtomSB _ rL.length _ _ hq9.rd (by omega) (by omega) (by omega)).mono ?_
  rintro e w11 ⟨rfl, hb11⟩
  have sz12 := hb11.size
  try simp only [World.size_alloc] at sz12
  have hB''''' := hB''''.trans (hb11.mono hB''''.size)
  clear hB''''
  have ho2'''' := ho2'''.below hb11
  clear ho2'''
  have hq9' := hq9.below hb11
  clear hq9
  go_wp2_with fail
  refine (impl_PA s0 _ rL rb (by omega) HX.out HBb.out (HT.out.below hB''''' (Nat.le_refl _))).mono ?_
  rintro e w13 ⟨v14x0, bs14, rfl, ho14, lo14, hb14⟩
  have sz15 := hb14.size
  try simp only [World.size_alloc] at sz15
  have hB'''''' := hB'''''.trans (hb14.mono hB'''''.size)
  clear hB'''''
  have ho2''''' := ho2''''.below hb14
  clear ho2''''
  have hq9'' := hq9'.below hb14
  clear hq9'
  have hi14 := ho14.lt
  try simp only [World.size_alloc] at lo14
  obtain ⟨A14, d14, rfl, -, -⟩ := ho14.slice
  go_wp2_with fail
  refine (eqAtomS _ _ (rL) (rL) _ ho14.rd ho2'''''.rd).mono ?_
  rintro e w16 ⟨rfl, hb16⟩
  rw [decide_eq_true rfl]
  have sz17 := hb16.size
  try simp only [World.size_alloc] at sz17
  have hB''''''' := hB''''''.trans (hb16.mono hB''''''.size)
  clear hB''''''
  have ho2'''''' := ho2'''''.below hb16
  clear ho2'''''
  have hq9''' := hq9''.below hb16
  clear hq9''
  have ho14' := ho14.below hb16
  clear ho14
  go_wp2_with fail
  refine (heldAtomSB _ rL.length _ _ hq9'''.rd (by omega) (by omega) (by omega)).mono ?_
  rintro e w18 ⟨rfl, hb18⟩
  have sz19 := hb18.size
  try simp only [World.size_alloc] at sz19
  have hB'''''''' := hB'''''''.trans (hb18.mono hB'''''''.size)
  clear hB'''''''
  have ho2''''''' := ho2''''''.below hb18
  clear ho2''''''
  have hq9'''' := hq9'''.below hb18
  clear hq9'''
  have ho14'' := ho14'.below hb18
  clear ho14'
  go_wp2_with fail
  go_ret
  exact ⟨rfl, hB''''''''⟩
theorem tab_ParseAsk {W : World} (h : laidMetH Tryd.prog Rows.fnExactParseAskRow.laid W) (hS : W.ShapedOpen Tryd.prog) : Env W := ⟨tab_of 2 (by kernel_rfl) rfl h, ⟨sentinel 5 3 (by kernel_rfl) rfl (by kernel_rfl) (by kernel_rfl) h, sentinel 4 4 (by kernel_rfl) rfl (by kernel_rfl) (by kernel_rfl) h⟩, max_of hS⟩
set_option maxRecDepth 100000 in
theorem contract_ParseAsk (H : Type) (enc : TypeId × Value → H) (W : World) (base : Nat) (args : Array Value) (ds gs : List (DataW H)) (before : List MemPlace)
    (hval0 : ∀ (j : Nat) t v, Tryd.f9.params[j]? = some t → args[j]? = some v → Value.okWide Tryd.prog W .any base t v)
    (hW : DataW.Whole enc Tryd.prog Tryd.f9.params.toList Rows.fnExactParseAskSpec.vars false W args.toList ds gs before) (hL : laidMetH Tryd.prog Rows.fnExactParseAskRow.laid W) (hS : W.ShapedOpen Tryd.prog) :
    Calls Tryd.prog 9 args W fun e W' => ∃ v, e = .returned v ∧ Rows.fnExactParseAskSpec.post enc Tryd.prog Tryd.f9 false true false false W args v W' := by
  have hval : ∀ (j : Nat) t v, Tryd.f9.params[j]? = some t → args[j]? = some v → Value.okWide Tryd.prog W .any base t v := hval0
  have hW' := hW
  obtain ⟨p, q, hA0, hV, rfl, hfz, hnd⟩ := hW
  have hA : DataW.TrodAll enc Tryd.prog W 0 (fun _ => true) true Tryd.f9.params.toList args.toList ds p := hA0
  rw [Tryd.params9] at hA hval
  obtain ⟨v0, vs0, d0, ds0, p0, q0, hargs, rfl, rfl, h0, r0⟩ := trodAll_cons hA
  obtain ⟨rfl, rfl, rfl⟩ := trodAll_nil r0
  obtain rfl : args = #[v0] := by cases args; simp_all
  obtain ⟨rfl, rfl⟩ := trodVars_none hV
  obtain ⟨b0, rfl, rfl, rfl, _⟩ := Go.ChangeMaps.open_string Tryd.underlying9 (hval 0 _ v0 rfl rfl) h0
  have hL' := tab_ParseAsk hL hS
  refine (walk_ParseAsk b0.data.toList W hL').mono fun e W' ⟨he, hb⟩ => ?_
  subst he
  exact ⟨_, rfl, post_law (by kernel_rfl) rfl rfl (by kernel_rfl) Tryd.underlying4 (of_decide_eq_true (by kernel_rfl)) hW' hb⟩
noncomputable def world_ParseAsk (os : Os) : World := laidWorldE os Rows.fnExactParseAskRow.laid
theorem met_ParseAsk (os : Os) : laidMet Tryd.prog Rows.fnExactParseAskRow.laid ((world_ParseAsk os).forCall (fun _ _ => 0) ⟨#[], #[.string ⟨#[]⟩], []⟩).memory := laidMet_of_run' 8 (by kernel_rfl) (by kernel_rfl)
theorem reads_ParseAsk (os : Os) {H : Type} (enc : TypeId × Value → H) : ∃ places, DataW.whole enc Tryd.prog ((world_ParseAsk os).forCall (fun _ _ => 0) ⟨#[], #[.string ⟨#[]⟩], []⟩).memory Tryd.f9.params.toList Rows.fnExactParseAskSpec.vars false (#[.string ⟨#[]⟩] : Array Value).toList 8 = some ([.lit (.string [])], [], places) :=
  ⟨[], by kernel_rfl⟩
set_option maxRecDepth 100000 in
theorem lift_ParseAsk (os : Os) (started : os.Started) (H : Type) (enc : TypeId × Value → H) (F : Stop.Interp) :
    ReturnsInHanded {} Tryd.checked os 9 .any ((OpenSpec.ofChange Rows.fnExactParseAskSpec).preRow enc Tryd.prog Tryd.f9 Rows.fnExactParseAskRow.domain false Rows.fnExactParseAskRow.laid) (((OpenSpec.ofChange Rows.fnExactParseAskSpec).at F).post enc Tryd.prog Tryd.f9 false true false false) := by
  obtain ⟨places, hx⟩ := reads_ParseAsk os enc
  refine returnsInHanded_of_row (C := Tryd.checked) (s := OpenSpec.ofChange Rows.fnExactParseAskSpec) (by kernel_rfl) started (by kernel_rfl) Tryd.func9
    (witness_row_atRef (enc := enc) (C := Tryd.checked) false (world_ParseAsk os) #[.string ⟨#[]⟩] rfl (by kernel_rfl) (by kernel_rfl) (by kernel_rfl)
      (OpenSpec.preRow_of_cond 8 hx (by kernel_rfl) (fun k hk => by cases hk) (by kernel_rfl) (met_ParseAsk os))) ?_
  intro W base args ds gs before hval hW _ _ _ hL hS _
  exact contract_ParseAsk H enc W base args ds gs before hval hW hL hS
theorem FnExactParseAsk_row : Rows.FnExactParseAskSaid :=
  OpenClaim.holds_of_cond 9 Tryd.f9 rfl rfl rfl rfl rfl rfl rfl ⟨rfl, rfl, rfl, rfl, rfl⟩ rfl rfl rfl rfl rfl (by kernel_rfl) Tryd.func9 (by kernel_rfl)
    (of_decide_eq_true (by kernel_rfl)) (by unfold Func.isWrapper; first | (rw [if_pos (by decide +kernel)]; kernel_rfl) | (rw [if_neg (by decide +kernel)]; exact ⟨rfl, rfl⟩))
    (fun os started H enc _ F => by rw [OpenClaim.pre_eq_preRow]; exact lift_ParseAsk os started H enc F)
theorem plain_ParseAsk (f : FuncId) (fn : Func) (hf : Tryd.pinned.checked.prog.funcNamed Rows.fnExactParseAskRow.func = some f) (hfn : Tryd.pinned.checked.prog.funcs[f]? = some fn) :
    true = Tryd.pinned.checked.prog.looks [] ∧ ∀ (j : Nat) t, fn.params[j]? = some t → Tryd.pinned.checked.prog.wantsStandIn t = false := by
  obtain rfl : f = 9 := Option.some.inj ((show Tryd.prog.funcNamed Rows.fnExactParseAskRow.func = some 9 by kernel_rfl).symm.trans hf) |>.symm
  obtain rfl : fn = Tryd.f9 := (Option.some.inj (Tryd.func9.symm.trans hfn)).symm
  refine ⟨by kernel_rfl, fun j t ht => ?_⟩
  rw [Tryd.params9] at ht
  obtain rfl : t = 9 := by simpa using Array.mem_of_getElem? ht
  kernel_rfl
theorem FnExactParseAsk_holds : Rows.FnExactParseAskCardSaid :=
  Claim7.holds_tied_plain_at .later [] _ _ _ _ FnExactParseAsk_row (fun _ h => by cases h) (by kernel_rfl) (fun _ h => by cases h) fnExactParseAsk_row_tie rfl ⟨rfl, rfl⟩ (by kernel_rfl) rfl plain_ParseAsk (by kernel_rfl)
#print axioms FnExactParseAsk_holds
end Go.Proofs.YtiflooopfpcelacDoor
