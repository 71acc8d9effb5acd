/- FnExactParseCode answers true at every input: ParseCode answers as its model does, leaves its arguments alone and owns its answer. Conditions: none. -/
import Derived.Test.YtiflooopfpcelacDoorLaw
import Derived.Test.YtiflooopfpcelacDoorLaw2
import Derived.Test.YtiflooopfpcelacDoorI9
import Derived.Test.YtiflooopfpcelacDoorLaidE
import Derived.Deep.RegionHeld3
namespace Go.Proofs.YtiflooopfpcelacDoor
set_option maxRecDepth 20000
set_option linter.unusedSimpArgs false
set_option linter.unusedVariables false
open Go.ChangeShapes Go.WideShapes Go.ChangeAt Go.RowKit
set_option linter.unusedVariables false
set_option maxHeartbeats 4000000 in
theorem walk_ParseCode (s0 : List UInt8) (w : World) (hT : EnvP w) :
    Calls Tryd.prog 4 #[str s0] w fun e w' => e = .returned (.bool true) ∧ Below w.heap.size w w' := by
  have hlen := codeCF_len s0
  obtain ⟨rL, hrx⟩ : ∃ rL, (codeCF s0).getD [] = rL := ⟨_, rfl⟩
  obtain ⟨rb, hrb⟩ : ∃ rb, (codeCF s0).isSome = rb := ⟨_, rfl⟩
  rw [hrx] at hlen
  have HX := Lib.hid hrx
  have HBb := Lib.hid hrb
  clear hrx hrb
  have HT := Lib.hid hT
  clear hT
  have hB := Below.refl w.heap.size w
  by_cases hbig : 1048576 < s0.length
  · go_enter Tryd.func4, Tryd.ntmps4
    go_wp2_with fail
    go_ret
    exact ⟨rfl, Below.refl _ _⟩
  go_enter Tryd.func4, Tryd.ntmps4
  go_wp2_with fail
  refine (spec_PC s0 _ rL rb (by omega) HX.out HBb.out).mono ?_
  rintro e w1 ⟨v2x0, bs2, rfl, ho2, lo2, hb2⟩
  have sz3 := hb2.size
  try simp only [World.size_alloc] at sz3
  have hB' := hB.trans (hb2.mono hB.size)
  clear hB
  have hi2 := ho2.lt
  try simp only [World.size_alloc] at lo2
  obtain ⟨A2, d2, rfl, -, -⟩ := ho2.slice
  go_wp2_with fail
  refine (impl_PC s0 _ rL rb (by omega) HX.out HBb.out (HT.out.below hB' (Nat.le_refl _))).mono ?_
  rintro e w4 ⟨v5x0, bs5, rfl, ho5, lo5, hb5⟩
  have sz6 := hb5.size
  try simp only [World.size_alloc] at sz6
  have hB'' := hB'.trans (hb5.mono hB'.size)
  clear hB'
  have ho2' := ho2.below hb5
  clear ho2
  have hi5 := ho5.lt
  try simp only [World.size_alloc] at lo5
  obtain ⟨A5, d5, rfl, -, -⟩ := ho5.slice
  go_wp2_with fail
  refine (eqInstrS _ _ (rL) (rL) _ ho5.rd ho2'.rd).mono ?_
  rintro e w7 ⟨rfl, hb7⟩
  rw [decide_eq_true rfl]
  have sz8 := hb7.size
  try simp only [World.size_alloc] at sz8
  have hB''' := hB''.trans (hb7.mono hB''.size)
  clear hB''
  have ho2'' := ho2'.below hb7
  clear ho2'
  have ho5' := ho5.below hb7
  clear ho5
  go_wp2_with fail
  refine (markInstrS _ _ rL.length bs5 (1) _ ho5' (by omega) (by omega) (by omega)).mono ?_
  rintro e w9 ⟨rfl, hq9, hon9⟩
  have sz10 := hon9.size
  try simp only [World.size_alloc] at sz10
  have hB'''' := hB'''.trans (hon9.below hB'''.size (fun b hb => by have := lo5 b hb; omega))
  clear hB'''
  have ho2''' := ho2''.only hon9 (fun b hb hm => by have := lo5 b hm; have := hi5 b hm; have := lo2 b hb; have := hi2 b hb; omega)
  clear ho2''
  go_wp2_with fail
  refine (heldInstrSB _ rL.length _ _ hq9.rd (by omega) (by omega) (by omega)).mono ?_
  rintro e w11 ⟨rfl, hb11⟩
  have sz12 := hb11.size
  try simp only [World.size_alloc] at sz12
  have hB''''' := hB''''.trans (hb11.mono hB''''.size)
  clear hB''''
  have ho2'''' := ho2'''.below hb11
  clear ho2'''
  have hq9' := hq9.below hb11
  clear hq9
  go_wp2_with fail
  refine (impl_PC s0 _ rL rb (by omega) HX.out HBb.out (HT.out.below hB''''' (Nat.le_refl _))).mono ?_
  rintro e w13 ⟨v14x0, bs14, rfl, ho14, lo14, hb14⟩
  have sz15 := hb14.size
  try simp only [World.size_alloc] at sz15
  have hB'''''' := hB'''''.trans (hb14.mono hB'''''.size)
  clear hB'''''
  have ho2''''' := ho2''''.below hb14
  clear ho2''''
  have hq9'' := hq9'.below hb14
  clear hq9'
  have hi14 := ho14.lt
  try simp only [World.size_alloc] at lo14
  obtain ⟨A14, d14, rfl, -, -⟩ := ho14.slice
  go_wp2_with fail
  refine (eqInstrS _ _ (rL) (rL) _ ho14.rd ho2'''''.rd).mono ?_
  rintro e w16 ⟨rfl, hb16⟩
  rw [decide_eq_true rfl]
  have sz17 := hb16.size
  try simp only [World.size_alloc] at sz17
  have hB''''''' := hB''''''.trans (hb16.mono hB''''''.size)
  clear hB''''''
  have ho2'''''' := ho2'''''.below hb16
  clear ho2'''''
  have hq9''' := hq9''.below hb16
  clear hq9''
  have ho14' := ho14.below hb16
  clear ho14
  go_wp2_with fail
  refine (heldInstrSB _ rL.length _ _ hq9'''.rd (by omega) (by omega) (by omega)).mono ?_
  rintro e w18 ⟨rfl, hb18⟩
  have sz19 := hb18.size
  try simp only [World.size_alloc] at sz19
  have hB'''''''' := hB'''''''.trans (hb18.mono hB'''''''.size)
  clear hB'''''''
  have ho2''''''' := ho2''''''.below hb18
  clear ho2''''''
  have hq9'''' := hq9'''.below hb18
  clear hq9'''
  have ho14'' := ho14'.below hb18
  clear ho14'
  go_wp2_with fail
  go_ret
  exact ⟨rfl, hB''''''''⟩
theorem tab_ParseCode {W : World} (h : laidMetH Tryd.prog Rows.fnExactParseCodeRow.laid W) (hS : W.ShapedOpen Tryd.prog) : EnvP W := ⟨⟨tab_of 2 (by kernel_rfl) rfl h, ⟨sentinel 5 3 (by kernel_rfl) rfl (by kernel_rfl) (by kernel_rfl) h, sentinel 4 4 (by kernel_rfl) rfl (by kernel_rfl) (by kernel_rfl) h⟩, max_of hS⟩, names_of 6 (by kernel_rfl) rfl h⟩
set_option maxRecDepth 100000 in
theorem contract_ParseCode (H : Type) (enc : TypeId × Value → H) (W : World) (base : Nat) (args : Array Value) (ds gs : List (DataW H)) (before : List MemPlace)
    (hval0 : ∀ (j : Nat) t v, Tryd.f4.params[j]? = some t → args[j]? = some v → Value.okWide Tryd.prog W .any base t v)
    (hW : DataW.Whole enc Tryd.prog Tryd.f4.params.toList Rows.fnExactParseCodeSpec.vars false W args.toList ds gs before) (hL : laidMetH Tryd.prog Rows.fnExactParseCodeRow.laid W) (hS : W.ShapedOpen Tryd.prog) :
    Calls Tryd.prog 4 args W fun e W' => ∃ v, e = .returned v ∧ Rows.fnExactParseCodeSpec.post enc Tryd.prog Tryd.f4 false true false false W args v W' := by
  have hval : ∀ (j : Nat) t v, Tryd.f4.params[j]? = some t → args[j]? = some v → Value.okWide Tryd.prog W .any base t v := hval0
  have hW' := hW
  obtain ⟨p, q, hA0, hV, rfl, hfz, hnd⟩ := hW
  have hA : DataW.TrodAll enc Tryd.prog W 0 (fun _ => true) true Tryd.f4.params.toList args.toList ds p := hA0
  rw [Tryd.params4] at hA hval
  obtain ⟨v0, vs0, d0, ds0, p0, q0, hargs, rfl, rfl, h0, r0⟩ := trodAll_cons hA
  obtain ⟨rfl, rfl, rfl⟩ := trodAll_nil r0
  obtain rfl : args = #[v0] := by cases args; simp_all
  obtain ⟨gV, tV, csV, fuelV, dV, pV, rfl, -, -, -, -, rfl⟩ := trodVars_one hV
  obtain ⟨b0, rfl, rfl, rfl, _⟩ := Go.ChangeMaps.open_string Tryd.underlying9 (hval 0 _ v0 rfl rfl) h0
  have hL' := tab_ParseCode hL hS
  refine (walk_ParseCode b0.data.toList W hL').mono fun e W' ⟨he, hb⟩ => ?_
  subst he
  exact ⟨_, rfl, post_lawV (by kernel_rfl) rfl (by kernel_rfl) (by kernel_rfl) Tryd.underlying4 (of_decide_eq_true (by kernel_rfl)) hW' hb⟩
noncomputable def world_ParseCode (os : Os) : World := laidWorldE os Rows.fnExactParseCodeRow.laid
theorem met_ParseCode (os : Os) : laidMet Tryd.prog Rows.fnExactParseCodeRow.laid ((world_ParseCode os).forCall (fun _ _ => 0) ⟨#[], #[.string ⟨#[]⟩], []⟩).memory := laidMet_of_run' 8 (by kernel_rfl) (by kernel_rfl)
theorem reads_ParseCode (os : Os) {H : Type} (enc : TypeId × Value → H) : ∃ places, DataW.whole enc Tryd.prog ((world_ParseCode os).forCall (fun _ _ => 0) ⟨#[], #[.string ⟨#[]⟩], []⟩).memory Tryd.f4.params.toList Rows.fnExactParseCodeSpec.vars false (#[.string ⟨#[]⟩] : Array Value).toList 8 = some ([.lit (.string [])], [Rows.laid_loop_example_g00712_impl_opNames], places) :=
  ⟨MemPlace.row ⟨0, 0, none⟩ 9, by kernel_rfl⟩
set_option maxRecDepth 100000 in
theorem lift_ParseCode (os : Os) (started : os.Started) (H : Type) (enc : TypeId × Value → H) (F : Stop.Interp) :
    ReturnsInHanded {} Tryd.checked os 4 .any ((OpenSpec.ofChange Rows.fnExactParseCodeSpec).preRow enc Tryd.prog Tryd.f4 Rows.fnExactParseCodeRow.domain false Rows.fnExactParseCodeRow.laid) (((OpenSpec.ofChange Rows.fnExactParseCodeSpec).at F).post enc Tryd.prog Tryd.f4 false true false false) := by
  obtain ⟨places, hx⟩ := reads_ParseCode os enc
  refine returnsInHanded_of_row (C := Tryd.checked) (s := OpenSpec.ofChange Rows.fnExactParseCodeSpec) (by kernel_rfl) started (by kernel_rfl) Tryd.func4
    (witness_row_atRef (enc := enc) (C := Tryd.checked) false (world_ParseCode os) #[.string ⟨#[]⟩] rfl (by kernel_rfl) (by kernel_rfl) (by kernel_rfl)
      (OpenSpec.preRow_of_cond 8 hx (by kernel_rfl) (fun k hk => by cases hk) (by kernel_rfl) (met_ParseCode os))) ?_
  intro W base args ds gs before hval hW _ _ _ hL hS _
  exact contract_ParseCode H enc W base args ds gs before hval hW hL hS
theorem FnExactParseCode_row : Rows.FnExactParseCodeSaid :=
  OpenClaim.holds_of_cond 4 Tryd.f4 rfl rfl rfl rfl rfl rfl rfl ⟨rfl, rfl, rfl, rfl, rfl⟩ rfl rfl rfl rfl rfl (by kernel_rfl) Tryd.func4 (by kernel_rfl)
    (of_decide_eq_true (by kernel_rfl)) (by unfold Func.isWrapper; first | (rw [if_pos (by decide +kernel)]; kernel_rfl) | (rw [if_neg (by decide +kernel)]; exact ⟨rfl, rfl⟩))
    (fun os started H enc _ F => by rw [OpenClaim.pre_eq_preRow]; exact lift_ParseCode os started H enc F)
theorem plain_ParseCode (f : FuncId) (fn : Func) (hf : Tryd.pinned.checked.prog.funcNamed Rows.fnExactParseCodeRow.func = some f) (hfn : Tryd.pinned.checked.prog.funcs[f]? = some fn) :
    true = Tryd.pinned.checked.prog.looks [] ∧ ∀ (j : Nat) t, fn.params[j]? = some t → Tryd.pinned.checked.prog.wantsStandIn t = false := by
  obtain rfl : f = 4 := Option.some.inj ((show Tryd.prog.funcNamed Rows.fnExactParseCodeRow.func = some 4 by kernel_rfl).symm.trans hf) |>.symm
  obtain rfl : fn = Tryd.f4 := (Option.some.inj (Tryd.func4.symm.trans hfn)).symm
  refine ⟨by kernel_rfl, fun j t ht => ?_⟩
  rw [Tryd.params4] at ht
  obtain rfl : t = 9 := by simpa using Array.mem_of_getElem? ht
  kernel_rfl
theorem FnExactParseCode_holds : Rows.FnExactParseCodeCardSaid :=
  Claim7.holds_tied_plain_at .later [] _ _ _ _ FnExactParseCode_row (fun _ h => by cases h) (by kernel_rfl) (fun _ h => by cases h) fnExactParseCode_row_tie rfl ⟨rfl, rfl⟩ (by kernel_rfl) rfl plain_ParseCode (by kernel_rfl)
#print axioms FnExactParseCode_holds
end Go.Proofs.YtiflooopfpcelacDoor
