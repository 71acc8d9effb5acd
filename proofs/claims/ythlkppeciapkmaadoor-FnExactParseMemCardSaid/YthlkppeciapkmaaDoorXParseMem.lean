/- FnExactParseMem answers true at every input: ParseMem answers as its model does, leaves its arguments alone and owns its answer. Conditions: none. -/
import Derived.Test.YthlkppeciapkmaaDoorLaw
import Derived.Test.YthlkppeciapkmaaDoorEnv
import Derived.Test.YthlkppeciapkmaaDoorLaidE
import Derived.Deep.RegionHeld3
namespace Go.Proofs.YthlkppeciapkmaaDoor
open Go.ChangeShapes Go.WideShapes Go.ChangeAt Go.RowKit
set_option linter.unusedVariables false
set_option maxHeartbeats 4000000 in
theorem walk_ParseMem (s0 : List UInt8) (w : World) (hT : Env w) :
    Calls Tryd.prog 5 #[str s0] w fun e w' => e = .returned (.bool true) ∧ Below w.heap.size w w' := by
  have hq := specParseF_len s0
  have HT := Lib.hid hT
  clear hT
  have hB := Below.refl w.heap.size w
  by_cases hbig : 1048576 < s0.length
  · go_enter Tryd.func5, Tryd.ntmps5
    go_wp2_with fail
    go_ret
    exact ⟨rfl, Below.refl _ _⟩
  go_enter Tryd.func5, Tryd.ntmps5
  go_wp2_with fail
  refine (spec_ParseMem s0 _ (by omega)).mono ?_
  rintro e w1 ⟨v2x0, bs2, rfl, ho2, lo2, hb2⟩
  have sz3 := hb2.size
  try simp only [World.size_alloc] at sz3
  have hB' := hB.trans (hb2.mono hB.size)
  clear hB
  have hi2 := ho2.lt
  try simp only [World.size_alloc] at lo2
  obtain ⟨A2, d2, rfl, -, -⟩ := ho2.slice
  go_wp2_with fail
  have ho2' := ho2.below ((Below.refl _ _).alloc (Nat.le_refl _) (.cells #[.slice A2 ((specParseF s0).getD []).length d2] 26))
  clear ho2
  have hB'' := hB'.alloc hB'.size (.cells #[.slice A2 ((specParseF s0).getD []).length d2] 26)
  clear hB'
  have k4 := Bk.new w1 #[.slice A2 ((specParseF s0).getD []).length d2] 26
  refine (impl_ParseMemE s0 _ (by omega) (HT.out.below hB'' (Nat.le_refl _))).mono ?_
  rintro e w5 ⟨v6x0, bs6, rfl, ho6, lo6, hb6⟩
  have sz7 := hb6.size
  try simp only [World.size_alloc] at sz7
  have hB''' := hB''.trans (hb6.mono hB''.size)
  clear hB''
  have k4' := k4.below hb6 k4.lt
  clear k4
  have ho2'' := ho2'.below hb6
  clear ho2'
  have hi6 := ho6.lt
  try simp only [World.size_alloc] at lo6
  obtain ⟨A6, d6, rfl, -, -⟩ := ho6.slice
  obtain ⟨hc4x0, gc4x0⟩ := k4'.at_ 0 (x := .slice A2 ((specParseF s0).getD []).length d2) rfl
  have l4 := k4'.lt
  go_wp2_with fail
  clear hc4x0 gc4x0 l4
  have k4'' := k4'.alloc (.cells #[.slice A6 ((specParseF s0).getD []).length d6] 26)
  clear k4'
  have ho2''' := ho2''.below ((Below.refl _ _).alloc (Nat.le_refl _) (.cells #[.slice A6 ((specParseF s0).getD []).length d6] 26))
  clear ho2''
  have ho6' := ho6.below ((Below.refl _ _).alloc (Nat.le_refl _) (.cells #[.slice A6 ((specParseF s0).getD []).length d6] 26))
  clear ho6
  have hB'''' := hB'''.alloc hB'''.size (.cells #[.slice A6 ((specParseF s0).getD []).length d6] 26)
  clear hB'''
  have k8 := Bk.new w5 #[.slice A6 ((specParseF s0).getD []).length d6] 26
  refine (eqMemB _ _ (((specParseF s0).getD [])) (((specParseF s0).getD [])) _ ho6'.rd ho2'''.rd).mono ?_
  rintro e w9 ⟨rfl, hb9⟩
  rw [decide_eq_true rfl]
  have sz10 := hb9.size
  try simp only [World.size_alloc] at sz10
  have hB''''' := hB''''.trans (hb9.mono hB''''.size)
  clear hB''''
  have k4''' := k4''.below hb9 k4''.lt
  clear k4''
  have k8' := k8.below hb9 k8.lt
  clear k8
  have ho2'''' := ho2'''.below hb9
  clear ho2'''
  have ho6'' := ho6'.below hb9
  clear ho6'
  obtain ⟨hc4x0, gc4x0⟩ := k4'''.at_ 0 (x := .slice A2 ((specParseF s0).getD []).length d2) rfl
  have l4 := k4'''.lt
  obtain ⟨hc8x0, gc8x0⟩ := k8'.at_ 0 (x := .slice A6 ((specParseF s0).getD []).length d6) rfl
  have l8 := k8'.lt
  go_wp2_with fail
  refine (markMem _ ((specParseF s0).getD []) bs6 (1) _ ho6'' (by omega) (by omega) (by omega)).mono ?_
  rintro e w11 ⟨rfl, hq11, hon11⟩
  clear hc4x0 gc4x0 l4 hc8x0 gc8x0 l8
  have sz12 := hon11.size
  try simp only [World.size_alloc] at sz12
  have hB'''''' := hB'''''.trans (hon11.below hB'''''.size (fun b hb => by have := lo6 b hb; omega))
  clear hB'''''
  have k4'''' := k4'''.only hon11 (fun hm => by have := lo6 _ hm; have := hi6 _ hm; omega)
  clear k4'''
  have k8'' := k8'.only hon11 (fun hm => by have := lo6 _ hm; have := hi6 _ hm; omega)
  clear k8'
  have ho2''''' := ho2''''.only hon11 (fun b hb hm => by have := lo6 b hm; have := hi6 b hm; have := lo2 b hb; have := hi2 b hb; omega)
  clear ho2''''
  obtain ⟨hc4x0, gc4x0⟩ := k4''''.at_ 0 (x := .slice A2 ((specParseF s0).getD []).length d2) rfl
  have l4 := k4''''.lt
  obtain ⟨hc8x0, gc8x0⟩ := k8''.at_ 0 (x := .slice A6 ((specParseF s0).getD []).length d6) rfl
  have l8 := k8''.lt
  go_wp2_with fail
  refine (heldMem _ ((specParseF s0).getD []).length 1 _ hq11.rd (by omega) (by omega) (by omega)).mono ?_
  rintro e w13 ⟨rfl, hb13⟩
  clear hc4x0 gc4x0 l4 hc8x0 gc8x0 l8
  have sz14 := hb13.size
  try simp only [World.size_alloc] at sz14
  have hB''''''' := hB''''''.trans (hb13.mono hB''''''.size)
  clear hB''''''
  have k4''''' := k4''''.below hb13 k4''''.lt
  clear k4''''
  have k8''' := k8''.below hb13 k8''.lt
  clear k8''
  have ho2'''''' := ho2'''''.below hb13
  clear ho2'''''
  have hq11' := hq11.below hb13
  clear hq11
  obtain ⟨hc4x0, gc4x0⟩ := k4'''''.at_ 0 (x := .slice A2 ((specParseF s0).getD []).length d2) rfl
  have l4 := k4'''''.lt
  obtain ⟨hc8x0, gc8x0⟩ := k8'''.at_ 0 (x := .slice A6 ((specParseF s0).getD []).length d6) rfl
  have l8 := k8'''.lt
  go_wp2_with fail
  refine (impl_ParseMemE s0 _ (by omega) (HT.out.below hB''''''' (Nat.le_refl _))).mono ?_
  rintro e w15 ⟨v16x0, bs16, rfl, ho16, lo16, hb16⟩
  clear hc4x0 gc4x0 l4 hc8x0 gc8x0 l8
  have sz17 := hb16.size
  try simp only [World.size_alloc] at sz17
  have hB'''''''' := hB'''''''.trans (hb16.mono hB'''''''.size)
  clear hB'''''''
  have k4'''''' := k4'''''.below hb16 k4'''''.lt
  clear k4'''''
  have k8'''' := k8'''.below hb16 k8'''.lt
  clear k8'''
  have ho2''''''' := ho2''''''.below hb16
  clear ho2''''''
  have hq11'' := hq11'.below hb16
  clear hq11'
  have hi16 := ho16.lt
  try simp only [World.size_alloc] at lo16
  obtain ⟨A16, d16, rfl, -, -⟩ := ho16.slice
  obtain ⟨hc4x0, gc4x0⟩ := k4''''''.at_ 0 (x := .slice A2 ((specParseF s0).getD []).length d2) rfl
  have l4 := k4''''''.lt
  obtain ⟨hc8x0, gc8x0⟩ := k8''''.at_ 0 (x := .slice A6 ((specParseF s0).getD []).length d6) rfl
  have l8 := k8''''.lt
  go_wp2_with fail
  clear hc4x0 gc4x0 l4 hc8x0 gc8x0 l8
  have k4''''''' := k4''''''.alloc (.cells #[.slice A16 ((specParseF s0).getD []).length d16] 26)
  clear k4''''''
  have k8''''' := k8''''.alloc (.cells #[.slice A16 ((specParseF s0).getD []).length d16] 26)
  clear k8''''
  have ho2'''''''' := ho2'''''''.below ((Below.refl _ _).alloc (Nat.le_refl _) (.cells #[.slice A16 ((specParseF s0).getD []).length d16] 26))
  clear ho2'''''''
  have hq11''' := hq11''.below ((Below.refl _ _).alloc (Nat.le_refl _) (.cells #[.slice A16 ((specParseF s0).getD []).length d16] 26))
  clear hq11''
  have ho16' := ho16.below ((Below.refl _ _).alloc (Nat.le_refl _) (.cells #[.slice A16 ((specParseF s0).getD []).length d16] 26))
  clear ho16
  have hB''''''''' := hB''''''''.alloc hB''''''''.size (.cells #[.slice A16 ((specParseF s0).getD []).length d16] 26)
  clear hB''''''''
  have k18 := Bk.new w15 #[.slice A16 ((specParseF s0).getD []).length d16] 26
  refine (eqMemB _ _ (((specParseF s0).getD [])) (((specParseF s0).getD [])) _ ho16'.rd ho2''''''''.rd).mono ?_
  rintro e w19 ⟨rfl, hb19⟩
  rw [decide_eq_true rfl]
  have sz20 := hb19.size
  try simp only [World.size_alloc] at sz20
  have hB'''''''''' := hB'''''''''.trans (hb19.mono hB'''''''''.size)
  clear hB'''''''''
  have k4'''''''' := k4'''''''.below hb19 k4'''''''.lt
  clear k4'''''''
  have k8'''''' := k8'''''.below hb19 k8'''''.lt
  clear k8'''''
  have k18' := k18.below hb19 k18.lt
  clear k18
  have ho2''''''''' := ho2''''''''.below hb19
  clear ho2''''''''
  have hq11'''' := hq11'''.below hb19
  clear hq11'''
  have ho16'' := ho16'.below hb19
  clear ho16'
  obtain ⟨hc4x0, gc4x0⟩ := k4''''''''.at_ 0 (x := .slice A2 ((specParseF s0).getD []).length d2) rfl
  have l4 := k4''''''''.lt
  obtain ⟨hc8x0, gc8x0⟩ := k8''''''.at_ 0 (x := .slice A6 ((specParseF s0).getD []).length d6) rfl
  have l8 := k8''''''.lt
  obtain ⟨hc18x0, gc18x0⟩ := k18'.at_ 0 (x := .slice A16 ((specParseF s0).getD []).length d16) rfl
  have l18 := k18'.lt
  go_wp2_with fail
  refine (heldMem _ ((specParseF s0).getD []).length 1 _ hq11''''.rd (by omega) (by omega) (by omega)).mono ?_
  rintro e w21 ⟨rfl, hb21⟩
  clear hc4x0 gc4x0 l4 hc8x0 gc8x0 l8 hc18x0 gc18x0 l18
  have sz22 := hb21.size
  try simp only [World.size_alloc] at sz22
  have hB''''''''''' := hB''''''''''.trans (hb21.mono hB''''''''''.size)
  clear hB''''''''''
  have k4''''''''' := k4''''''''.below hb21 k4''''''''.lt
  clear k4''''''''
  have k8''''''' := k8''''''.below hb21 k8''''''.lt
  clear k8''''''
  have k18'' := k18'.below hb21 k18'.lt
  clear k18'
  have ho2'''''''''' := ho2'''''''''.below hb21
  clear ho2'''''''''
  have hq11''''' := hq11''''.below hb21
  clear hq11''''
  have ho16''' := ho16''.below hb21
  clear ho16''
  obtain ⟨hc4x0, gc4x0⟩ := k4'''''''''.at_ 0 (x := .slice A2 ((specParseF s0).getD []).length d2) rfl
  have l4 := k4'''''''''.lt
  obtain ⟨hc8x0, gc8x0⟩ := k8'''''''.at_ 0 (x := .slice A6 ((specParseF s0).getD []).length d6) rfl
  have l8 := k8'''''''.lt
  obtain ⟨hc18x0, gc18x0⟩ := k18''.at_ 0 (x := .slice A16 ((specParseF s0).getD []).length d16) rfl
  have l18 := k18''.lt
  go_wp2_with fail
  go_ret
  exact ⟨rfl, hB'''''''''''⟩
theorem tab_ParseMem {W : World} (h : laidMetH Tryd.prog Rows.fnExactParseMemRow.laid W) (hS : W.ShapedOpen Tryd.prog) : Env W := ⟨tab_of 2 (by kernel_rfl) rfl h, ⟨sentinel 5 1 (by kernel_rfl) rfl (by kernel_rfl) (by kernel_rfl) h, sentinel 4 2 (by kernel_rfl) rfl (by kernel_rfl) (by kernel_rfl) h⟩, max_of hS⟩
set_option maxRecDepth 100000 in
theorem contract_ParseMem (H : Type) (enc : TypeId × Value → H) (W : World) (base : Nat) (args : Array Value) (ds gs : List (DataW H)) (before : List MemPlace)
    (hval0 : ∀ (j : Nat) t v, Tryd.f5.params[j]? = some t → args[j]? = some v → Value.okWide Tryd.prog W .any base t v)
    (hW : DataW.Whole enc Tryd.prog Tryd.f5.params.toList Rows.fnExactParseMemSpec.vars false W args.toList ds gs before) (hL : laidMetH Tryd.prog Rows.fnExactParseMemRow.laid W) (hS : W.ShapedOpen Tryd.prog) :
    Calls Tryd.prog 5 args W fun e W' => ∃ v, e = .returned v ∧ Rows.fnExactParseMemSpec.post enc Tryd.prog Tryd.f5 false true false false W args v W' := by
  have hval : ∀ (j : Nat) t v, Tryd.f5.params[j]? = some t → args[j]? = some v → Value.okWide Tryd.prog W .any base t v := hval0
  have hW' := hW
  obtain ⟨p, q, hA0, hV, rfl, hfz, hnd⟩ := hW
  have hA : DataW.TrodAll enc Tryd.prog W 0 (fun _ => true) true Tryd.f5.params.toList args.toList ds p := hA0
  rw [Tryd.params5] at hA hval
  obtain ⟨v0, vs0, d0, ds0, p0, q0, hargs, rfl, rfl, h0, r0⟩ := trodAll_cons hA
  obtain ⟨rfl, rfl, rfl⟩ := trodAll_nil r0
  obtain rfl : args = #[v0] := by cases args; simp_all
  obtain ⟨rfl, rfl⟩ := trodVars_none hV
  obtain ⟨b0, rfl, rfl, rfl, _⟩ := Go.ChangeMaps.open_string Tryd.underlying9 (hval 0 _ v0 rfl rfl) h0
  have hL' := tab_ParseMem hL hS
  refine (walk_ParseMem b0.data.toList W hL').mono fun e W' ⟨he, hb⟩ => ?_
  subst he
  exact ⟨_, rfl, post_law (by kernel_rfl) rfl rfl (by kernel_rfl) Tryd.underlying4 (of_decide_eq_true (by kernel_rfl)) hW' hb⟩
noncomputable def world_ParseMem (os : Os) : World := laidWorldE os Rows.fnExactParseMemRow.laid
theorem met_ParseMem (os : Os) : laidMet Tryd.prog Rows.fnExactParseMemRow.laid ((world_ParseMem os).forCall (fun _ _ => 0) ⟨#[], #[.string ⟨#[]⟩], []⟩).memory := laidMet_of_run' 8 (by kernel_rfl) (by kernel_rfl)
theorem reads_ParseMem (os : Os) {H : Type} (enc : TypeId × Value → H) : ∃ places, DataW.whole enc Tryd.prog ((world_ParseMem os).forCall (fun _ _ => 0) ⟨#[], #[.string ⟨#[]⟩], []⟩).memory Tryd.f5.params.toList Rows.fnExactParseMemSpec.vars false (#[.string ⟨#[]⟩] : Array Value).toList 8 = some ([.lit (.string [])], [], places) :=
  ⟨[], by kernel_rfl⟩
set_option maxRecDepth 100000 in
theorem lift_ParseMem (os : Os) (started : os.Started) (H : Type) (enc : TypeId × Value → H) (F : Stop.Interp) :
    ReturnsInHanded {} Tryd.checked os 5 .any ((OpenSpec.ofChange Rows.fnExactParseMemSpec).preRow enc Tryd.prog Tryd.f5 Rows.fnExactParseMemRow.domain false Rows.fnExactParseMemRow.laid) (((OpenSpec.ofChange Rows.fnExactParseMemSpec).at F).post enc Tryd.prog Tryd.f5 false true false false) := by
  obtain ⟨places, hx⟩ := reads_ParseMem os enc
  refine returnsInHanded_of_row (C := Tryd.checked) (s := OpenSpec.ofChange Rows.fnExactParseMemSpec) (by kernel_rfl) started (by kernel_rfl) Tryd.func5
    (witness_row_atRef (enc := enc) (C := Tryd.checked) false (world_ParseMem os) #[.string ⟨#[]⟩] rfl (by kernel_rfl) (by kernel_rfl) (by kernel_rfl)
      (OpenSpec.preRow_of_cond 8 hx (by kernel_rfl) (fun k hk => by cases hk) (by kernel_rfl) (met_ParseMem os))) ?_
  intro W base args ds gs before hval hW _ _ _ hL hS _
  exact contract_ParseMem H enc W base args ds gs before hval hW hL hS
theorem FnExactParseMem_row : Rows.FnExactParseMemSaid :=
  OpenClaim.holds_of_cond 5 Tryd.f5 rfl rfl rfl rfl rfl rfl rfl ⟨rfl, rfl, rfl, rfl, rfl⟩ rfl rfl rfl rfl rfl (by kernel_rfl) Tryd.func5 (by kernel_rfl)
    (of_decide_eq_true (by kernel_rfl)) (by unfold Func.isWrapper; first | (rw [if_pos (by decide +kernel)]; kernel_rfl) | (rw [if_neg (by decide +kernel)]; exact ⟨rfl, rfl⟩))
    (fun os started H enc _ F => by rw [OpenClaim.pre_eq_preRow]; exact lift_ParseMem os started H enc F)
theorem plain_ParseMem (f : FuncId) (fn : Func) (hf : Tryd.pinned.checked.prog.funcNamed Rows.fnExactParseMemRow.func = some f) (hfn : Tryd.pinned.checked.prog.funcs[f]? = some fn) :
    true = Tryd.pinned.checked.prog.looks [] ∧ ∀ (j : Nat) t, fn.params[j]? = some t → Tryd.pinned.checked.prog.wantsStandIn t = false := by
  obtain rfl : f = 5 := Option.some.inj ((show Tryd.prog.funcNamed Rows.fnExactParseMemRow.func = some 5 by kernel_rfl).symm.trans hf) |>.symm
  obtain rfl : fn = Tryd.f5 := (Option.some.inj (Tryd.func5.symm.trans hfn)).symm
  refine ⟨by kernel_rfl, fun j t ht => ?_⟩
  rw [Tryd.params5] at ht
  obtain rfl : t = 9 := by simpa using Array.mem_of_getElem? ht
  kernel_rfl
theorem FnExactParseMem_holds : Rows.FnExactParseMemCardSaid :=
  Claim7.holds_tied_plain_at .later [] _ _ _ _ FnExactParseMem_row (fun _ h => by cases h) (by kernel_rfl) (fun _ h => by cases h) fnExactParseMem_row_tie rfl ⟨rfl, rfl⟩ (by kernel_rfl) rfl plain_ParseMem (by kernel_rfl)
#print axioms FnExactParseMem_holds
end Go.Proofs.YthlkppeciapkmaaDoor
