/- FnExactInstrText answers true at every input: InstrText answers as its model does, leaves its arguments alone and owns its answer. Conditions: none. -/
import Derived.Test.YtfnijeacmgjgdaaDoorLaw
import Derived.Test.YtfnijeacmgjgdaaDoorLaw2
import Derived.Test.YtfnijeacmgjgdaaDoorLaidN
import Derived.Deep.RegionHeld3
namespace Go.Proofs.YtfnijeacmgjgdaaDoor
set_option maxRecDepth 20000
set_option linter.unusedSimpArgs false
set_option linter.unusedVariables false
open Go.ChangeShapes Go.WideShapes Go.ChangeAt Go.RowKit
set_option linter.unusedVariables false
set_option maxHeartbeats 4000000 in
theorem walk_InstrText (x0 : Ins) (w : World) (hI0 : InsR x0) (hT : EnvT w) :
    Calls Tryd.prog 3 #[.agg #[.int .i64 x0.o, .int .i64 x0.r, .int .i64 x0.s, .int .i64 x0.n]] w fun e w' => e = .returned (.bool true) ∧ Below w.heap.size w w' := by
  have HT := Lib.hid hT
  clear hT
  have hB := Below.refl w.heap.size w
  go_enter Tryd.func3, Tryd.ntmps3
  go_wp2_with fail
  have hB' := hB.alloc hB.size (.cells #[.int .i64 x0.o, .int .i64 x0.r, .int .i64 x0.s, .int .i64 x0.n] 23)
  clear hB
  have k1 := Bk.new w #[.int .i64 x0.o, .int .i64 x0.r, .int .i64 x0.s, .int .i64 x0.n] 23
  refine (toInstr x0 _).mono ?_
  rintro e w2 ⟨rfl, hb2⟩
  have sz3 := hb2.size
  try simp only [World.size_alloc] at sz3
  have hB'' := hB'.trans (hb2.mono hB'.size)
  clear hB'
  have k1' := k1.below hb2 k1.lt
  clear k1
  obtain ⟨hc1x0, gc1x0⟩ := k1'.at_ 0 (x := .int .i64 x0.o) rfl
  obtain ⟨hc1x1, gc1x1⟩ := k1'.at_ 1 (x := .int .i64 x0.r) rfl
  obtain ⟨hc1x2, gc1x2⟩ := k1'.at_ 2 (x := .int .i64 x0.s) rfl
  obtain ⟨hc1x3, gc1x3⟩ := k1'.at_ 3 (x := .int .i64 x0.n) rfl
  have l1 := k1'.lt
  go_wp2_with fail
  refine (spec_InstrText x0 _ hI0).mono ?_
  rintro e w4 ⟨rfl, hb4⟩
  clear hc1x0 gc1x0 hc1x1 gc1x1 hc1x2 gc1x2 hc1x3 gc1x3 l1
  have sz5 := hb4.size
  try simp only [World.size_alloc] at sz5
  have hB''' := hB''.trans (hb4.mono hB''.size)
  clear hB''
  have k1'' := k1'.below hb4 k1'.lt
  clear k1'
  obtain ⟨hc1x0, gc1x0⟩ := k1''.at_ 0 (x := .int .i64 x0.o) rfl
  obtain ⟨hc1x1, gc1x1⟩ := k1''.at_ 1 (x := .int .i64 x0.r) rfl
  obtain ⟨hc1x2, gc1x2⟩ := k1''.at_ 2 (x := .int .i64 x0.s) rfl
  obtain ⟨hc1x3, gc1x3⟩ := k1''.at_ 3 (x := .int .i64 x0.n) rfl
  have l1 := k1''.lt
  go_wp2_with fail
  refine (toInstr x0 _).mono ?_
  rintro e w6 ⟨rfl, hb6⟩
  clear hc1x0 gc1x0 hc1x1 gc1x1 hc1x2 gc1x2 hc1x3 gc1x3 l1
  have sz7 := hb6.size
  try simp only [World.size_alloc] at sz7
  have hB'''' := hB'''.trans (hb6.mono hB'''.size)
  clear hB'''
  have k1''' := k1''.below hb6 k1''.lt
  clear k1''
  obtain ⟨hc1x0, gc1x0⟩ := k1'''.at_ 0 (x := .int .i64 x0.o) rfl
  obtain ⟨hc1x1, gc1x1⟩ := k1'''.at_ 1 (x := .int .i64 x0.r) rfl
  obtain ⟨hc1x2, gc1x2⟩ := k1'''.at_ 2 (x := .int .i64 x0.s) rfl
  obtain ⟨hc1x3, gc1x3⟩ := k1'''.at_ 3 (x := .int .i64 x0.n) rfl
  have l1 := k1'''.lt
  go_wp2_with fail
  refine (impl_InstrText x0 _ hI0 (HT.out.below hB'''' (Nat.le_refl _)).tab (HT.out.below hB'''' (Nat.le_refl _)).names).mono ?_
  rintro e w8 ⟨rfl, hb8⟩
  clear hc1x0 gc1x0 hc1x1 gc1x1 hc1x2 gc1x2 hc1x3 gc1x3 l1
  have sz9 := hb8.size
  try simp only [World.size_alloc] at sz9
  have hB''''' := hB''''.trans (hb8.mono hB''''.size)
  clear hB''''
  have k1'''' := k1'''.below hb8 k1'''.lt
  clear k1'''
  obtain ⟨hc1x0, gc1x0⟩ := k1''''.at_ 0 (x := .int .i64 x0.o) rfl
  obtain ⟨hc1x1, gc1x1⟩ := k1''''.at_ 1 (x := .int .i64 x0.r) rfl
  obtain ⟨hc1x2, gc1x2⟩ := k1''''.at_ 2 (x := .int .i64 x0.s) rfl
  obtain ⟨hc1x3, gc1x3⟩ := k1''''.at_ 3 (x := .int .i64 x0.n) rfl
  have l1 := k1''''.lt
  go_wp2_with fail
  go_ret
  exact ⟨rfl, hB'''''⟩
theorem tab_InstrText {W : World} (h : laidMetH Tryd.prog Rows.fnExactInstrTextRow.laid W) (hS : W.ShapedOpen Tryd.prog) : EnvT W := ⟨tab_of 2 (by kernel_rfl) rfl h, names_of 3 (by kernel_rfl) rfl h⟩
set_option maxRecDepth 100000 in
theorem contract_InstrText (H : Type) (enc : TypeId × Value → H) (W : World) (base : Nat) (args : Array Value) (ds gs : List (DataW H)) (before : List MemPlace)
    (hval0 : ∀ (j : Nat) t v, Tryd.f3.params[j]? = some t → args[j]? = some v → Value.okWide Tryd.prog W .any base t v)
    (hW : DataW.Whole enc Tryd.prog Tryd.f3.params.toList Rows.fnExactInstrTextSpec.vars false W args.toList ds gs before) (hL : laidMetH Tryd.prog Rows.fnExactInstrTextRow.laid W) (hS : W.ShapedOpen Tryd.prog) :
    Calls Tryd.prog 3 args W fun e W' => ∃ v, e = .returned v ∧ Rows.fnExactInstrTextSpec.post enc Tryd.prog Tryd.f3 false true false false W args v W' := by
  have hval : ∀ (j : Nat) t v, Tryd.f3.params[j]? = some t → args[j]? = some v → Value.okWide Tryd.prog W .any base t v := hval0
  have hW' := hW
  obtain ⟨p, q, hA0, hV, rfl, hfz, hnd⟩ := hW
  have hA : DataW.TrodAll enc Tryd.prog W 0 (fun _ => true) true Tryd.f3.params.toList args.toList ds p := hA0
  rw [Tryd.params3] at hA hval
  obtain ⟨v0, vs0, d0, ds0, p0, q0, hargs, rfl, rfl, h0, r0⟩ := trodAll_cons hA
  obtain ⟨rfl, rfl, rfl⟩ := trodAll_nil r0
  obtain rfl : args = #[v0] := by cases args; simp_all
  obtain ⟨gV, tV, csV, fuelV, dV, pV, rfl, -, -, -, -, rfl⟩ := trodVars_one hV
  obtain ⟨x0, rfl, xw0⟩ := read_ins Tryd.underlying23 (by kernel_rfl) ⟨rfl, rfl, rfl, rfl⟩ (by decide +kernel) ⟨Tryd.underlying3, Tryd.underlying3, Tryd.underlying3, Tryd.underlying3⟩ (hval 0 _ v0 rfl rfl) h0
  have hL' := tab_InstrText hL hS
  refine (walk_InstrText x0 W (insR_of xw0) hL').mono fun e W' ⟨he, hb⟩ => ?_
  subst he
  exact ⟨_, rfl, post_lawV (by kernel_rfl) rfl (by kernel_rfl) (by kernel_rfl) Tryd.underlying4 (of_decide_eq_true (by kernel_rfl)) hW' hb⟩
noncomputable def world_InstrText (os : Os) : World := laidWorld os Rows.fnExactInstrTextRow.laid
theorem met_InstrText (os : Os) : laidMet Tryd.prog Rows.fnExactInstrTextRow.laid ((world_InstrText os).forCall (fun _ _ => 0) ⟨#[], #[.agg #[.int .i64 0, .int .i64 0, .int .i64 0, .int .i64 0]], []⟩).memory := laidMet_of_run' 8 (by kernel_rfl) (by kernel_rfl)
theorem reads_InstrText (os : Os) {H : Type} (enc : TypeId × Value → H) : ∃ places, DataW.whole enc Tryd.prog ((world_InstrText os).forCall (fun _ _ => 0) ⟨#[], #[.agg #[.int .i64 0, .int .i64 0, .int .i64 0, .int .i64 0]], []⟩).memory Tryd.f3.params.toList Rows.fnExactInstrTextSpec.vars false (#[.agg #[.int .i64 0, .int .i64 0, .int .i64 0, .int .i64 0]] : Array Value).toList 8 = some ([.agg [.lit (.int .i64 0), .lit (.int .i64 0), .lit (.int .i64 0), .lit (.int .i64 0)]], [Rows.laid_loop_example_g00712_impl_opNames], places) :=
  ⟨MemPlace.row ⟨0, 0, none⟩ 9, by kernel_rfl⟩
set_option maxRecDepth 100000 in
theorem lift_InstrText (os : Os) (started : os.Started) (H : Type) (enc : TypeId × Value → H) (F : Stop.Interp) :
    ReturnsInHanded {} Tryd.checked os 3 .any ((OpenSpec.ofChange Rows.fnExactInstrTextSpec).preRow enc Tryd.prog Tryd.f3 Rows.fnExactInstrTextRow.domain false Rows.fnExactInstrTextRow.laid) (((OpenSpec.ofChange Rows.fnExactInstrTextSpec).at F).post enc Tryd.prog Tryd.f3 false true false false) := by
  obtain ⟨places, hx⟩ := reads_InstrText os enc
  refine returnsInHanded_of_row (C := Tryd.checked) (s := OpenSpec.ofChange Rows.fnExactInstrTextSpec) (by kernel_rfl) started (by kernel_rfl) Tryd.func3
    (witness_row_at (enc := enc) (C := Tryd.checked) false (world_InstrText os) #[.agg #[.int .i64 0, .int .i64 0, .int .i64 0, .int .i64 0]] rfl (by kernel_rfl) (by kernel_rfl) (by kernel_rfl)
      (OpenSpec.preRow_of_cond 8 hx (by kernel_rfl) (fun k hk => by cases hk) (by kernel_rfl) (met_InstrText os))) ?_
  intro W base args ds gs before hval hW _ _ _ hL hS _
  exact contract_InstrText H enc W base args ds gs before hval hW hL hS
theorem FnExactInstrText_row : Rows.FnExactInstrTextSaid :=
  OpenClaim.holds_of_cond 3 Tryd.f3 rfl rfl rfl rfl rfl rfl rfl ⟨rfl, rfl, rfl, rfl, rfl⟩ rfl rfl rfl rfl rfl (by kernel_rfl) Tryd.func3 (by kernel_rfl)
    (of_decide_eq_true (by kernel_rfl)) (by unfold Func.isWrapper; first | (rw [if_pos (by decide +kernel)]; kernel_rfl) | (rw [if_neg (by decide +kernel)]; exact ⟨rfl, rfl⟩))
    (fun os started H enc _ F => by rw [OpenClaim.pre_eq_preRow]; exact lift_InstrText os started H enc F)
theorem plain_InstrText (f : FuncId) (fn : Func) (hf : Tryd.pinned.checked.prog.funcNamed Rows.fnExactInstrTextRow.func = some f) (hfn : Tryd.pinned.checked.prog.funcs[f]? = some fn) :
    true = Tryd.pinned.checked.prog.looks [] ∧ ∀ (j : Nat) t, fn.params[j]? = some t → Tryd.pinned.checked.prog.wantsStandIn t = false := by
  obtain rfl : f = 3 := Option.some.inj ((show Tryd.prog.funcNamed Rows.fnExactInstrTextRow.func = some 3 by kernel_rfl).symm.trans hf) |>.symm
  obtain rfl : fn = Tryd.f3 := (Option.some.inj (Tryd.func3.symm.trans hfn)).symm
  refine ⟨by kernel_rfl, fun j t ht => ?_⟩
  rw [Tryd.params3] at ht
  obtain rfl : t = 23 := by simpa using Array.mem_of_getElem? ht
  kernel_rfl
theorem FnExactInstrText_holds : Rows.FnExactInstrTextCardSaid :=
  Claim7.holds_tied_plain_at .later [] _ _ _ _ FnExactInstrText_row (fun _ h => by cases h) (by kernel_rfl) (fun _ h => by cases h) fnExactInstrText_row_tie rfl ⟨rfl, rfl⟩ (by kernel_rfl) rfl plain_InstrText (by kernel_rfl)
#print axioms FnExactInstrText_holds
end Go.Proofs.YtfnijeacmgjgdaaDoor
