/- FnExactParseInstr answers true at every input: ParseInstr answers as its model does, leaves its arguments alone and owns its answer. Conditions: none. -/
import Derived.Test.YtfnijeacmgjgdaaDoorLaw
import Derived.Test.YtfnijeacmgjgdaaDoorLaw2
import Derived.Test.YtfnijeacmgjgdaaDoorI8b
import Derived.Test.YtfnijeacmgjgdaaDoorLaidE
import Derived.Deep.RegionHeld3
namespace Go.Proofs.YtfnijeacmgjgdaaDoor
set_option maxRecDepth 20000
set_option linter.unusedSimpArgs false
set_option linter.unusedVariables false
open Go.ChangeShapes Go.WideShapes Go.ChangeAt Go.RowKit
set_option linter.unusedVariables false
set_option maxHeartbeats 4000000 in
theorem walk_ParseInstr (s0 : List UInt8) (w : World) (hT : EnvP w) :
    Calls Tryd.prog 4 #[str s0] w fun e w' => e = .returned (.bool true) ∧ Below w.heap.size w w' := by
  obtain ⟨rx, hrx⟩ : ∃ rx, (parseIF s0).getD ⟨0, 0, 0, 0⟩ = rx := ⟨_, rfl⟩
  obtain ⟨rb, hrb⟩ : ∃ rb, (parseIF s0).isSome = rb := ⟨_, rfl⟩
  have HX := Lib.hid hrx
  have HBb := Lib.hid hrb
  clear hrx hrb
  have HT := Lib.hid hT
  clear hT
  have hB := Below.refl w.heap.size w
  by_cases hbig : 1048576 < s0.length
  · go_enter Tryd.func4, Tryd.ntmps4
    go_wp2_with fail
    go_ret
    exact ⟨rfl, Below.refl _ _⟩
  go_enter Tryd.func4, Tryd.ntmps4
  go_wp2_with fail
  refine (spec_PI s0 _ rx rb (by omega) HX.out HBb.out).mono ?_
  rintro e w1 ⟨rfl, hb1⟩
  have sz2 := hb1.size
  try simp only [World.size_alloc] at sz2
  have hB' := hB.trans (hb1.mono hB.size)
  clear hB
  go_wp2_with fail
  have hB'' := hB'.alloc hB'.size (.cells #[.int .i64 rx.o, .int .i64 rx.r, .int .i64 rx.s, .int .i64 rx.n] 25)
  clear hB'
  have k3 := Bk.new w1 #[.int .i64 rx.o, .int .i64 rx.r, .int .i64 rx.s, .int .i64 rx.n] 25
  refine (impl_PI s0 _ rx rb (by omega) HX.out HBb.out (HT.out.below hB'' (Nat.le_refl _))).mono ?_
  rintro e w4 ⟨rfl, hb4⟩
  have sz5 := hb4.size
  try simp only [World.size_alloc] at sz5
  have hB''' := hB''.trans (hb4.mono hB''.size)
  clear hB''
  have k3' := k3.below hb4 k3.lt
  clear k3
  obtain ⟨hc3x0, gc3x0⟩ := k3'.at_ 0 (x := .int .i64 rx.o) rfl
  obtain ⟨hc3x1, gc3x1⟩ := k3'.at_ 1 (x := .int .i64 rx.r) rfl
  obtain ⟨hc3x2, gc3x2⟩ := k3'.at_ 2 (x := .int .i64 rx.s) rfl
  obtain ⟨hc3x3, gc3x3⟩ := k3'.at_ 3 (x := .int .i64 rx.n) rfl
  have l3 := k3'.lt
  go_wp2_with fail
  clear hc3x0 gc3x0 hc3x1 gc3x1 hc3x2 gc3x2 hc3x3 gc3x3 l3
  have k3'' := k3'.alloc (.cells #[.int .i64 rx.o, .int .i64 rx.r, .int .i64 rx.s, .int .i64 rx.n] 25)
  clear k3'
  have hB'''' := hB'''.alloc hB'''.size (.cells #[.int .i64 rx.o, .int .i64 rx.r, .int .i64 rx.s, .int .i64 rx.n] 25)
  clear hB'''
  have k6 := Bk.new w4 #[.int .i64 rx.o, .int .i64 rx.r, .int .i64 rx.s, .int .i64 rx.n] 25
  refine (eqInstr (rx) (rx) _).mono ?_
  rintro e w7 ⟨rfl, hb7⟩
  rw [decide_eq_true rfl]
  have sz8 := hb7.size
  try simp only [World.size_alloc] at sz8
  have hB''''' := hB''''.trans (hb7.mono hB''''.size)
  clear hB''''
  have k3''' := k3''.below hb7 k3''.lt
  clear k3''
  have k6' := k6.below hb7 k6.lt
  clear k6
  obtain ⟨hc3x0, gc3x0⟩ := k3'''.at_ 0 (x := .int .i64 rx.o) rfl
  obtain ⟨hc3x1, gc3x1⟩ := k3'''.at_ 1 (x := .int .i64 rx.r) rfl
  obtain ⟨hc3x2, gc3x2⟩ := k3'''.at_ 2 (x := .int .i64 rx.s) rfl
  obtain ⟨hc3x3, gc3x3⟩ := k3'''.at_ 3 (x := .int .i64 rx.n) rfl
  have l3 := k3'''.lt
  obtain ⟨hc6x0, gc6x0⟩ := k6'.at_ 0 (x := .int .i64 rx.o) rfl
  obtain ⟨hc6x1, gc6x1⟩ := k6'.at_ 1 (x := .int .i64 rx.r) rfl
  obtain ⟨hc6x2, gc6x2⟩ := k6'.at_ 2 (x := .int .i64 rx.s) rfl
  obtain ⟨hc6x3, gc6x3⟩ := k6'.at_ 3 (x := .int .i64 rx.n) rfl
  have l6 := k6'.lt
  go_wp2_with fail
  go_ret
  exact ⟨rfl, hB'''''⟩
theorem tab_ParseInstr {W : World} (h : laidMetH Tryd.prog Rows.fnExactParseInstrRow.laid W) (hS : W.ShapedOpen Tryd.prog) : EnvP W := ⟨⟨tab_of 2 (by kernel_rfl) rfl h, ⟨sentinel 5 3 (by kernel_rfl) rfl (by kernel_rfl) (by kernel_rfl) h, sentinel 4 4 (by kernel_rfl) rfl (by kernel_rfl) (by kernel_rfl) h⟩, max_of hS⟩, names_of 6 (by kernel_rfl) rfl h⟩
set_option maxRecDepth 100000 in
theorem contract_ParseInstr (H : Type) (enc : TypeId × Value → H) (W : World) (base : Nat) (args : Array Value) (ds gs : List (DataW H)) (before : List MemPlace)
    (hval0 : ∀ (j : Nat) t v, Tryd.f4.params[j]? = some t → args[j]? = some v → Value.okWide Tryd.prog W .any base t v)
    (hW : DataW.Whole enc Tryd.prog Tryd.f4.params.toList Rows.fnExactParseInstrSpec.vars false W args.toList ds gs before) (hL : laidMetH Tryd.prog Rows.fnExactParseInstrRow.laid W) (hS : W.ShapedOpen Tryd.prog) :
    Calls Tryd.prog 4 args W fun e W' => ∃ v, e = .returned v ∧ Rows.fnExactParseInstrSpec.post enc Tryd.prog Tryd.f4 false true false false W args v W' := by
  have hval : ∀ (j : Nat) t v, Tryd.f4.params[j]? = some t → args[j]? = some v → Value.okWide Tryd.prog W .any base t v := hval0
  have hW' := hW
  obtain ⟨p, q, hA0, hV, rfl, hfz, hnd⟩ := hW
  have hA : DataW.TrodAll enc Tryd.prog W 0 (fun _ => true) true Tryd.f4.params.toList args.toList ds p := hA0
  rw [Tryd.params4] at hA hval
  obtain ⟨v0, vs0, d0, ds0, p0, q0, hargs, rfl, rfl, h0, r0⟩ := trodAll_cons hA
  obtain ⟨rfl, rfl, rfl⟩ := trodAll_nil r0
  obtain rfl : args = #[v0] := by cases args; simp_all
  obtain ⟨gV, tV, csV, fuelV, dV, pV, rfl, -, -, -, -, rfl⟩ := trodVars_one hV
  obtain ⟨b0, rfl, rfl, rfl, _⟩ := Go.ChangeMaps.open_string Tryd.underlying9 (hval 0 _ v0 rfl rfl) h0
  have hL' := tab_ParseInstr hL hS
  refine (walk_ParseInstr b0.data.toList W hL').mono fun e W' ⟨he, hb⟩ => ?_
  subst he
  exact ⟨_, rfl, post_lawV (by kernel_rfl) rfl (by kernel_rfl) (by kernel_rfl) Tryd.underlying4 (of_decide_eq_true (by kernel_rfl)) hW' hb⟩
noncomputable def world_ParseInstr (os : Os) : World := laidWorldE os Rows.fnExactParseInstrRow.laid
theorem met_ParseInstr (os : Os) : laidMet Tryd.prog Rows.fnExactParseInstrRow.laid ((world_ParseInstr os).forCall (fun _ _ => 0) ⟨#[], #[.string ⟨#[]⟩], []⟩).memory := laidMet_of_run' 8 (by kernel_rfl) (by kernel_rfl)
theorem reads_ParseInstr (os : Os) {H : Type} (enc : TypeId × Value → H) : ∃ places, DataW.whole enc Tryd.prog ((world_ParseInstr os).forCall (fun _ _ => 0) ⟨#[], #[.string ⟨#[]⟩], []⟩).memory Tryd.f4.params.toList Rows.fnExactParseInstrSpec.vars false (#[.string ⟨#[]⟩] : Array Value).toList 8 = some ([.lit (.string [])], [Rows.laid_loop_example_g00712_impl_opNames], places) :=
  ⟨MemPlace.row ⟨0, 0, none⟩ 9, by kernel_rfl⟩
set_option maxRecDepth 100000 in
theorem lift_ParseInstr (os : Os) (started : os.Started) (H : Type) (enc : TypeId × Value → H) (F : Stop.Interp) :
    ReturnsInHanded {} Tryd.checked os 4 .any ((OpenSpec.ofChange Rows.fnExactParseInstrSpec).preRow enc Tryd.prog Tryd.f4 Rows.fnExactParseInstrRow.domain false Rows.fnExactParseInstrRow.laid) (((OpenSpec.ofChange Rows.fnExactParseInstrSpec).at F).post enc Tryd.prog Tryd.f4 false true false false) := by
  obtain ⟨places, hx⟩ := reads_ParseInstr os enc
  refine returnsInHanded_of_row (C := Tryd.checked) (s := OpenSpec.ofChange Rows.fnExactParseInstrSpec) (by kernel_rfl) started (by kernel_rfl) Tryd.func4
    (witness_row_atRef (enc := enc) (C := Tryd.checked) false (world_ParseInstr os) #[.string ⟨#[]⟩] rfl (by kernel_rfl) (by kernel_rfl) (by kernel_rfl)
      (OpenSpec.preRow_of_cond 8 hx (by kernel_rfl) (fun k hk => by cases hk) (by kernel_rfl) (met_ParseInstr os))) ?_
  intro W base args ds gs before hval hW _ _ _ hL hS _
  exact contract_ParseInstr H enc W base args ds gs before hval hW hL hS
theorem FnExactParseInstr_row : Rows.FnExactParseInstrSaid :=
  OpenClaim.holds_of_cond 4 Tryd.f4 rfl rfl rfl rfl rfl rfl rfl ⟨rfl, rfl, rfl, rfl, rfl⟩ rfl rfl rfl rfl rfl (by kernel_rfl) Tryd.func4 (by kernel_rfl)
    (of_decide_eq_true (by kernel_rfl)) (by unfold Func.isWrapper; first | (rw [if_pos (by decide +kernel)]; kernel_rfl) | (rw [if_neg (by decide +kernel)]; exact ⟨rfl, rfl⟩))
    (fun os started H enc _ F => by rw [OpenClaim.pre_eq_preRow]; exact lift_ParseInstr os started H enc F)
theorem plain_ParseInstr (f : FuncId) (fn : Func) (hf : Tryd.pinned.checked.prog.funcNamed Rows.fnExactParseInstrRow.func = some f) (hfn : Tryd.pinned.checked.prog.funcs[f]? = some fn) :
    true = Tryd.pinned.checked.prog.looks [] ∧ ∀ (j : Nat) t, fn.params[j]? = some t → Tryd.pinned.checked.prog.wantsStandIn t = false := by
  obtain rfl : f = 4 := Option.some.inj ((show Tryd.prog.funcNamed Rows.fnExactParseInstrRow.func = some 4 by kernel_rfl).symm.trans hf) |>.symm
  obtain rfl : fn = Tryd.f4 := (Option.some.inj (Tryd.func4.symm.trans hfn)).symm
  refine ⟨by kernel_rfl, fun j t ht => ?_⟩
  rw [Tryd.params4] at ht
  obtain rfl : t = 9 := by simpa using Array.mem_of_getElem? ht
  kernel_rfl
theorem FnExactParseInstr_holds : Rows.FnExactParseInstrCardSaid :=
  Claim7.holds_tied_plain_at .later [] _ _ _ _ FnExactParseInstr_row (fun _ h => by cases h) (by kernel_rfl) (fun _ h => by cases h) fnExactParseInstr_row_tie rfl ⟨rfl, rfl⟩ (by kernel_rfl) rfl plain_ParseInstr (by kernel_rfl)
#print axioms FnExactParseInstr_holds
end Go.Proofs.YtfnijeacmgjgdaaDoor
