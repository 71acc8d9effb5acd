/- FnExactMachineText answers true at every input: MachineText answers as its model does, leaves its arguments alone and owns its answer. Conditions: none. -/
import Derived.Test.YtiflooopfpcelacDoorLaw
import Derived.Test.YtiflooopfpcelacDoorLaw4
import Derived.Test.YtiflooopfpcelacDoorM6
import Derived.Test.YtiflooopfpcelacDoorT9
import Derived.Test.YtiflooopfpcelacDoorLaid
import Derived.Deep.RegionHeld3
namespace Go.Proofs.YtiflooopfpcelacDoor
set_option maxRecDepth 20000
set_option linter.unusedSimpArgs false
set_option linter.unusedVariables false
open Go.ChangeShapes Go.WideShapes Go.ChangeAt Go.RowKit
set_option linter.unusedVariables false
set_option maxHeartbeats 4000000 in
theorem walk_MachineText (v0 u0 : Value) (M0 : Ma) (w : World) (hA0 : RdAMa w v0 u0 M0) (hS0 : ShR M0) (hT : Tab w) :
    Calls Tryd.prog 6 #[.agg #[v0, u0]] w fun e w' => e = .returned (.bool true) ∧ Below w.heap.size w w' := by
  obtain ⟨Aa0, da0, Ba0, ea0, rfl, rfl⟩ := hA0.slices
  have HAaM := Lib.hid hA0
  clear hA0
  have HT := Lib.hid hT
  clear hT
  have hB := Below.refl w.heap.size w
  go_enter Tryd.func6, Tryd.ntmps6
  go_wp2_with fail
  have hB' := hB.alloc hB.size (.cells #[.slice Aa0 M0.mem.length da0, .slice Ba0 M0.ths.length ea0] 46)
  clear hB
  have k1 := Bk.new w #[.slice Aa0 M0.mem.length da0, .slice Ba0 M0.ths.length ea0] 46
  refine (szMachine _ _ M0 (1048576) _ (HAaM.out.below hB') (by omega) (by omega)).mono ?_
  rintro e w2 ⟨rfl, hb2⟩
  have sz3 := hb2.size
  try simp only [World.size_alloc] at sz3
  have hB'' := hB'.trans (hb2.mono hB'.size)
  clear hB'
  have k1' := k1.below hb2 k1.lt
  clear k1
  by_cases hn2 : (1048576 : Int) - (totMa M0) < 0
  · rw [show szF (totMa M0) (1048576) = -1 by unfold szF; rw [if_pos hn2]]
    go_wp2_with fail
    go_ret
    exact ⟨rfl, hB''⟩
  rw [show szF (totMa M0) (1048576) = 1048576 - (totMa M0) by unfold szF; rw [if_neg hn2]]
  obtain ⟨hc1x0, gc1x0⟩ := k1'.at_ 0 (x := .slice Aa0 M0.mem.length da0) rfl
  obtain ⟨hc1x1, gc1x1⟩ := k1'.at_ 1 (x := .slice Ba0 M0.ths.length ea0) rfl
  have l1 := k1'.lt
  go_wp2_with fail
  refine (toMachine _ _ M0 _ (HAaM.out.below hB'') (by omega)).mono ?_
  rintro e w4 ⟨v4x0, v4x1, bs4, rfl, ho4, lo4, hb4⟩
  clear hc1x0 gc1x0 hc1x1 gc1x1 l1
  have sz5 := hb4.size
  try simp only [World.size_alloc] at sz5
  have hB''' := hB''.trans (hb4.mono hB''.size)
  clear hB''
  have k1'' := k1'.below hb4 k1'.lt
  clear k1'
  have hi4 := ho4.lt
  try simp only [World.size_alloc] at lo4
  obtain ⟨A4, d4, B4, e4, rfl, rfl⟩ := ho4.slices
  obtain ⟨hc1x0, gc1x0⟩ := k1''.at_ 0 (x := .slice Aa0 M0.mem.length da0) rfl
  obtain ⟨hc1x1, gc1x1⟩ := k1''.at_ 1 (x := .slice Ba0 M0.ths.length ea0) rfl
  have l1 := k1''.lt
  go_wp2_with fail
  refine (spec_MachineText _ _ M0 _ ho4.rd hS0).mono ?_
  rintro e w6 ⟨rfl, hb6⟩
  clear hc1x0 gc1x0 hc1x1 gc1x1 l1
  have sz7 := hb6.size
  try simp only [World.size_alloc] at sz7
  have hB'''' := hB'''.trans (hb6.mono hB'''.size)
  clear hB'''
  have k1''' := k1''.below hb6 k1''.lt
  clear k1''
  have ho4' := ho4.below hb6
  clear ho4
  obtain ⟨hc1x0, gc1x0⟩ := k1'''.at_ 0 (x := .slice Aa0 M0.mem.length da0) rfl
  obtain ⟨hc1x1, gc1x1⟩ := k1'''.at_ 1 (x := .slice Ba0 M0.ths.length ea0) rfl
  have l1 := k1'''.lt
  go_wp2_with fail
  refine (toMachine _ _ M0 _ (HAaM.out.below hB'''') (by omega)).mono ?_
  rintro e w8 ⟨v8x0, v8x1, bs8, rfl, ho8, lo8, hb8⟩
  clear hc1x0 gc1x0 hc1x1 gc1x1 l1
  have sz9 := hb8.size
  try simp only [World.size_alloc] at sz9
  have hB''''' := hB''''.trans (hb8.mono hB''''.size)
  clear hB''''
  have k1'''' := k1'''.below hb8 k1'''.lt
  clear k1'''
  have ho4'' := ho4'.below hb8
  clear ho4'
  have hi8 := ho8.lt
  try simp only [World.size_alloc] at lo8
  obtain ⟨A8, d8, B8, e8, rfl, rfl⟩ := ho8.slices
  obtain ⟨hc1x0, gc1x0⟩ := k1''''.at_ 0 (x := .slice Aa0 M0.mem.length da0) rfl
  obtain ⟨hc1x1, gc1x1⟩ := k1''''.at_ 1 (x := .slice Ba0 M0.ths.length ea0) rfl
  have l1 := k1''''.lt
  go_wp2_with fail
  clear hc1x0 gc1x0 hc1x1 gc1x1 l1
  have k1''''' := k1''''.alloc (.cells #[.slice A8 M0.mem.length d8, .slice B8 M0.ths.length e8] 52)
  clear k1''''
  have ho4''' := ho4''.below ((Below.refl _ _).alloc (Nat.le_refl _) (.cells #[.slice A8 M0.mem.length d8, .slice B8 M0.ths.length e8] 52))
  clear ho4''
  have ho8' := ho8.below ((Below.refl _ _).alloc (Nat.le_refl _) (.cells #[.slice A8 M0.mem.length d8, .slice B8 M0.ths.length e8] 52))
  clear ho8
  have hB'''''' := hB'''''.alloc hB'''''.size (.cells #[.slice A8 M0.mem.length d8, .slice B8 M0.ths.length e8] 52)
  clear hB'''''
  have k10 := Bk.new w8 #[.slice A8 M0.mem.length d8, .slice B8 M0.ths.length e8] 52
  refine (impl_MachineText _ _ M0 _ ho8'.rd hS0 (HT.out.below hB'''''' (Nat.le_refl _))).mono ?_
  rintro e w11 ⟨rfl, hb11⟩
  have sz12 := hb11.size
  try simp only [World.size_alloc] at sz12
  have hB''''''' := hB''''''.trans (hb11.mono hB''''''.size)
  clear hB''''''
  have k1'''''' := k1'''''.below hb11 k1'''''.lt
  clear k1'''''
  have k10' := k10.below hb11 k10.lt
  clear k10
  have ho4'''' := ho4'''.below hb11
  clear ho4'''
  have ho8'' := ho8'.below hb11
  clear ho8'
  obtain ⟨hc1x0, gc1x0⟩ := k1''''''.at_ 0 (x := .slice Aa0 M0.mem.length da0) rfl
  obtain ⟨hc1x1, gc1x1⟩ := k1''''''.at_ 1 (x := .slice Ba0 M0.ths.length ea0) rfl
  have l1 := k1''''''.lt
  obtain ⟨hc10x0, gc10x0⟩ := k10'.at_ 0 (x := .slice A8 M0.mem.length d8) rfl
  obtain ⟨hc10x1, gc10x1⟩ := k10'.at_ 1 (x := .slice B8 M0.ths.length e8) rfl
  have l10 := k10'.lt
  go_wp2_with fail
  clear hc1x0 gc1x0 hc1x1 gc1x1 l1 hc10x0 gc10x0 hc10x1 gc10x1 l10
  obtain ⟨hc1x0, gc1x0⟩ := k1''''''.at_ 0 (x := .slice Aa0 M0.mem.length da0) rfl
  obtain ⟨hc1x1, gc1x1⟩ := k1''''''.at_ 1 (x := .slice Ba0 M0.ths.length ea0) rfl
  have l1 := k1''''''.lt
  obtain ⟨hc10x0, gc10x0⟩ := k10'.at_ 0 (x := .slice A8 M0.mem.length d8) rfl
  obtain ⟨hc10x1, gc10x1⟩ := k10'.at_ 1 (x := .slice B8 M0.ths.length e8) rfl
  have l10 := k10'.lt
  have HS14 : Hid (∀ W : World, Below w11.heap.size w11 W → Below w11.heap.size w11 W ∧ W.cell? ⟨w8.heap.size, 0, none⟩ = some (.slice A8 M0.mem.length d8) ∧ W.cell? ⟨w8.heap.size, 1, none⟩ = some (.slice B8 M0.ths.length e8) ∧ W.cell? ⟨w.heap.size, 0, none⟩ = some (.slice Aa0 M0.mem.length da0) ∧ W.cell? ⟨w.heap.size, 1, none⟩ = some (.slice Ba0 M0.ths.length ea0)) := Lib.hid fun W hW => ⟨hW, (hW.cell (p := ⟨w8.heap.size, 0, none⟩) k10'.lt).trans hc10x0, (hW.cell (p := ⟨w8.heap.size, 1, none⟩) k10'.lt).trans hc10x1, (hW.cell (p := ⟨w.heap.size, 0, none⟩) k1''''''.lt).trans hc1x0, (hW.cell (p := ⟨w.heap.size, 1, none⟩) k1''''''.lt).trans hc1x1⟩
  have HhB_______ := Lib.hid hB'''''''
  have Hho4____ := Lib.hid ho4''''
  have Hho8__ := Lib.hid ho8''
  go_region_held3 (fun W => Below w11.heap.size w11 W ∧ W.cell? ⟨w8.heap.size, 0, none⟩ = some (.slice A8 M0.mem.length d8) ∧ W.cell? ⟨w8.heap.size, 1, none⟩ = some (.slice B8 M0.ths.length e8) ∧ W.cell? ⟨w.heap.size, 0, none⟩ = some (.slice Aa0 M0.mem.length da0) ∧ W.cell? ⟨w.heap.size, 1, none⟩ = some (.slice Ba0 M0.ths.length ea0)) (first | (exact HS14.out _ (Below.refl _ _).drew) | (exact HS14.out _ (by assumption)))
    (first
      | (go_at_call 26; have hS := ‹Below w11.heap.size w11 _ ∧ _›.1; refine (toMachine _ _ M0 _ (HAaM.out.below (HhB_______.out.trans (hS.mono HhB_______.out.size))) (by omega)).mono ?_; rintro e wa13 ⟨vv0, vv1, bsw, rfl, how, low, hbw13⟩; have HO13 := Lib.hid how; clear how low; have hS14x0 := hS.trans (hbw13.mono hS.size); clear hS)
      | (go_at_call 28; have hS := ‹Below w11.heap.size w11 _ ∧ _›.1; refine (eqMachine _ _ _ _ (M0) (M0) _ (Hho8__.out.below hS).rd HO13.out.rd).mono ?_; rintro e w13 ⟨rfl, hbe13⟩; have hS14x1 := hS.trans (hbe13.mono hS.size); clear hS))
  have hS14 := ‹Below w11.heap.size w11 _ ∧ _›.1
  clear HS14 HhB_______ Hho4____ Hho8__
  clear hc1x0 gc1x0 hc1x1 gc1x1 l1 hc10x0 gc10x0 hc10x1 gc10x1 l10
  have sz15 := hS14.size
  try simp only [World.size_alloc] at sz15
  have hB'''''''' := hB'''''''.trans (hS14.mono hB'''''''.size)
  clear hB'''''''
  have k1''''''' := k1''''''.below hS14 k1''''''.lt
  clear k1''''''
  have k10'' := k10'.below hS14 k10'.lt
  clear k10'
  have ho4''''' := ho4''''.below hS14
  clear ho4''''
  have ho8''' := ho8''.below hS14
  clear ho8''
  clear hS14
  clear HO13
  obtain ⟨hc1x0, gc1x0⟩ := k1'''''''.at_ 0 (x := .slice Aa0 M0.mem.length da0) rfl
  obtain ⟨hc1x1, gc1x1⟩ := k1'''''''.at_ 1 (x := .slice Ba0 M0.ths.length ea0) rfl
  have l1 := k1'''''''.lt
  obtain ⟨hc10x0, gc10x0⟩ := k10''.at_ 0 (x := .slice A8 M0.mem.length d8) rfl
  obtain ⟨hc10x1, gc10x1⟩ := k10''.at_ 1 (x := .slice B8 M0.ths.length e8) rfl
  have l10 := k10''.lt
  go_wp2_with fail
  go_ret
  exact ⟨rfl, hB''''''''⟩
theorem tab_MachineText {W : World} (h : laidMetH Tryd.prog Rows.fnExactMachineTextRow.laid W) (hS : W.ShapedOpen Tryd.prog) : Tab W := tab_of 2 (by kernel_rfl) rfl h
set_option maxRecDepth 100000 in
theorem contract_MachineText (H : Type) (enc : TypeId × Value → H) (W : World) (base : Nat) (args : Array Value) (ds gs : List (DataW H)) (before : List MemPlace)
    (hval0 : ∀ (j : Nat) t v, Tryd.f6.params[j]? = some t → args[j]? = some v → Value.okWide Tryd.prog W .any base t v)
    (hW : DataW.Whole enc Tryd.prog Tryd.f6.params.toList Rows.fnExactMachineTextSpec.vars false W args.toList ds gs before) (hL : laidMetH Tryd.prog Rows.fnExactMachineTextRow.laid W) (hS : W.ShapedOpen Tryd.prog) :
    Calls Tryd.prog 6 args W fun e W' => ∃ v, e = .returned v ∧ Rows.fnExactMachineTextSpec.post enc Tryd.prog Tryd.f6 false true false false W args v W' := by
  have hval : ∀ (j : Nat) t v, Tryd.f6.params[j]? = some t → args[j]? = some v → Value.okWide Tryd.prog W .any base t v := hval0
  have hW' := hW
  obtain ⟨p, q, hA0, hV, rfl, hfz, hnd⟩ := hW
  have hA : DataW.TrodAll enc Tryd.prog W 0 (fun _ => true) true Tryd.f6.params.toList args.toList ds p := hA0
  rw [Tryd.params6] at hA hval
  obtain ⟨v0, vs0, d0, ds0, p0, q0, hargs, rfl, rfl, h0, r0⟩ := trodAll_cons hA
  obtain ⟨rfl, rfl, rfl⟩ := trodAll_nil r0
  obtain rfl : args = #[v0] := by cases args; simp_all
  obtain ⟨rfl, rfl⟩ := trodVars_none hV
  obtain ⟨c0, u0, M0, rfl, hR0, hI0⟩ := read_machine Tryd.underlying46 (by kernel_rfl) ⟨rfl, rfl⟩ (by decide +kernel) Tryd.underlying43 rfl (by kernel_rfl) Tryd.underlying41 Tryd.underlying3 (by kernel_rfl) Tryd.underlying44 thTypeL (hval 0 _ v0 rfl rfl) h0
  have hL' := tab_MachineText hL hS
  refine (walk_MachineText _ _ M0 W hR0 (shR_of hI0) hL').mono fun e W' ⟨he, hb⟩ => ?_
  subst he
  exact ⟨_, rfl, post_law (by kernel_rfl) rfl rfl (by kernel_rfl) Tryd.underlying4 (of_decide_eq_true (by kernel_rfl)) hW' hb⟩
noncomputable def world_MachineText (os : Os) : World := laidWorld os Rows.fnExactMachineTextRow.laid
theorem met_MachineText (os : Os) : laidMet Tryd.prog Rows.fnExactMachineTextRow.laid ((world_MachineText os).forCall (fun _ _ => 0) ⟨#[], #[.agg #[.slice none 0 0, .slice none 0 0]], []⟩).memory := laidMet_of_run' 8 (by kernel_rfl) (by kernel_rfl)
theorem reads_MachineText (os : Os) {H : Type} (enc : TypeId × Value → H) : ∃ places, DataW.whole enc Tryd.prog ((world_MachineText os).forCall (fun _ _ => 0) ⟨#[], #[.agg #[.slice none 0 0, .slice none 0 0]], []⟩).memory Tryd.f6.params.toList Rows.fnExactMachineTextSpec.vars false (#[.agg #[.slice none 0 0, .slice none 0 0]] : Array Value).toList 8 = some ([.agg [.agg [.nil], .nil]], [], places) :=
  ⟨[], by kernel_rfl⟩
set_option maxRecDepth 100000 in
theorem lift_MachineText (os : Os) (started : os.Started) (H : Type) (enc : TypeId × Value → H) (F : Stop.Interp) :
    ReturnsInHanded {} Tryd.checked os 6 .any ((OpenSpec.ofChange Rows.fnExactMachineTextSpec).preRow enc Tryd.prog Tryd.f6 Rows.fnExactMachineTextRow.domain false Rows.fnExactMachineTextRow.laid) (((OpenSpec.ofChange Rows.fnExactMachineTextSpec).at F).post enc Tryd.prog Tryd.f6 false true false false) := by
  obtain ⟨places, hx⟩ := reads_MachineText os enc
  refine returnsInHanded_of_row (C := Tryd.checked) (s := OpenSpec.ofChange Rows.fnExactMachineTextSpec) (by kernel_rfl) started (by kernel_rfl) Tryd.func6
    (witness_row_at (enc := enc) (C := Tryd.checked) false (world_MachineText os) #[.agg #[.slice none 0 0, .slice none 0 0]] rfl (by kernel_rfl) (by kernel_rfl) (by kernel_rfl)
      (OpenSpec.preRow_of_cond 8 hx (by kernel_rfl) (fun k hk => by cases hk) (by kernel_rfl) (met_MachineText os))) ?_
  intro W base args ds gs before hval hW _ _ _ hL hS _
  exact contract_MachineText H enc W base args ds gs before hval hW hL hS
theorem FnExactMachineText_row : Rows.FnExactMachineTextSaid :=
  OpenClaim.holds_of_cond 6 Tryd.f6 rfl rfl rfl rfl rfl rfl rfl ⟨rfl, rfl, rfl, rfl, rfl⟩ rfl rfl rfl rfl rfl (by kernel_rfl) Tryd.func6 (by kernel_rfl)
    (of_decide_eq_true (by kernel_rfl)) (by unfold Func.isWrapper; first | (rw [if_pos (by decide +kernel)]; kernel_rfl) | (rw [if_neg (by decide +kernel)]; exact ⟨rfl, rfl⟩))
    (fun os started H enc _ F => by rw [OpenClaim.pre_eq_preRow]; exact lift_MachineText os started H enc F)
theorem plain_MachineText (f : FuncId) (fn : Func) (hf : Tryd.pinned.checked.prog.funcNamed Rows.fnExactMachineTextRow.func = some f) (hfn : Tryd.pinned.checked.prog.funcs[f]? = some fn) :
    true = Tryd.pinned.checked.prog.looks [] ∧ ∀ (j : Nat) t, fn.params[j]? = some t → Tryd.pinned.checked.prog.wantsStandIn t = false := by
  obtain rfl : f = 6 := Option.some.inj ((show Tryd.prog.funcNamed Rows.fnExactMachineTextRow.func = some 6 by kernel_rfl).symm.trans hf) |>.symm
  obtain rfl : fn = Tryd.f6 := (Option.some.inj (Tryd.func6.symm.trans hfn)).symm
  refine ⟨by kernel_rfl, fun j t ht => ?_⟩
  rw [Tryd.params6] at ht
  obtain rfl : t = 46 := by simpa using Array.mem_of_getElem? ht
  kernel_rfl
theorem FnExactMachineText_holds : Rows.FnExactMachineTextCardSaid :=
  Claim7.holds_tied_plain_at .later [] _ _ _ _ FnExactMachineText_row (fun _ h => by cases h) (by kernel_rfl) (fun _ h => by cases h) fnExactMachineText_row_tie rfl ⟨rfl, rfl⟩ (by kernel_rfl) rfl plain_MachineText (by kernel_rfl)
#print axioms FnExactMachineText_holds
end Go.Proofs.YtiflooopfpcelacDoor
