/- FnExactHolds answers true at every input: Holds answers as its model does, leaves its arguments alone and owns its answer. Conditions: none. -/
import Derived.Test.YtiflooopfpcelaaLaw
import Derived.Test.YtiflooopfpcelaaLaw4
import Derived.Test.YtiflooopfpcelaaMA
import Derived.Test.YtiflooopfpcelaaM6
import Derived.Test.YtiflooopfpcelaaM8
import Derived.Test.YtiflooopfpcelaaA7
import Derived.Deep.RegionHeld3
namespace Go.Proofs.Ytiflooopfpcelaa
set_option maxRecDepth 20000
set_option linter.unusedSimpArgs false
set_option linter.unusedVariables false
open Go.ChangeShapes Go.WideShapes Go.ChangeAt Go.RowKit
set_option linter.unusedVariables false
set_option maxHeartbeats 4000000 in
theorem walk_Holds (v0 u0 : Value) (M0 : Ma) (v1 : Value) (xs1 : List Ins) (w : World) (hA0 : RdAMa w v0 u0 M0) (hA1 : RdA w v1 4 xs1.length (flc xs1)) :
    Calls Try.prog 10 #[.agg #[v0, u0], v1] w fun e w' => e = .returned (.bool true) ∧ Below w.heap.size w w' := by
  obtain ⟨Aa0, da0, Ba0, ea0, rfl, rfl⟩ := hA0.slices
  have HAaM := Lib.hid hA0
  clear hA0
  obtain ⟨Aa1, da1, rfl, -, -, -, -⟩ := id hA1
  have HAaAsk := Lib.hid hA1
  clear hA1
  have hB := Below.refl w.heap.size w
  go_enter Try.func10, Try.ntmps10
  go_wp2_with fail
  have hB' := hB.alloc hB.size (.cells #[.slice Aa0 M0.mem.length da0, .slice Ba0 M0.ths.length ea0] 30)
  clear hB
  have k1 := Bk.new w #[.slice Aa0 M0.mem.length da0, .slice Ba0 M0.ths.length ea0] 30
  refine (szMachine _ _ M0 (1048576) _ (HAaM.out.below hB') (by omega) (by omega)).mono ?_
  rintro e w2 ⟨rfl, hb2⟩
  have sz3 := hb2.size
  try simp only [World.size_alloc] at sz3
  have hB'' := hB'.trans (hb2.mono hB'.size)
  clear hB'
  have k1' := k1.below hb2 k1.lt
  clear k1
  by_cases hn2 : (1048576 : Int) - (totMa M0) < 0
  · rw [show szF (totMa M0) (1048576) = -1 by unfold szF; rw [if_pos hn2]]
    go_wp2_with fail
    go_ret
    exact ⟨rfl, hB''⟩
  rw [show szF (totMa M0) (1048576) = 1048576 - (totMa M0) by unfold szF; rw [if_neg hn2]]
  obtain ⟨hc1x0, gc1x0⟩ := k1'.at_ 0 (x := .slice Aa0 M0.mem.length da0) rfl
  obtain ⟨hc1x1, gc1x1⟩ := k1'.at_ 1 (x := .slice Ba0 M0.ths.length ea0) rfl
  have l1 := k1'.lt
  go_wp2_with fail
  refine (toB (szAtomS _ _ _ (1048576 - (totMa M0)) _ (HAaAsk.out.below hB'') (by omega) (by omega))).mono ?_
  rintro e w4 ⟨rfl, hb4⟩
  clear hc1x0 gc1x0 hc1x1 gc1x1 l1
  have sz5 := hb4.size
  try simp only [World.size_alloc] at sz5
  have hB''' := hB''.trans (hb4.mono hB''.size)
  clear hB''
  have k1'' := k1'.below hb4 k1'.lt
  clear k1'
  by_cases hn4 : (1048576 - (totMa M0) : Int) - xs1.length < 0
  · rw [show szF xs1.length (1048576 - (totMa M0)) = -1 by unfold szF; rw [if_pos hn4]]
    go_wp2_with fail
    go_ret
    exact ⟨rfl, hB'''⟩
  rw [show szF xs1.length (1048576 - (totMa M0)) = 1048576 - (totMa M0) - xs1.length by unfold szF; rw [if_neg hn4]]
  obtain ⟨hc1x0, gc1x0⟩ := k1''.at_ 0 (x := .slice Aa0 M0.mem.length da0) rfl
  obtain ⟨hc1x1, gc1x1⟩ := k1''.at_ 1 (x := .slice Ba0 M0.ths.length ea0) rfl
  have l1 := k1''.lt
  go_wp2_with fail
  refine (toMachine _ _ M0 _ (HAaM.out.below hB''') (by omega)).mono ?_
  rintro e w6 ⟨v6x0, v6x1, bs6, rfl, ho6, lo6, hb6⟩
  clear hc1x0 gc1x0 hc1x1 gc1x1 l1
  have sz7 := hb6.size
  try simp only [World.size_alloc] at sz7
  have hB'''' := hB'''.trans (hb6.mono hB'''.size)
  clear hB'''
  have k1''' := k1''.below hb6 k1''.lt
  clear k1''
  have hi6 := ho6.lt
  try simp only [World.size_alloc] at lo6
  obtain ⟨A6, d6, B6, e6, rfl, rfl⟩ := ho6.slices
  obtain ⟨hc1x0, gc1x0⟩ := k1'''.at_ 0 (x := .slice Aa0 M0.mem.length da0) rfl
  obtain ⟨hc1x1, gc1x1⟩ := k1'''.at_ 1 (x := .slice Ba0 M0.ths.length ea0) rfl
  have l1 := k1'''.lt
  go_wp2_with fail
  refine (toAtomS _ xs1 _ (HAaAsk.out.below hB'''') (by omega)).mono ?_
  rintro e w8 ⟨v8x0, bs8, rfl, ho8, lo8, hb8⟩
  clear hc1x0 gc1x0 hc1x1 gc1x1 l1
  have sz9 := hb8.size
  try simp only [World.size_alloc] at sz9
  have hB''''' := hB''''.trans (hb8.mono hB''''.size)
  clear hB''''
  have k1'''' := k1'''.below hb8 k1'''.lt
  clear k1'''
  have ho6' := ho6.below hb8
  clear ho6
  have hi8 := ho8.lt
  try simp only [World.size_alloc] at lo8
  obtain ⟨A8, d8, rfl, -, -⟩ := ho8.slice
  obtain ⟨hc1x0, gc1x0⟩ := k1''''.at_ 0 (x := .slice Aa0 M0.mem.length da0) rfl
  obtain ⟨hc1x1, gc1x1⟩ := k1''''.at_ 1 (x := .slice Ba0 M0.ths.length ea0) rfl
  have l1 := k1''''.lt
  go_wp2_with fail
  refine (spec_Holds _ _ _ M0 xs1 _ ho6'.rd ho8.rd).mono ?_
  rintro e w10 ⟨rfl, hb10⟩
  clear hc1x0 gc1x0 hc1x1 gc1x1 l1
  have sz11 := hb10.size
  try simp only [World.size_alloc] at sz11
  have hB'''''' := hB'''''.trans (hb10.mono hB'''''.size)
  clear hB'''''
  have k1''''' := k1''''.below hb10 k1''''.lt
  clear k1''''
  have ho6'' := ho6'.below hb10
  clear ho6'
  have ho8' := ho8.below hb10
  clear ho8
  obtain ⟨hc1x0, gc1x0⟩ := k1'''''.at_ 0 (x := .slice Aa0 M0.mem.length da0) rfl
  obtain ⟨hc1x1, gc1x1⟩ := k1'''''.at_ 1 (x := .slice Ba0 M0.ths.length ea0) rfl
  have l1 := k1'''''.lt
  go_wp2_with fail
  refine (toMachine _ _ M0 _ (HAaM.out.below hB'''''') (by omega)).mono ?_
  rintro e w12 ⟨v12x0, v12x1, bs12, rfl, ho12, lo12, hb12⟩
  clear hc1x0 gc1x0 hc1x1 gc1x1 l1
  have sz13 := hb12.size
  try simp only [World.size_alloc] at sz13
  have hB''''''' := hB''''''.trans (hb12.mono hB''''''.size)
  clear hB''''''
  have k1'''''' := k1'''''.below hb12 k1'''''.lt
  clear k1'''''
  have ho6''' := ho6''.below hb12
  clear ho6''
  have ho8'' := ho8'.below hb12
  clear ho8'
  have hi12 := ho12.lt
  try simp only [World.size_alloc] at lo12
  obtain ⟨A12, d12, B12, e12, rfl, rfl⟩ := ho12.slices
  obtain ⟨hc1x0, gc1x0⟩ := k1''''''.at_ 0 (x := .slice Aa0 M0.mem.length da0) rfl
  obtain ⟨hc1x1, gc1x1⟩ := k1''''''.at_ 1 (x := .slice Ba0 M0.ths.length ea0) rfl
  have l1 := k1''''''.lt
  go_wp2_with fail
  clear hc1x0 gc1x0 hc1x1 gc1x1 l1
  have k1''''''' := k1''''''.alloc (.cells #[.slice A12 M0.mem.length d12, .slice B12 M0.ths.length e12] 41)
  clear k1''''''
  have ho6'''' := ho6'''.below ((Below.refl _ _).alloc (Nat.le_refl _) (.cells #[.slice A12 M0.mem.length d12, .slice B12 M0.ths.length e12] 41))
  clear ho6'''
  have ho8''' := ho8''.below ((Below.refl _ _).alloc (Nat.le_refl _) (.cells #[.slice A12 M0.mem.length d12, .slice B12 M0.ths.length e12] 41))
  clear ho8''
  have ho12' := ho12.below ((Below.refl _ _).alloc (Nat.le_refl _) (.cells #[.slice A12 M0.mem.length d12, .slice B12 M0.ths.length e12] 41))
  clear ho12
  have hB'''''''' := hB'''''''.alloc hB'''''''.size (.cells #[.slice A12 M0.mem.length d12, .slice B12 M0.ths.length e12] 41)
  clear hB'''''''
  have k14 := Bk.new w12 #[.slice A12 M0.mem.length d12, .slice B12 M0.ths.length e12] 41
  refine (toAtomS _ xs1 _ (HAaAsk.out.below hB'''''''') (by omega)).mono ?_
  rintro e w15 ⟨v15x0, bs15, rfl, ho15, lo15, hb15⟩
  have sz16 := hb15.size
  try simp only [World.size_alloc] at sz16
  have hB''''''''' := hB''''''''.trans (hb15.mono hB''''''''.size)
  clear hB''''''''
  have k1'''''''' := k1'''''''.below hb15 k1'''''''.lt
  clear k1'''''''
  have k14' := k14.below hb15 k14.lt
  clear k14
  have ho6''''' := ho6''''.below hb15
  clear ho6''''
  have ho8'''' := ho8'''.below hb15
  clear ho8'''
  have ho12'' := ho12'.below hb15
  clear ho12'
  have hi15 := ho15.lt
  try simp only [World.size_alloc] at lo15
  obtain ⟨A15, d15, rfl, -, -⟩ := ho15.slice
  obtain ⟨hc1x0, gc1x0⟩ := k1''''''''.at_ 0 (x := .slice Aa0 M0.mem.length da0) rfl
  obtain ⟨hc1x1, gc1x1⟩ := k1''''''''.at_ 1 (x := .slice Ba0 M0.ths.length ea0) rfl
  have l1 := k1''''''''.lt
  obtain ⟨hc14x0, gc14x0⟩ := k14'.at_ 0 (x := .slice A12 M0.mem.length d12) rfl
  obtain ⟨hc14x1, gc14x1⟩ := k14'.at_ 1 (x := .slice B12 M0.ths.length e12) rfl
  have l14 := k14'.lt
  go_wp2_with fail
  refine (impl_Holds _ _ _ M0 xs1 _ ho12''.rd ho15.rd).mono ?_
  rintro e w17 ⟨rfl, hb17⟩
  clear hc1x0 gc1x0 hc1x1 gc1x1 l1 hc14x0 gc14x0 hc14x1 gc14x1 l14
  have sz18 := hb17.size
  try simp only [World.size_alloc] at sz18
  have hB'''''''''' := hB'''''''''.trans (hb17.mono hB'''''''''.size)
  clear hB'''''''''
  have k1''''''''' := k1''''''''.below hb17 k1''''''''.lt
  clear k1''''''''
  have k14'' := k14'.below hb17 k14'.lt
  clear k14'
  have ho6'''''' := ho6'''''.below hb17
  clear ho6'''''
  have ho8''''' := ho8''''.below hb17
  clear ho8''''
  have ho12''' := ho12''.below hb17
  clear ho12''
  have ho15' := ho15.below hb17
  clear ho15
  obtain ⟨hc1x0, gc1x0⟩ := k1'''''''''.at_ 0 (x := .slice Aa0 M0.mem.length da0) rfl
  obtain ⟨hc1x1, gc1x1⟩ := k1'''''''''.at_ 1 (x := .slice Ba0 M0.ths.length ea0) rfl
  have l1 := k1'''''''''.lt
  obtain ⟨hc14x0, gc14x0⟩ := k14''.at_ 0 (x := .slice A12 M0.mem.length d12) rfl
  obtain ⟨hc14x1, gc14x1⟩ := k14''.at_ 1 (x := .slice B12 M0.ths.length e12) rfl
  have l14 := k14''.lt
  go_wp2_with fail
  clear hc1x0 gc1x0 hc1x1 gc1x1 l1 hc14x0 gc14x0 hc14x1 gc14x1 l14
  obtain ⟨hc1x0, gc1x0⟩ := k1'''''''''.at_ 0 (x := .slice Aa0 M0.mem.length da0) rfl
  obtain ⟨hc1x1, gc1x1⟩ := k1'''''''''.at_ 1 (x := .slice Ba0 M0.ths.length ea0) rfl
  have l1 := k1'''''''''.lt
  obtain ⟨hc14x0, gc14x0⟩ := k14''.at_ 0 (x := .slice A12 M0.mem.length d12) rfl
  obtain ⟨hc14x1, gc14x1⟩ := k14''.at_ 1 (x := .slice B12 M0.ths.length e12) rfl
  have l14 := k14''.lt
  have HS20 : Hid (∀ W : World, Below w17.heap.size w17 W → Below w17.heap.size w17 W ∧ W.cell? ⟨w12.heap.size, 0, none⟩ = some (.slice A12 M0.mem.length d12) ∧ W.cell? ⟨w12.heap.size, 1, none⟩ = some (.slice B12 M0.ths.length e12) ∧ W.cell? ⟨w.heap.size, 0, none⟩ = some (.slice Aa0 M0.mem.length da0) ∧ W.cell? ⟨w.heap.size, 1, none⟩ = some (.slice Ba0 M0.ths.length ea0)) := Lib.hid fun W hW => ⟨hW, (hW.cell (p := ⟨w12.heap.size, 0, none⟩) k14''.lt).trans hc14x0, (hW.cell (p := ⟨w12.heap.size, 1, none⟩) k14''.lt).trans hc14x1, (hW.cell (p := ⟨w.heap.size, 0, none⟩) k1'''''''''.lt).trans hc1x0, (hW.cell (p := ⟨w.heap.size, 1, none⟩) k1'''''''''.lt).trans hc1x1⟩
  have HhB__________ := Lib.hid hB''''''''''
  have Hho6______ := Lib.hid ho6''''''
  have Hho8_____ := Lib.hid ho8'''''
  have Hho12___ := Lib.hid ho12'''
  have Hho15_ := Lib.hid ho15'
  go_region_held3 (fun W => Below w17.heap.size w17 W ∧ W.cell? ⟨w12.heap.size, 0, none⟩ = some (.slice A12 M0.mem.length d12) ∧ W.cell? ⟨w12.heap.size, 1, none⟩ = some (.slice B12 M0.ths.length e12) ∧ W.cell? ⟨w.heap.size, 0, none⟩ = some (.slice Aa0 M0.mem.length da0) ∧ W.cell? ⟨w.heap.size, 1, none⟩ = some (.slice Ba0 M0.ths.length ea0)) (first | (exact HS20.out _ (Below.refl _ _).drew) | (exact HS20.out _ (by assumption)))
    (first
      | (go_at_call 15; have hS := ‹Below w17.heap.size w17 _ ∧ _›.1; refine (toMachine _ _ M0 _ (HAaM.out.below (HhB__________.out.trans (hS.mono HhB__________.out.size))) (by omega)).mono ?_; rintro e wa19 ⟨vv0, vv1, bsw, rfl, how, low, hbw19⟩; have HO19 := Lib.hid how; clear how low; have hS20x0 := hS.trans (hbw19.mono hS.size); clear hS)
      | (go_at_call 18; have hS := ‹Below w17.heap.size w17 _ ∧ _›.1; refine (eqMachine _ _ _ _ (M0) (M0) _ (Hho12___.out.below hS).rd HO19.out.rd).mono ?_; rintro e w19 ⟨rfl, hbe19⟩; have hS20x1 := hS.trans (hbe19.mono hS.size); clear hS))
  have hS20 := ‹Below w17.heap.size w17 _ ∧ _›.1
  clear HS20 HhB__________ Hho6______ Hho8_____ Hho12___ Hho15_
  clear hc1x0 gc1x0 hc1x1 gc1x1 l1 hc14x0 gc14x0 hc14x1 gc14x1 l14
  have sz21 := hS20.size
  try simp only [World.size_alloc] at sz21
  have hB''''''''''' := hB''''''''''.trans (hS20.mono hB''''''''''.size)
  clear hB''''''''''
  have k1'''''''''' := k1'''''''''.below hS20 k1'''''''''.lt
  clear k1'''''''''
  have k14''' := k14''.below hS20 k14''.lt
  clear k14''
  have ho6''''''' := ho6''''''.below hS20
  clear ho6''''''
  have ho8'''''' := ho8'''''.below hS20
  clear ho8'''''
  have ho12'''' := ho12'''.below hS20
  clear ho12'''
  have ho15'' := ho15'.below hS20
  clear ho15'
  clear hS20
  clear HO19
  obtain ⟨hc1x0, gc1x0⟩ := k1''''''''''.at_ 0 (x := .slice Aa0 M0.mem.length da0) rfl
  obtain ⟨hc1x1, gc1x1⟩ := k1''''''''''.at_ 1 (x := .slice Ba0 M0.ths.length ea0) rfl
  have l1 := k1''''''''''.lt
  obtain ⟨hc14x0, gc14x0⟩ := k14'''.at_ 0 (x := .slice A12 M0.mem.length d12) rfl
  obtain ⟨hc14x1, gc14x1⟩ := k14'''.at_ 1 (x := .slice B12 M0.ths.length e12) rfl
  have l14 := k14'''.lt
  go_wp2_with fail
  refine (toAtomS _ xs1 _ (HAaAsk.out.below hB''''''''''') (by omega)).mono ?_
  rintro e w22 ⟨v22x0, bs22, rfl, ho22, lo22, hb22⟩
  clear hc1x0 gc1x0 hc1x1 gc1x1 l1 hc14x0 gc14x0 hc14x1 gc14x1 l14
  have sz23 := hb22.size
  try simp only [World.size_alloc] at sz23
  have hB'''''''''''' := hB'''''''''''.trans (hb22.mono hB'''''''''''.size)
  clear hB'''''''''''
  have k1''''''''''' := k1''''''''''.below hb22 k1''''''''''.lt
  clear k1''''''''''
  have k14'''' := k14'''.below hb22 k14'''.lt
  clear k14'''
  have ho6'''''''' := ho6'''''''.below hb22
  clear ho6'''''''
  have ho8''''''' := ho8''''''.below hb22
  clear ho8''''''
  have ho12''''' := ho12''''.below hb22
  clear ho12''''
  have ho15''' := ho15''.below hb22
  clear ho15''
  have hi22 := ho22.lt
  try simp only [World.size_alloc] at lo22
  obtain ⟨A22, d22, rfl, -, -⟩ := ho22.slice
  obtain ⟨hc1x0, gc1x0⟩ := k1'''''''''''.at_ 0 (x := .slice Aa0 M0.mem.length da0) rfl
  obtain ⟨hc1x1, gc1x1⟩ := k1'''''''''''.at_ 1 (x := .slice Ba0 M0.ths.length ea0) rfl
  have l1 := k1'''''''''''.lt
  obtain ⟨hc14x0, gc14x0⟩ := k14''''.at_ 0 (x := .slice A12 M0.mem.length d12) rfl
  obtain ⟨hc14x1, gc14x1⟩ := k14''''.at_ 1 (x := .slice B12 M0.ths.length e12) rfl
  have l14 := k14''''.lt
  go_wp2_with fail
  refine (eqAtomS _ _ (xs1) (xs1) _ ho15'''.rd ho22.rd).mono ?_
  rintro e w24 ⟨rfl, hb24⟩
  rw [decide_eq_true rfl]
  clear hc1x0 gc1x0 hc1x1 gc1x1 l1 hc14x0 gc14x0 hc14x1 gc14x1 l14
  have sz25 := hb24.size
  try simp only [World.size_alloc] at sz25
  have hB''''''''''''' := hB''''''''''''.trans (hb24.mono hB''''''''''''.size)
  clear hB''''''''''''
  have k1'''''''''''' := k1'''''''''''.below hb24 k1'''''''''''.lt
  clear k1'''''''''''
  have k14''''' := k14''''.below hb24 k14''''.lt
  clear k14''''
  have ho6''''''''' := ho6''''''''.below hb24
  clear ho6''''''''
  have ho8'''''''' := ho8'''''''.below hb24
  clear ho8'''''''
  have ho12'''''' := ho12'''''.below hb24
  clear ho12'''''
  have ho15'''' := ho15'''.below hb24
  clear ho15'''
  have ho22' := ho22.below hb24
  clear ho22
  obtain ⟨hc1x0, gc1x0⟩ := k1''''''''''''.at_ 0 (x := .slice Aa0 M0.mem.length da0) rfl
  obtain ⟨hc1x1, gc1x1⟩ := k1''''''''''''.at_ 1 (x := .slice Ba0 M0.ths.length ea0) rfl
  have l1 := k1''''''''''''.lt
  obtain ⟨hc14x0, gc14x0⟩ := k14'''''.at_ 0 (x := .slice A12 M0.mem.length d12) rfl
  obtain ⟨hc14x1, gc14x1⟩ := k14'''''.at_ 1 (x := .slice B12 M0.ths.length e12) rfl
  have l14 := k14'''''.lt
  go_wp2_with fail
  go_ret
  exact ⟨rfl, hB'''''''''''''⟩
set_option maxRecDepth 100000 in
theorem lift_Holds (os : Os) (started : os.Started) (H : Type) (enc : TypeId × Value → H) :
    ReturnsInHanded {} Try.checked os 10 .any (Rows.fnExactHoldsSpec.pre6 enc Try.prog Try.f10 Rows.fnExactHoldsRow.domain false) (Rows.fnExactHoldsSpec.post enc Try.prog Try.f10 false true false false) := by
  refine returnsInHanded_of_change (C := Try.checked) (by kernel_rfl) started (by kernel_rfl) Try.func10
    (ChangeSpec.witness6 (enc := enc) (C := Try.checked) false ⟨#[], #[.agg #[.slice none 0 0, .slice none 0 0], .slice none 0 0], []⟩ 8 (by kernel_rfl) (by kernel_rfl) (by kernel_rfl) (by kernel_rfl)) ?_
  intro W base args ds gs before hval0 hW hcnd _
  have hval : ∀ (j : Nat) t v, Try.f10.params[j]? = some t → args[j]? = some v → Value.okWide Try.prog W .any base t v := hval0
  have hW' := hW
  obtain ⟨p, q, hA0, hV, rfl, hfz, hnd⟩ := hW
  have hA : DataW.TrodAll enc Try.prog W 0 (fun _ => true) true Try.f10.params.toList args.toList ds p := hA0
  rw [Try.params10] at hA hval
  obtain ⟨v0, vs0, d0, ds0, p0, q0, hargs, rfl, rfl, h0, r0⟩ := trodAll_cons hA
  obtain ⟨v1, vs1, d1, ds1, p1, q1, rfl, rfl, rfl, h1, r1⟩ := trodAll_cons r0
  obtain ⟨rfl, rfl, rfl⟩ := trodAll_nil r1
  obtain rfl : args = #[v0, v1] := by cases args; simp_all
  obtain ⟨rfl, rfl⟩ := trodVars_none hV
  obtain ⟨c0, u0, M0, rfl, hR0, hI0⟩ := read_machine Try.underlying30 (by kernel_rfl) ⟨rfl, rfl⟩ (by decide +kernel) Try.underlying27 rfl (by kernel_rfl) Try.underlying25 Try.underlying3 (by kernel_rfl) Try.underlying28 thTypeL (hval 0 _ v0 rfl rfl) h0
  obtain ⟨c1, l1, e1, rfl⟩ := okWide_slice Try.underlying79 (hval 1 _ v1 rfl rfl)
  obtain ⟨fuel1, hf1⟩ := h1
  obtain ⟨xs1, hR1⟩ := read_code Try.underlying79 Try.underlying74 (by kernel_rfl) ⟨rfl, rfl, rfl, rfl⟩ (by decide +kernel) ⟨Try.underlying3, Try.underlying3, Try.underlying3, Try.underlying3⟩ (by simpa [Value.cells] using hf1)
  refine (walk_Holds _ _ M0 _ xs1 W hR0 hR1).mono fun e W' ⟨he, hb⟩ => ?_
  subst he
  exact ⟨_, rfl, post_law (by kernel_rfl) rfl rfl (by kernel_rfl) Try.underlying4 (of_decide_eq_true (by kernel_rfl)) hW' hb⟩
theorem FnExactHolds_holds : Rows.FnExactHoldsSaid :=
  OpenClaim.holds_of_wide 10 Try.f10 rfl rfl rfl rfl rfl rfl rfl ⟨rfl, rfl, rfl, rfl, rfl⟩ rfl rfl rfl rfl rfl (by kernel_rfl) Try.func10 (by kernel_rfl)
    (of_decide_eq_true (by kernel_rfl)) (by unfold Func.isWrapper; first | (rw [if_pos (by decide +kernel)]; kernel_rfl) | (rw [if_neg (by decide +kernel)]; exact ⟨rfl, rfl⟩))
    (fun os started H enc _ => lift_Holds os started H enc)
#print axioms FnExactHolds_holds
end Go.Proofs.Ytiflooopfpcelaa
