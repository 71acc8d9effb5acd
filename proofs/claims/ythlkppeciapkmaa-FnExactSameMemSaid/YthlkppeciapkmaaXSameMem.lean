/- FnExactSameMem answers true at every input: SameMem answers as its model does, leaves its arguments alone and owns its answer. Conditions: none. -/
import Derived.Test.YthlkppeciapkmaaLaw
import Derived.Test.YthlkppeciapkmaaI3
import Derived.Deep.RegionHeld3
namespace Go.Proofs.Ythlkppeciapkmaa
open Go.ChangeShapes Go.WideShapes Go.ChangeAt Go.RowKit
set_option linter.unusedVariables false
set_option maxHeartbeats 4000000 in
theorem walk_SameMem (v0 : Value) (xs0 : List Int) (v1 : Value) (xs1 : List Int) (w : World) (hA0 : RdA w v0 1 xs0.length (ints xs0)) (hA1 : RdA w v1 1 xs1.length (ints xs1)) :
    Calls Try.prog 8 #[.agg #[v0], .agg #[v1]] w fun e w' => e = .returned (.bool true) ∧ Below w.heap.size w w' := by
  obtain ⟨A00, d00, rfl, -, -, -, -⟩ := id hA0
  have HAaA := Lib.hid hA0
  clear hA0
  obtain ⟨A10, d10, rfl, -, -, -, -⟩ := id hA1
  have HAaB := Lib.hid hA1
  clear hA1
  have hB := Below.refl w.heap.size w
  go_enter Try.func8, Try.ntmps8
  go_wp2_with fail
  have hB' := hB.alloc hB.size (.cells #[.slice A00 xs0.length d00] 34)
  clear hB
  have k1 := Bk.new w #[.slice A00 xs0.length d00] 34
  have k1' := k1.alloc (.cells #[.slice A10 xs1.length d10] 34)
  clear k1
  have hB'' := hB'.alloc hB'.size (.cells #[.slice A10 xs1.length d10] 34)
  clear hB'
  have k2 := Bk.new (w.alloc (.cells #[.slice A00 xs0.length d00] 34)) #[.slice A10 xs1.length d10] 34
  simp only [World.size_alloc] at k2
  refine (szMem _ _ _ (1048576) _ (HAaA.out.below hB'') (by omega) (by omega)).mono ?_
  rintro e w3 ⟨rfl, hb3⟩
  have sz4 := hb3.size
  try simp only [World.size_alloc] at sz4
  have hB''' := hB''.trans (hb3.mono hB''.size)
  clear hB''
  have k1'' := k1'.below hb3 k1'.lt
  clear k1'
  have k2' := k2.below hb3 k2.lt
  clear k2
  by_cases hn3 : (1048576 : Int) - xs0.length < 0
  · rw [show szF xs0.length (1048576) = -1 by unfold szF; rw [if_pos hn3]]
    go_wp2_with fail
    go_ret
    exact ⟨rfl, hB'''⟩
  rw [show szF xs0.length (1048576) = 1048576 - xs0.length by unfold szF; rw [if_neg hn3]]
  obtain ⟨hc1x0, gc1x0⟩ := k1''.at_ 0 (x := .slice A00 xs0.length d00) rfl
  have l1 := k1''.lt
  obtain ⟨hc2x0, gc2x0⟩ := k2'.at_ 0 (x := .slice A10 xs1.length d10) rfl
  have l2 := k2'.lt
  go_wp2_with fail
  refine (szMem _ _ _ (1048576 - xs0.length) _ (HAaB.out.below hB''') (by omega) (by omega)).mono ?_
  rintro e w5 ⟨rfl, hb5⟩
  clear hc1x0 gc1x0 l1 hc2x0 gc2x0 l2
  have sz6 := hb5.size
  try simp only [World.size_alloc] at sz6
  have hB'''' := hB'''.trans (hb5.mono hB'''.size)
  clear hB'''
  have k1''' := k1''.below hb5 k1''.lt
  clear k1''
  have k2'' := k2'.below hb5 k2'.lt
  clear k2'
  by_cases hn5 : (1048576 - xs0.length : Int) - xs1.length < 0
  · rw [show szF xs1.length (1048576 - xs0.length) = -1 by unfold szF; rw [if_pos hn5]]
    go_wp2_with fail
    go_ret
    exact ⟨rfl, hB''''⟩
  rw [show szF xs1.length (1048576 - xs0.length) = 1048576 - xs0.length - xs1.length by unfold szF; rw [if_neg hn5]]
  obtain ⟨hc1x0, gc1x0⟩ := k1'''.at_ 0 (x := .slice A00 xs0.length d00) rfl
  have l1 := k1'''.lt
  obtain ⟨hc2x0, gc2x0⟩ := k2''.at_ 0 (x := .slice A10 xs1.length d10) rfl
  have l2 := k2''.lt
  go_wp2_with fail
  clear hc1x0 gc1x0 l1 hc2x0 gc2x0 l2
  obtain ⟨hc1x0, gc1x0⟩ := k1'''.at_ 0 (x := .slice A00 xs0.length d00) rfl
  have l1 := k1'''.lt
  obtain ⟨hc2x0, gc2x0⟩ := k2''.at_ 0 (x := .slice A10 xs1.length d10) rfl
  have l2 := k2''.lt
  have HS10 : Hid (∀ W : World, Below w5.heap.size w5 W → Below w5.heap.size w5 W ∧ W.cell? ⟨w.heap.size, 0, none⟩ = some (.slice A00 xs0.length d00) ∧ W.cell? ⟨w.heap.size + 1, 0, none⟩ = some (.slice A10 xs1.length d10)) := Lib.hid fun W hW => ⟨hW, (hW.cell (p := ⟨w.heap.size, 0, none⟩) k1'''.lt).trans hc1x0, (hW.cell (p := ⟨w.heap.size + 1, 0, none⟩) k2''.lt).trans hc2x0⟩
  have HhB____ := Lib.hid hB''''
  go_region_held3 (fun W => Below w5.heap.size w5 W ∧ W.cell? ⟨w.heap.size, 0, none⟩ = some (.slice A00 xs0.length d00) ∧ W.cell? ⟨w.heap.size + 1, 0, none⟩ = some (.slice A10 xs1.length d10)) (first | (exact HS10.out _ (Below.refl _ _).drew) | (exact HS10.out _ (by assumption)))
    (first
      | (go_at_call_of 20 (Value.agg #[Value.slice A00 xs0.length d00] : Value); have hS := ‹Below w5.heap.size w5 _ ∧ _›.1; refine (toMem _ xs0 _ (HAaA.out.below (HhB____.out.trans (hS.mono HhB____.out.size))) (by omega)).mono ?_; rintro e w7 ⟨v7x0, bs7, rfl, ho7, lo7, hb7⟩; have hS10x0 := hS.trans (hb7.mono hS.size); clear hS)
      | (go_at_call_of 20 (Value.agg #[Value.slice A10 xs1.length d10] : Value); have hS := ‹Below w5.heap.size w5 _ ∧ _›.1; refine (toMem _ xs1 _ (HAaB.out.below (HhB____.out.trans (hS.mono HhB____.out.size))) (by omega)).mono ?_; rintro e w8 ⟨v8x0, bs8, rfl, ho8, lo8, hb8⟩; have ho7 := ho7.below hb8; have hS10x1 := hS.trans (hb8.mono hS.size); clear hS)
      | (go_at_call 28; have hS := ‹Below w5.heap.size w5 _ ∧ _›.1; refine (spec_SameMem _ _ xs0 xs1 _ ho7.rd ho8.rd).mono ?_; rintro e w9 ⟨rfl, hb9⟩; have ho7 := ho7.below hb9; have ho8 := ho8.below hb9; have hS10x2 := hS.trans (hb9.mono hS.size); clear hS))
  have hS10 := ‹Below w5.heap.size w5 _ ∧ _›.1
  clear HS10 HhB____
  clear hc1x0 gc1x0 l1 hc2x0 gc2x0 l2
  have sz11 := hS10.size
  try simp only [World.size_alloc] at sz11
  have hB''''' := hB''''.trans (hS10.mono hB''''.size)
  clear hB''''
  have k1'''' := k1'''.below hS10 k1'''.lt
  clear k1'''
  have k2''' := k2''.below hS10 k2''.lt
  clear k2''
  clear hS10
  clear ho7
  clear ho8
  obtain ⟨hc1x0, gc1x0⟩ := k1''''.at_ 0 (x := .slice A00 xs0.length d00) rfl
  have l1 := k1''''.lt
  obtain ⟨hc2x0, gc2x0⟩ := k2'''.at_ 0 (x := .slice A10 xs1.length d10) rfl
  have l2 := k2'''.lt
  go_wp2_with fail
  refine (toMem _ xs0 _ (HAaA.out.below hB''''') (by omega)).mono ?_
  rintro e w12 ⟨v12x0, bs12, rfl, ho12, lo12, hb12⟩
  clear hc1x0 gc1x0 l1 hc2x0 gc2x0 l2
  have sz13 := hb12.size
  try simp only [World.size_alloc] at sz13
  have hB'''''' := hB'''''.trans (hb12.mono hB'''''.size)
  clear hB'''''
  have k1''''' := k1''''.below hb12 k1''''.lt
  clear k1''''
  have k2'''' := k2'''.below hb12 k2'''.lt
  clear k2'''
  have hi12 := ho12.lt
  try simp only [World.size_alloc] at lo12
  obtain ⟨A12, d12, rfl, -, -⟩ := ho12.slice
  obtain ⟨hc1x0, gc1x0⟩ := k1'''''.at_ 0 (x := .slice A00 xs0.length d00) rfl
  have l1 := k1'''''.lt
  obtain ⟨hc2x0, gc2x0⟩ := k2''''.at_ 0 (x := .slice A10 xs1.length d10) rfl
  have l2 := k2''''.lt
  go_wp2_with fail
  clear hc1x0 gc1x0 l1 hc2x0 gc2x0 l2
  have k1'''''' := k1'''''.alloc (.cells #[.slice A12 xs0.length d12] 26)
  clear k1'''''
  have k2''''' := k2''''.alloc (.cells #[.slice A12 xs0.length d12] 26)
  clear k2''''
  have ho12' := ho12.below ((Below.refl _ _).alloc (Nat.le_refl _) (.cells #[.slice A12 xs0.length d12] 26))
  clear ho12
  have hB''''''' := hB''''''.alloc hB''''''.size (.cells #[.slice A12 xs0.length d12] 26)
  clear hB''''''
  have k14 := Bk.new w12 #[.slice A12 xs0.length d12] 26
  refine (toMem _ xs1 _ (HAaB.out.below hB''''''') (by omega)).mono ?_
  rintro e w15 ⟨v15x0, bs15, rfl, ho15, lo15, hb15⟩
  have sz16 := hb15.size
  try simp only [World.size_alloc] at sz16
  have hB'''''''' := hB'''''''.trans (hb15.mono hB'''''''.size)
  clear hB'''''''
  have k1''''''' := k1''''''.below hb15 k1''''''.lt
  clear k1''''''
  have k2'''''' := k2'''''.below hb15 k2'''''.lt
  clear k2'''''
  have k14' := k14.below hb15 k14.lt
  clear k14
  have ho12'' := ho12'.below hb15
  clear ho12'
  have hi15 := ho15.lt
  try simp only [World.size_alloc] at lo15
  obtain ⟨A15, d15, rfl, -, -⟩ := ho15.slice
  obtain ⟨hc1x0, gc1x0⟩ := k1'''''''.at_ 0 (x := .slice A00 xs0.length d00) rfl
  have l1 := k1'''''''.lt
  obtain ⟨hc2x0, gc2x0⟩ := k2''''''.at_ 0 (x := .slice A10 xs1.length d10) rfl
  have l2 := k2''''''.lt
  obtain ⟨hc14x0, gc14x0⟩ := k14'.at_ 0 (x := .slice A12 xs0.length d12) rfl
  have l14 := k14'.lt
  go_wp2_with fail
  clear hc1x0 gc1x0 l1 hc2x0 gc2x0 l2 hc14x0 gc14x0 l14
  have k1'''''''' := k1'''''''.alloc (.cells #[.slice A15 xs1.length d15] 26)
  clear k1'''''''
  have k2''''''' := k2''''''.alloc (.cells #[.slice A15 xs1.length d15] 26)
  clear k2''''''
  have k14'' := k14'.alloc (.cells #[.slice A15 xs1.length d15] 26)
  clear k14'
  have ho12''' := ho12''.below ((Below.refl _ _).alloc (Nat.le_refl _) (.cells #[.slice A15 xs1.length d15] 26))
  clear ho12''
  have ho15' := ho15.below ((Below.refl _ _).alloc (Nat.le_refl _) (.cells #[.slice A15 xs1.length d15] 26))
  clear ho15
  have hB''''''''' := hB''''''''.alloc hB''''''''.size (.cells #[.slice A15 xs1.length d15] 26)
  clear hB''''''''
  have k17 := Bk.new w15 #[.slice A15 xs1.length d15] 26
  refine (impl_SameMem _ _ xs0 xs1 _ ho12'''.rd ho15'.rd).mono ?_
  rintro e w18 ⟨rfl, hb18⟩
  have sz19 := hb18.size
  try simp only [World.size_alloc] at sz19
  have hB'''''''''' := hB'''''''''.trans (hb18.mono hB'''''''''.size)
  clear hB'''''''''
  have k1''''''''' := k1''''''''.below hb18 k1''''''''.lt
  clear k1''''''''
  have k2'''''''' := k2'''''''.below hb18 k2'''''''.lt
  clear k2'''''''
  have k14''' := k14''.below hb18 k14''.lt
  clear k14''
  have k17' := k17.below hb18 k17.lt
  clear k17
  have ho12'''' := ho12'''.below hb18
  clear ho12'''
  have ho15'' := ho15'.below hb18
  clear ho15'
  obtain ⟨hc1x0, gc1x0⟩ := k1'''''''''.at_ 0 (x := .slice A00 xs0.length d00) rfl
  have l1 := k1'''''''''.lt
  obtain ⟨hc2x0, gc2x0⟩ := k2''''''''.at_ 0 (x := .slice A10 xs1.length d10) rfl
  have l2 := k2''''''''.lt
  obtain ⟨hc14x0, gc14x0⟩ := k14'''.at_ 0 (x := .slice A12 xs0.length d12) rfl
  have l14 := k14'''.lt
  obtain ⟨hc17x0, gc17x0⟩ := k17'.at_ 0 (x := .slice A15 xs1.length d15) rfl
  have l17 := k17'.lt
  go_wp2_with fail
  clear hc1x0 gc1x0 l1 hc2x0 gc2x0 l2 hc14x0 gc14x0 l14 hc17x0 gc17x0 l17
  obtain ⟨hc1x0, gc1x0⟩ := k1'''''''''.at_ 0 (x := .slice A00 xs0.length d00) rfl
  have l1 := k1'''''''''.lt
  obtain ⟨hc2x0, gc2x0⟩ := k2''''''''.at_ 0 (x := .slice A10 xs1.length d10) rfl
  have l2 := k2''''''''.lt
  obtain ⟨hc14x0, gc14x0⟩ := k14'''.at_ 0 (x := .slice A12 xs0.length d12) rfl
  have l14 := k14'''.lt
  obtain ⟨hc17x0, gc17x0⟩ := k17'.at_ 0 (x := .slice A15 xs1.length d15) rfl
  have l17 := k17'.lt
  have HS21 : Hid (∀ W : World, Below w18.heap.size w18 W → Below w18.heap.size w18 W ∧ W.cell? ⟨w12.heap.size, 0, none⟩ = some (.slice A12 xs0.length d12) ∧ W.cell? ⟨w.heap.size, 0, none⟩ = some (.slice A00 xs0.length d00)) := Lib.hid fun W hW => ⟨hW, (hW.cell (p := ⟨w12.heap.size, 0, none⟩) k14'''.lt).trans hc14x0, (hW.cell (p := ⟨w.heap.size, 0, none⟩) k1'''''''''.lt).trans hc1x0⟩
  have HhB__________ := Lib.hid hB''''''''''
  have Hho12____ := Lib.hid ho12''''
  have Hho15__ := Lib.hid ho15''
  go_region_held3 (fun W => Below w18.heap.size w18 W ∧ W.cell? ⟨w12.heap.size, 0, none⟩ = some (.slice A12 xs0.length d12) ∧ W.cell? ⟨w.heap.size, 0, none⟩ = some (.slice A00 xs0.length d00)) (first | (exact HS21.out _ (Below.refl _ _).drew) | (exact HS21.out _ (by assumption)))
    (first
      | (go_at_call 20; have hS := ‹Below w18.heap.size w18 _ ∧ _›.1; refine (toMem _ xs0 _ (HAaA.out.below (HhB__________.out.trans (hS.mono HhB__________.out.size))) (by omega)).mono ?_; rintro e wa20 ⟨vv0, bsw, rfl, how, low, hbw20⟩; have HO20 := Lib.hid how; clear how low; have hS21x0 := hS.trans (hbw20.mono hS.size); clear hS)
      | (go_at_call 22; have hS := ‹Below w18.heap.size w18 _ ∧ _›.1; refine (eqMemB _ _ (xs0) (xs0) _ (Hho12____.out.below hS).rd HO20.out.rd).mono ?_; rintro e w20 ⟨rfl, hbe20⟩; have hS21x1 := hS.trans (hbe20.mono hS.size); clear hS))
  have hS21 := ‹Below w18.heap.size w18 _ ∧ _›.1
  clear HS21 HhB__________ Hho12____ Hho15__
  clear hc1x0 gc1x0 l1 hc2x0 gc2x0 l2 hc14x0 gc14x0 l14 hc17x0 gc17x0 l17
  have sz22 := hS21.size
  try simp only [World.size_alloc] at sz22
  have hB''''''''''' := hB''''''''''.trans (hS21.mono hB''''''''''.size)
  clear hB''''''''''
  have k1'''''''''' := k1'''''''''.below hS21 k1'''''''''.lt
  clear k1'''''''''
  have k2''''''''' := k2''''''''.below hS21 k2''''''''.lt
  clear k2''''''''
  have k14'''' := k14'''.below hS21 k14'''.lt
  clear k14'''
  have k17'' := k17'.below hS21 k17'.lt
  clear k17'
  have ho12''''' := ho12''''.below hS21
  clear ho12''''
  have ho15''' := ho15''.below hS21
  clear ho15''
  clear hS21
  clear HO20
  obtain ⟨hc1x0, gc1x0⟩ := k1''''''''''.at_ 0 (x := .slice A00 xs0.length d00) rfl
  have l1 := k1''''''''''.lt
  obtain ⟨hc2x0, gc2x0⟩ := k2'''''''''.at_ 0 (x := .slice A10 xs1.length d10) rfl
  have l2 := k2'''''''''.lt
  obtain ⟨hc14x0, gc14x0⟩ := k14''''.at_ 0 (x := .slice A12 xs0.length d12) rfl
  have l14 := k14''''.lt
  obtain ⟨hc17x0, gc17x0⟩ := k17''.at_ 0 (x := .slice A15 xs1.length d15) rfl
  have l17 := k17''.lt
  go_wp2_with fail
  clear hc1x0 gc1x0 l1 hc2x0 gc2x0 l2 hc14x0 gc14x0 l14 hc17x0 gc17x0 l17
  obtain ⟨hc1x0, gc1x0⟩ := k1''''''''''.at_ 0 (x := .slice A00 xs0.length d00) rfl
  have l1 := k1''''''''''.lt
  obtain ⟨hc2x0, gc2x0⟩ := k2'''''''''.at_ 0 (x := .slice A10 xs1.length d10) rfl
  have l2 := k2'''''''''.lt
  obtain ⟨hc14x0, gc14x0⟩ := k14''''.at_ 0 (x := .slice A12 xs0.length d12) rfl
  have l14 := k14''''.lt
  obtain ⟨hc17x0, gc17x0⟩ := k17''.at_ 0 (x := .slice A15 xs1.length d15) rfl
  have l17 := k17''.lt
  have HS24 : Hid (∀ W : World, Below w20.heap.size w20 W → Below w20.heap.size w20 W ∧ W.cell? ⟨w15.heap.size, 0, none⟩ = some (.slice A15 xs1.length d15) ∧ W.cell? ⟨w.heap.size + 1, 0, none⟩ = some (.slice A10 xs1.length d10)) := Lib.hid fun W hW => ⟨hW, (hW.cell (p := ⟨w15.heap.size, 0, none⟩) k17''.lt).trans hc17x0, (hW.cell (p := ⟨w.heap.size + 1, 0, none⟩) k2'''''''''.lt).trans hc2x0⟩
  have HhB___________ := Lib.hid hB'''''''''''
  have Hho12_____ := Lib.hid ho12'''''
  have Hho15___ := Lib.hid ho15'''
  go_region_held3 (fun W => Below w20.heap.size w20 W ∧ W.cell? ⟨w15.heap.size, 0, none⟩ = some (.slice A15 xs1.length d15) ∧ W.cell? ⟨w.heap.size + 1, 0, none⟩ = some (.slice A10 xs1.length d10)) (first | (exact HS24.out _ (Below.refl _ _).drew) | (exact HS24.out _ (by assumption)))
    (first
      | (go_at_call 20; have hS := ‹Below w20.heap.size w20 _ ∧ _›.1; refine (toMem _ xs1 _ (HAaB.out.below (HhB___________.out.trans (hS.mono HhB___________.out.size))) (by omega)).mono ?_; rintro e wa23 ⟨vv0, bsw, rfl, how, low, hbw23⟩; have HO23 := Lib.hid how; clear how low; have hS24x0 := hS.trans (hbw23.mono hS.size); clear hS)
      | (go_at_call 22; have hS := ‹Below w20.heap.size w20 _ ∧ _›.1; refine (eqMemB _ _ (xs1) (xs1) _ (Hho15___.out.below hS).rd HO23.out.rd).mono ?_; rintro e w23 ⟨rfl, hbe23⟩; have hS24x1 := hS.trans (hbe23.mono hS.size); clear hS))
  have hS24 := ‹Below w20.heap.size w20 _ ∧ _›.1
  clear HS24 HhB___________ Hho12_____ Hho15___
  clear hc1x0 gc1x0 l1 hc2x0 gc2x0 l2 hc14x0 gc14x0 l14 hc17x0 gc17x0 l17
  have sz25 := hS24.size
  try simp only [World.size_alloc] at sz25
  have hB'''''''''''' := hB'''''''''''.trans (hS24.mono hB'''''''''''.size)
  clear hB'''''''''''
  have k1''''''''''' := k1''''''''''.below hS24 k1''''''''''.lt
  clear k1''''''''''
  have k2'''''''''' := k2'''''''''.below hS24 k2'''''''''.lt
  clear k2'''''''''
  have k14''''' := k14''''.below hS24 k14''''.lt
  clear k14''''
  have k17''' := k17''.below hS24 k17''.lt
  clear k17''
  have ho12'''''' := ho12'''''.below hS24
  clear ho12'''''
  have ho15'''' := ho15'''.below hS24
  clear ho15'''
  clear hS24
  clear HO23
  obtain ⟨hc1x0, gc1x0⟩ := k1'''''''''''.at_ 0 (x := .slice A00 xs0.length d00) rfl
  have l1 := k1'''''''''''.lt
  obtain ⟨hc2x0, gc2x0⟩ := k2''''''''''.at_ 0 (x := .slice A10 xs1.length d10) rfl
  have l2 := k2''''''''''.lt
  obtain ⟨hc14x0, gc14x0⟩ := k14'''''.at_ 0 (x := .slice A12 xs0.length d12) rfl
  have l14 := k14'''''.lt
  obtain ⟨hc17x0, gc17x0⟩ := k17'''.at_ 0 (x := .slice A15 xs1.length d15) rfl
  have l17 := k17'''.lt
  go_wp2_with fail
  go_ret
  exact ⟨rfl, hB''''''''''''⟩
set_option maxRecDepth 100000 in
theorem lift_SameMem (os : Os) (started : os.Started) (H : Type) (enc : TypeId × Value → H) :
    ReturnsInHanded {} Try.checked os 8 .any (Rows.fnExactSameMemSpec.pre6 enc Try.prog Try.f8 Rows.fnExactSameMemRow.domain false) (Rows.fnExactSameMemSpec.post enc Try.prog Try.f8 false true false false) := by
  refine returnsInHanded_of_change (C := Try.checked) (by kernel_rfl) started (by kernel_rfl) Try.func8
    (ChangeSpec.witness6 (enc := enc) (C := Try.checked) false ⟨#[], #[.agg #[.slice none 0 0], .agg #[.slice none 0 0]], []⟩ 8 (by kernel_rfl) (by kernel_rfl) (by kernel_rfl) (by kernel_rfl)) ?_
  intro W base args ds gs before hval0 hW hcnd _
  have hval : ∀ (j : Nat) t v, Try.f8.params[j]? = some t → args[j]? = some v → Value.okWide Try.prog W .any base t v := hval0
  have hW' := hW
  obtain ⟨p, q, hA0, hV, rfl, hfz, hnd⟩ := hW
  have hA : DataW.TrodAll enc Try.prog W 0 (fun _ => true) true Try.f8.params.toList args.toList ds p := hA0
  rw [Try.params8] at hA hval
  obtain ⟨v0, vs0, d0, ds0, p0, q0, hargs, rfl, rfl, h0, r0⟩ := trodAll_cons hA
  obtain ⟨v1, vs1, d1, ds1, p1, q1, rfl, rfl, rfl, h1, r1⟩ := trodAll_cons r0
  obtain ⟨rfl, rfl, rfl⟩ := trodAll_nil r1
  obtain rfl : args = #[v0, v1] := by cases args; simp_all
  obtain ⟨rfl, rfl⟩ := trodVars_none hV
  obtain ⟨c0, xs0, rfl, hR0, _⟩ := read_mem Try.underlying34 ⟨rfl, rfl⟩ (by kernel_rfl) (by kernel_rfl) Try.underlying24 Try.underlying3 (by kernel_rfl) (hval 0 _ v0 rfl rfl) h0
  obtain ⟨c1, xs1, rfl, hR1, _⟩ := read_mem Try.underlying34 ⟨rfl, rfl⟩ (by kernel_rfl) (by kernel_rfl) Try.underlying24 Try.underlying3 (by kernel_rfl) (hval 1 _ v1 rfl rfl) h1
  refine (walk_SameMem c0 xs0 c1 xs1 W hR0 hR1).mono fun e W' ⟨he, hb⟩ => ?_
  subst he
  exact ⟨_, rfl, post_law (by kernel_rfl) rfl rfl (by kernel_rfl) Try.underlying4 (of_decide_eq_true (by kernel_rfl)) hW' hb⟩
theorem FnExactSameMem_holds : Rows.FnExactSameMemSaid :=
  OpenClaim.holds_of_wide 8 Try.f8 rfl rfl rfl rfl rfl rfl rfl ⟨rfl, rfl, rfl, rfl, rfl⟩ rfl rfl rfl rfl rfl (by kernel_rfl) Try.func8 (by kernel_rfl)
    (of_decide_eq_true (by kernel_rfl)) (by unfold Func.isWrapper; first | (rw [if_pos (by decide +kernel)]; kernel_rfl) | (rw [if_neg (by decide +kernel)]; exact ⟨rfl, rfl⟩))
    (fun os started H enc _ => lift_SameMem os started H enc)
#print axioms FnExactSameMem_holds
end Go.Proofs.Ythlkppeciapkmaa
