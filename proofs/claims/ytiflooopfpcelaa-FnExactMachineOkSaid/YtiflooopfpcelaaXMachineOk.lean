/- FnExactMachineOk answers true at every input: MachineOk answers as its model does, leaves its arguments alone and owns its answer. Conditions: none. -/
import Derived.Test.YtiflooopfpcelaaLaw
import Derived.Test.YtiflooopfpcelaaLaw4
import Derived.Test.YtiflooopfpcelaaM6
import Derived.Test.YtiflooopfpcelaaM8
import Derived.Test.YtiflooopfpcelaaC1
import Derived.Test.YtiflooopfpcelaaC4
import Derived.Deep.RegionHeld3
namespace Go.Proofs.Ytiflooopfpcelaa
set_option maxRecDepth 20000
set_option linter.unusedSimpArgs false
set_option linter.unusedVariables false
open Go.ChangeShapes Go.WideShapes Go.ChangeAt Go.RowKit
set_option linter.unusedVariables false
set_option maxHeartbeats 4000000 in
theorem walk_MachineOk (v0 : Value) (x0 : Pr) (v1 u1 : Value) (M1 : Ma) (w : World) (hA0 : RdASS w v0 x0.x) (hA1 : RdAMa w v1 u1 M1) :
    Calls Try.prog 3 #[.agg #[.int .i64 x0.c, v0], .agg #[v1, u1]] w fun e w' => e = .returned (.bool true) ∧ Below w.heap.size w w' := by
  obtain ⟨-, ⟨Aa0, da0, rfl, -, -, -, -⟩, -⟩ := id hA0
  have HAaP := Lib.hid hA0
  clear hA0
  obtain ⟨Aa1, da1, Ba1, ea1, rfl, rfl⟩ := hA1.slices
  have HAaM := Lib.hid hA1
  clear hA1
  have hB := Below.refl w.heap.size w
  go_enter Try.func3, Try.ntmps3
  go_wp2_with fail
  have hB' := hB.alloc hB.size (.cells #[.int .i64 x0.c, .slice Aa0 x0.x.length da0] 24)
  clear hB
  have k1 := Bk.new w #[.int .i64 x0.c, .slice Aa0 x0.x.length da0] 24
  have k1' := k1.alloc (.cells #[.slice Aa1 M1.mem.length da1, .slice Ba1 M1.ths.length ea1] 30)
  clear k1
  have hB'' := hB'.alloc hB'.size (.cells #[.slice Aa1 M1.mem.length da1, .slice Ba1 M1.ths.length ea1] 30)
  clear hB'
  have k2 := Bk.new (w.alloc (.cells #[.int .i64 x0.c, .slice Aa0 x0.x.length da0] 24)) #[.slice Aa1 M1.mem.length da1, .slice Ba1 M1.ths.length ea1] 30
  simp only [World.size_alloc] at k2
  refine (szProg _ x0 (1048576) _ (HAaP.out.below hB'') (by omega) (by omega)).mono ?_
  rintro e w3 ⟨rfl, hb3⟩
  have sz4 := hb3.size
  try simp only [World.size_alloc] at sz4
  have hB''' := hB''.trans (hb3.mono hB''.size)
  clear hB''
  have k1'' := k1'.below hb3 k1'.lt
  clear k1'
  have k2' := k2.below hb3 k2.lt
  clear k2
  by_cases hn3 : (1048576 : Int) - (totSS x0.x) < 0
  · rw [show szF (totSS x0.x) (1048576) = -1 by unfold szF; rw [if_pos hn3]]
    go_wp2_with fail
    go_ret
    exact ⟨rfl, hB'''⟩
  rw [show szF (totSS x0.x) (1048576) = 1048576 - (totSS x0.x) by unfold szF; rw [if_neg hn3]]
  obtain ⟨hc1x0, gc1x0⟩ := k1''.at_ 0 (x := .int .i64 x0.c) rfl
  obtain ⟨hc1x1, gc1x1⟩ := k1''.at_ 1 (x := .slice Aa0 x0.x.length da0) rfl
  have l1 := k1''.lt
  obtain ⟨hc2x0, gc2x0⟩ := k2'.at_ 0 (x := .slice Aa1 M1.mem.length da1) rfl
  obtain ⟨hc2x1, gc2x1⟩ := k2'.at_ 1 (x := .slice Ba1 M1.ths.length ea1) rfl
  have l2 := k2'.lt
  go_wp2_with fail
  refine (szMachine _ _ M1 (1048576 - (totSS x0.x)) _ (HAaM.out.below hB''') (by omega) (by omega)).mono ?_
  rintro e w5 ⟨rfl, hb5⟩
  clear hc1x0 gc1x0 hc1x1 gc1x1 l1 hc2x0 gc2x0 hc2x1 gc2x1 l2
  have sz6 := hb5.size
  try simp only [World.size_alloc] at sz6
  have hB'''' := hB'''.trans (hb5.mono hB'''.size)
  clear hB'''
  have k1''' := k1''.below hb5 k1''.lt
  clear k1''
  have k2'' := k2'.below hb5 k2'.lt
  clear k2'
  by_cases hn5 : (1048576 - (totSS x0.x) : Int) - (totMa M1) < 0
  · rw [show szF (totMa M1) (1048576 - (totSS x0.x)) = -1 by unfold szF; rw [if_pos hn5]]
    go_wp2_with fail
    go_ret
    exact ⟨rfl, hB''''⟩
  rw [show szF (totMa M1) (1048576 - (totSS x0.x)) = 1048576 - (totSS x0.x) - (totMa M1) by unfold szF; rw [if_neg hn5]]
  obtain ⟨hc1x0, gc1x0⟩ := k1'''.at_ 0 (x := .int .i64 x0.c) rfl
  obtain ⟨hc1x1, gc1x1⟩ := k1'''.at_ 1 (x := .slice Aa0 x0.x.length da0) rfl
  have l1 := k1'''.lt
  obtain ⟨hc2x0, gc2x0⟩ := k2''.at_ 0 (x := .slice Aa1 M1.mem.length da1) rfl
  obtain ⟨hc2x1, gc2x1⟩ := k2''.at_ 1 (x := .slice Ba1 M1.ths.length ea1) rfl
  have l2 := k2''.lt
  go_wp2_with fail
  clear hc1x0 gc1x0 hc1x1 gc1x1 l1 hc2x0 gc2x0 hc2x1 gc2x1 l2
  obtain ⟨hc1x0, gc1x0⟩ := k1'''.at_ 0 (x := .int .i64 x0.c) rfl
  obtain ⟨hc1x1, gc1x1⟩ := k1'''.at_ 1 (x := .slice Aa0 x0.x.length da0) rfl
  have l1 := k1'''.lt
  obtain ⟨hc2x0, gc2x0⟩ := k2''.at_ 0 (x := .slice Aa1 M1.mem.length da1) rfl
  obtain ⟨hc2x1, gc2x1⟩ := k2''.at_ 1 (x := .slice Ba1 M1.ths.length ea1) rfl
  have l2 := k2''.lt
  have HS10 : Hid (∀ W : World, Below w5.heap.size w5 W → Below w5.heap.size w5 W ∧ W.cell? ⟨w.heap.size, 0, none⟩ = some (.int .i64 x0.c) ∧ W.cell? ⟨w.heap.size, 1, none⟩ = some (.slice Aa0 x0.x.length da0) ∧ W.cell? ⟨w.heap.size + 1, 0, none⟩ = some (.slice Aa1 M1.mem.length da1) ∧ W.cell? ⟨w.heap.size + 1, 1, none⟩ = some (.slice Ba1 M1.ths.length ea1)) := Lib.hid fun W hW => ⟨hW, (hW.cell (p := ⟨w.heap.size, 0, none⟩) k1'''.lt).trans hc1x0, (hW.cell (p := ⟨w.heap.size, 1, none⟩) k1'''.lt).trans hc1x1, (hW.cell (p := ⟨w.heap.size + 1, 0, none⟩) k2''.lt).trans hc2x0, (hW.cell (p := ⟨w.heap.size + 1, 1, none⟩) k2''.lt).trans hc2x1⟩
  have HhB____ := Lib.hid hB''''
  go_region_held3 (fun W => Below w5.heap.size w5 W ∧ W.cell? ⟨w.heap.size, 0, none⟩ = some (.int .i64 x0.c) ∧ W.cell? ⟨w.heap.size, 1, none⟩ = some (.slice Aa0 x0.x.length da0) ∧ W.cell? ⟨w.heap.size + 1, 0, none⟩ = some (.slice Aa1 M1.mem.length da1) ∧ W.cell? ⟨w.heap.size + 1, 1, none⟩ = some (.slice Ba1 M1.ths.length ea1)) (first | (exact HS10.out _ (Below.refl _ _).drew) | (exact HS10.out _ (by assumption)))
    (first
      | (go_at_call_of 14 (Value.agg #[Value.int .i64 x0.c, Value.slice Aa0 x0.x.length da0] : Value); have hS := ‹Below w5.heap.size w5 _ ∧ _›.1; refine (toProg _ x0 _ (HAaP.out.below (HhB____.out.trans (hS.mono HhB____.out.size))) (by omega)).mono ?_; rintro e w7 ⟨v7x0, bs7, rfl, ho7, lo7, hb7⟩; have hS10x0 := hS.trans (hb7.mono hS.size); clear hS)
      | (go_at_call_of 15 (Value.agg #[Value.slice Aa1 M1.mem.length da1, Value.slice Ba1 M1.ths.length ea1] : Value); have hS := ‹Below w5.heap.size w5 _ ∧ _›.1; refine (toMachine _ _ M1 _ (HAaM.out.below (HhB____.out.trans (hS.mono HhB____.out.size))) (by omega)).mono ?_; rintro e w8 ⟨v8x0, v8x1, bs8, rfl, ho8, lo8, hb8⟩; have ho7 := ho7.below hb8; have hS10x1 := hS.trans (hb8.mono hS.size); clear hS)
      | (go_at_call 13; have hS := ‹Below w5.heap.size w5 _ ∧ _›.1; refine (spec_MachineOk _ _ _ x0 M1 _ ho7.rd ho8.rd).mono ?_; rintro e w9 ⟨rfl, hb9⟩; have ho7 := ho7.below hb9; have ho8 := ho8.below hb9; have hS10x2 := hS.trans (hb9.mono hS.size); clear hS))
  have hS10 := ‹Below w5.heap.size w5 _ ∧ _›.1
  clear HS10 HhB____
  clear hc1x0 gc1x0 hc1x1 gc1x1 l1 hc2x0 gc2x0 hc2x1 gc2x1 l2
  have sz11 := hS10.size
  try simp only [World.size_alloc] at sz11
  have hB''''' := hB''''.trans (hS10.mono hB''''.size)
  clear hB''''
  have k1'''' := k1'''.below hS10 k1'''.lt
  clear k1'''
  have k2''' := k2''.below hS10 k2''.lt
  clear k2''
  clear hS10
  clear ho7
  clear ho8
  obtain ⟨hc1x0, gc1x0⟩ := k1''''.at_ 0 (x := .int .i64 x0.c) rfl
  obtain ⟨hc1x1, gc1x1⟩ := k1''''.at_ 1 (x := .slice Aa0 x0.x.length da0) rfl
  have l1 := k1''''.lt
  obtain ⟨hc2x0, gc2x0⟩ := k2'''.at_ 0 (x := .slice Aa1 M1.mem.length da1) rfl
  obtain ⟨hc2x1, gc2x1⟩ := k2'''.at_ 1 (x := .slice Ba1 M1.ths.length ea1) rfl
  have l2 := k2'''.lt
  go_wp2_with fail
  refine (toProg _ x0 _ (HAaP.out.below hB''''') (by omega)).mono ?_
  rintro e w12 ⟨v12x0, bs12, rfl, ho12, lo12, hb12⟩
  clear hc1x0 gc1x0 hc1x1 gc1x1 l1 hc2x0 gc2x0 hc2x1 gc2x1 l2
  have sz13 := hb12.size
  try simp only [World.size_alloc] at sz13
  have hB'''''' := hB'''''.trans (hb12.mono hB'''''.size)
  clear hB'''''
  have k1''''' := k1''''.below hb12 k1''''.lt
  clear k1''''
  have k2'''' := k2'''.below hb12 k2'''.lt
  clear k2'''
  have hi12 := ho12.lt
  try simp only [World.size_alloc] at lo12
  obtain ⟨A12, d12, rfl, -, -⟩ := ho12.slice
  obtain ⟨hc1x0, gc1x0⟩ := k1'''''.at_ 0 (x := .int .i64 x0.c) rfl
  obtain ⟨hc1x1, gc1x1⟩ := k1'''''.at_ 1 (x := .slice Aa0 x0.x.length da0) rfl
  have l1 := k1'''''.lt
  obtain ⟨hc2x0, gc2x0⟩ := k2''''.at_ 0 (x := .slice Aa1 M1.mem.length da1) rfl
  obtain ⟨hc2x1, gc2x1⟩ := k2''''.at_ 1 (x := .slice Ba1 M1.ths.length ea1) rfl
  have l2 := k2''''.lt
  go_wp2_with fail
  clear hc1x0 gc1x0 hc1x1 gc1x1 l1 hc2x0 gc2x0 hc2x1 gc2x1 l2
  have k1'''''' := k1'''''.alloc (.cells #[.int .i64 x0.c, .slice A12 x0.x.length d12] 36)
  clear k1'''''
  have k2''''' := k2''''.alloc (.cells #[.int .i64 x0.c, .slice A12 x0.x.length d12] 36)
  clear k2''''
  have ho12' := ho12.below ((Below.refl _ _).alloc (Nat.le_refl _) (.cells #[.int .i64 x0.c, .slice A12 x0.x.length d12] 36))
  clear ho12
  have hB''''''' := hB''''''.alloc hB''''''.size (.cells #[.int .i64 x0.c, .slice A12 x0.x.length d12] 36)
  clear hB''''''
  have k14 := Bk.new w12 #[.int .i64 x0.c, .slice A12 x0.x.length d12] 36
  refine (toMachine _ _ M1 _ (HAaM.out.below hB''''''') (by omega)).mono ?_
  rintro e w15 ⟨v15x0, v15x1, bs15, rfl, ho15, lo15, hb15⟩
  have sz16 := hb15.size
  try simp only [World.size_alloc] at sz16
  have hB'''''''' := hB'''''''.trans (hb15.mono hB'''''''.size)
  clear hB'''''''
  have k1''''''' := k1''''''.below hb15 k1''''''.lt
  clear k1''''''
  have k2'''''' := k2'''''.below hb15 k2'''''.lt
  clear k2'''''
  have k14' := k14.below hb15 k14.lt
  clear k14
  have ho12'' := ho12'.below hb15
  clear ho12'
  have hi15 := ho15.lt
  try simp only [World.size_alloc] at lo15
  obtain ⟨A15, d15, B15, e15, rfl, rfl⟩ := ho15.slices
  obtain ⟨hc1x0, gc1x0⟩ := k1'''''''.at_ 0 (x := .int .i64 x0.c) rfl
  obtain ⟨hc1x1, gc1x1⟩ := k1'''''''.at_ 1 (x := .slice Aa0 x0.x.length da0) rfl
  have l1 := k1'''''''.lt
  obtain ⟨hc2x0, gc2x0⟩ := k2''''''.at_ 0 (x := .slice Aa1 M1.mem.length da1) rfl
  obtain ⟨hc2x1, gc2x1⟩ := k2''''''.at_ 1 (x := .slice Ba1 M1.ths.length ea1) rfl
  have l2 := k2''''''.lt
  obtain ⟨hc14x0, gc14x0⟩ := k14'.at_ 0 (x := .int .i64 x0.c) rfl
  obtain ⟨hc14x1, gc14x1⟩ := k14'.at_ 1 (x := .slice A12 x0.x.length d12) rfl
  have l14 := k14'.lt
  go_wp2_with fail
  clear hc1x0 gc1x0 hc1x1 gc1x1 l1 hc2x0 gc2x0 hc2x1 gc2x1 l2 hc14x0 gc14x0 hc14x1 gc14x1 l14
  have k1'''''''' := k1'''''''.alloc (.cells #[.slice A15 M1.mem.length d15, .slice B15 M1.ths.length e15] 41)
  clear k1'''''''
  have k2''''''' := k2''''''.alloc (.cells #[.slice A15 M1.mem.length d15, .slice B15 M1.ths.length e15] 41)
  clear k2''''''
  have k14'' := k14'.alloc (.cells #[.slice A15 M1.mem.length d15, .slice B15 M1.ths.length e15] 41)
  clear k14'
  have ho12''' := ho12''.below ((Below.refl _ _).alloc (Nat.le_refl _) (.cells #[.slice A15 M1.mem.length d15, .slice B15 M1.ths.length e15] 41))
  clear ho12''
  have ho15' := ho15.below ((Below.refl _ _).alloc (Nat.le_refl _) (.cells #[.slice A15 M1.mem.length d15, .slice B15 M1.ths.length e15] 41))
  clear ho15
  have hB''''''''' := hB''''''''.alloc hB''''''''.size (.cells #[.slice A15 M1.mem.length d15, .slice B15 M1.ths.length e15] 41)
  clear hB''''''''
  have k17 := Bk.new w15 #[.slice A15 M1.mem.length d15, .slice B15 M1.ths.length e15] 41
  refine (impl_MachineOk _ _ _ x0 M1 _ ho12'''.rd ho15'.rd).mono ?_
  rintro e w18 ⟨rfl, hb18⟩
  have sz19 := hb18.size
  try simp only [World.size_alloc] at sz19
  have hB'''''''''' := hB'''''''''.trans (hb18.mono hB'''''''''.size)
  clear hB'''''''''
  have k1''''''''' := k1''''''''.below hb18 k1''''''''.lt
  clear k1''''''''
  have k2'''''''' := k2'''''''.below hb18 k2'''''''.lt
  clear k2'''''''
  have k14''' := k14''.below hb18 k14''.lt
  clear k14''
  have k17' := k17.below hb18 k17.lt
  clear k17
  have ho12'''' := ho12'''.below hb18
  clear ho12'''
  have ho15'' := ho15'.below hb18
  clear ho15'
  obtain ⟨hc1x0, gc1x0⟩ := k1'''''''''.at_ 0 (x := .int .i64 x0.c) rfl
  obtain ⟨hc1x1, gc1x1⟩ := k1'''''''''.at_ 1 (x := .slice Aa0 x0.x.length da0) rfl
  have l1 := k1'''''''''.lt
  obtain ⟨hc2x0, gc2x0⟩ := k2''''''''.at_ 0 (x := .slice Aa1 M1.mem.length da1) rfl
  obtain ⟨hc2x1, gc2x1⟩ := k2''''''''.at_ 1 (x := .slice Ba1 M1.ths.length ea1) rfl
  have l2 := k2''''''''.lt
  obtain ⟨hc14x0, gc14x0⟩ := k14'''.at_ 0 (x := .int .i64 x0.c) rfl
  obtain ⟨hc14x1, gc14x1⟩ := k14'''.at_ 1 (x := .slice A12 x0.x.length d12) rfl
  have l14 := k14'''.lt
  obtain ⟨hc17x0, gc17x0⟩ := k17'.at_ 0 (x := .slice A15 M1.mem.length d15) rfl
  obtain ⟨hc17x1, gc17x1⟩ := k17'.at_ 1 (x := .slice B15 M1.ths.length e15) rfl
  have l17 := k17'.lt
  go_wp2_with fail
  clear hc1x0 gc1x0 hc1x1 gc1x1 l1 hc2x0 gc2x0 hc2x1 gc2x1 l2 hc14x0 gc14x0 hc14x1 gc14x1 l14 hc17x0 gc17x0 hc17x1 gc17x1 l17
  obtain ⟨hc1x0, gc1x0⟩ := k1'''''''''.at_ 0 (x := .int .i64 x0.c) rfl
  obtain ⟨hc1x1, gc1x1⟩ := k1'''''''''.at_ 1 (x := .slice Aa0 x0.x.length da0) rfl
  have l1 := k1'''''''''.lt
  obtain ⟨hc2x0, gc2x0⟩ := k2''''''''.at_ 0 (x := .slice Aa1 M1.mem.length da1) rfl
  obtain ⟨hc2x1, gc2x1⟩ := k2''''''''.at_ 1 (x := .slice Ba1 M1.ths.length ea1) rfl
  have l2 := k2''''''''.lt
  obtain ⟨hc14x0, gc14x0⟩ := k14'''.at_ 0 (x := .int .i64 x0.c) rfl
  obtain ⟨hc14x1, gc14x1⟩ := k14'''.at_ 1 (x := .slice A12 x0.x.length d12) rfl
  have l14 := k14'''.lt
  obtain ⟨hc17x0, gc17x0⟩ := k17'.at_ 0 (x := .slice A15 M1.mem.length d15) rfl
  obtain ⟨hc17x1, gc17x1⟩ := k17'.at_ 1 (x := .slice B15 M1.ths.length e15) rfl
  have l17 := k17'.lt
  have HS21 : Hid (∀ W : World, Below w18.heap.size w18 W → Below w18.heap.size w18 W ∧ W.cell? ⟨w12.heap.size, 0, none⟩ = some (.int .i64 x0.c) ∧ W.cell? ⟨w12.heap.size, 1, none⟩ = some (.slice A12 x0.x.length d12) ∧ W.cell? ⟨w.heap.size, 0, none⟩ = some (.int .i64 x0.c) ∧ W.cell? ⟨w.heap.size, 1, none⟩ = some (.slice Aa0 x0.x.length da0)) := Lib.hid fun W hW => ⟨hW, (hW.cell (p := ⟨w12.heap.size, 0, none⟩) k14'''.lt).trans hc14x0, (hW.cell (p := ⟨w12.heap.size, 1, none⟩) k14'''.lt).trans hc14x1, (hW.cell (p := ⟨w.heap.size, 0, none⟩) k1'''''''''.lt).trans hc1x0, (hW.cell (p := ⟨w.heap.size, 1, none⟩) k1'''''''''.lt).trans hc1x1⟩
  have HhB__________ := Lib.hid hB''''''''''
  have Hho12____ := Lib.hid ho12''''
  have Hho15__ := Lib.hid ho15''
  go_region_held3 (fun W => Below w18.heap.size w18 W ∧ W.cell? ⟨w12.heap.size, 0, none⟩ = some (.int .i64 x0.c) ∧ W.cell? ⟨w12.heap.size, 1, none⟩ = some (.slice A12 x0.x.length d12) ∧ W.cell? ⟨w.heap.size, 0, none⟩ = some (.int .i64 x0.c) ∧ W.cell? ⟨w.heap.size, 1, none⟩ = some (.slice Aa0 x0.x.length da0)) (first | (exact HS21.out _ (Below.refl _ _).drew) | (exact HS21.out _ (by assumption)))
    (first
      | (go_at_call 14; have hS := ‹Below w18.heap.size w18 _ ∧ _›.1; refine (toProg _ x0 _ (HAaP.out.below (HhB__________.out.trans (hS.mono HhB__________.out.size))) (by omega)).mono ?_; rintro e wa20 ⟨vv0, bsw, rfl, how, low, hbw20⟩; have HO20 := Lib.hid how; clear how low; have hS21x0 := hS.trans (hbw20.mono hS.size); clear hS)
      | (go_at_call 17; have hS := ‹Below w18.heap.size w18 _ ∧ _›.1; refine (eqProg _ _ (x0) (x0) _ (Hho12____.out.below hS).rd HO20.out.rd).mono ?_; rintro e w20 ⟨rfl, hbe20⟩; have hS21x1 := hS.trans (hbe20.mono hS.size); clear hS))
  have hS21 := ‹Below w18.heap.size w18 _ ∧ _›.1
  clear HS21 HhB__________ Hho12____ Hho15__
  clear hc1x0 gc1x0 hc1x1 gc1x1 l1 hc2x0 gc2x0 hc2x1 gc2x1 l2 hc14x0 gc14x0 hc14x1 gc14x1 l14 hc17x0 gc17x0 hc17x1 gc17x1 l17
  have sz22 := hS21.size
  try simp only [World.size_alloc] at sz22
  have hB''''''''''' := hB''''''''''.trans (hS21.mono hB''''''''''.size)
  clear hB''''''''''
  have k1'''''''''' := k1'''''''''.below hS21 k1'''''''''.lt
  clear k1'''''''''
  have k2''''''''' := k2''''''''.below hS21 k2''''''''.lt
  clear k2''''''''
  have k14'''' := k14'''.below hS21 k14'''.lt
  clear k14'''
  have k17'' := k17'.below hS21 k17'.lt
  clear k17'
  have ho12''''' := ho12''''.below hS21
  clear ho12''''
  have ho15''' := ho15''.below hS21
  clear ho15''
  clear hS21
  clear HO20
  obtain ⟨hc1x0, gc1x0⟩ := k1''''''''''.at_ 0 (x := .int .i64 x0.c) rfl
  obtain ⟨hc1x1, gc1x1⟩ := k1''''''''''.at_ 1 (x := .slice Aa0 x0.x.length da0) rfl
  have l1 := k1''''''''''.lt
  obtain ⟨hc2x0, gc2x0⟩ := k2'''''''''.at_ 0 (x := .slice Aa1 M1.mem.length da1) rfl
  obtain ⟨hc2x1, gc2x1⟩ := k2'''''''''.at_ 1 (x := .slice Ba1 M1.ths.length ea1) rfl
  have l2 := k2'''''''''.lt
  obtain ⟨hc14x0, gc14x0⟩ := k14''''.at_ 0 (x := .int .i64 x0.c) rfl
  obtain ⟨hc14x1, gc14x1⟩ := k14''''.at_ 1 (x := .slice A12 x0.x.length d12) rfl
  have l14 := k14''''.lt
  obtain ⟨hc17x0, gc17x0⟩ := k17''.at_ 0 (x := .slice A15 M1.mem.length d15) rfl
  obtain ⟨hc17x1, gc17x1⟩ := k17''.at_ 1 (x := .slice B15 M1.ths.length e15) rfl
  have l17 := k17''.lt
  go_wp2_with fail
  clear hc1x0 gc1x0 hc1x1 gc1x1 l1 hc2x0 gc2x0 hc2x1 gc2x1 l2 hc14x0 gc14x0 hc14x1 gc14x1 l14 hc17x0 gc17x0 hc17x1 gc17x1 l17
  obtain ⟨hc1x0, gc1x0⟩ := k1''''''''''.at_ 0 (x := .int .i64 x0.c) rfl
  obtain ⟨hc1x1, gc1x1⟩ := k1''''''''''.at_ 1 (x := .slice Aa0 x0.x.length da0) rfl
  have l1 := k1''''''''''.lt
  obtain ⟨hc2x0, gc2x0⟩ := k2'''''''''.at_ 0 (x := .slice Aa1 M1.mem.length da1) rfl
  obtain ⟨hc2x1, gc2x1⟩ := k2'''''''''.at_ 1 (x := .slice Ba1 M1.ths.length ea1) rfl
  have l2 := k2'''''''''.lt
  obtain ⟨hc14x0, gc14x0⟩ := k14''''.at_ 0 (x := .int .i64 x0.c) rfl
  obtain ⟨hc14x1, gc14x1⟩ := k14''''.at_ 1 (x := .slice A12 x0.x.length d12) rfl
  have l14 := k14''''.lt
  obtain ⟨hc17x0, gc17x0⟩ := k17''.at_ 0 (x := .slice A15 M1.mem.length d15) rfl
  obtain ⟨hc17x1, gc17x1⟩ := k17''.at_ 1 (x := .slice B15 M1.ths.length e15) rfl
  have l17 := k17''.lt
  have HS24 : Hid (∀ W : World, Below w20.heap.size w20 W → Below w20.heap.size w20 W ∧ W.cell? ⟨w15.heap.size, 0, none⟩ = some (.slice A15 M1.mem.length d15) ∧ W.cell? ⟨w15.heap.size, 1, none⟩ = some (.slice B15 M1.ths.length e15) ∧ W.cell? ⟨w.heap.size + 1, 0, none⟩ = some (.slice Aa1 M1.mem.length da1) ∧ W.cell? ⟨w.heap.size + 1, 1, none⟩ = some (.slice Ba1 M1.ths.length ea1)) := Lib.hid fun W hW => ⟨hW, (hW.cell (p := ⟨w15.heap.size, 0, none⟩) k17''.lt).trans hc17x0, (hW.cell (p := ⟨w15.heap.size, 1, none⟩) k17''.lt).trans hc17x1, (hW.cell (p := ⟨w.heap.size + 1, 0, none⟩) k2'''''''''.lt).trans hc2x0, (hW.cell (p := ⟨w.heap.size + 1, 1, none⟩) k2'''''''''.lt).trans hc2x1⟩
  have HhB___________ := Lib.hid hB'''''''''''
  have Hho12_____ := Lib.hid ho12'''''
  have Hho15___ := Lib.hid ho15'''
  go_region_held3 (fun W => Below w20.heap.size w20 W ∧ W.cell? ⟨w15.heap.size, 0, none⟩ = some (.slice A15 M1.mem.length d15) ∧ W.cell? ⟨w15.heap.size, 1, none⟩ = some (.slice B15 M1.ths.length e15) ∧ W.cell? ⟨w.heap.size + 1, 0, none⟩ = some (.slice Aa1 M1.mem.length da1) ∧ W.cell? ⟨w.heap.size + 1, 1, none⟩ = some (.slice Ba1 M1.ths.length ea1)) (first | (exact HS24.out _ (Below.refl _ _).drew) | (exact HS24.out _ (by assumption)))
    (first
      | (go_at_call 15; have hS := ‹Below w20.heap.size w20 _ ∧ _›.1; refine (toMachine _ _ M1 _ (HAaM.out.below (HhB___________.out.trans (hS.mono HhB___________.out.size))) (by omega)).mono ?_; rintro e wa23 ⟨vv0, vv1, bsw, rfl, how, low, hbw23⟩; have HO23 := Lib.hid how; clear how low; have hS24x0 := hS.trans (hbw23.mono hS.size); clear hS)
      | (go_at_call 18; have hS := ‹Below w20.heap.size w20 _ ∧ _›.1; refine (eqMachine _ _ _ _ (M1) (M1) _ (Hho15___.out.below hS).rd HO23.out.rd).mono ?_; rintro e w23 ⟨rfl, hbe23⟩; have hS24x1 := hS.trans (hbe23.mono hS.size); clear hS))
  have hS24 := ‹Below w20.heap.size w20 _ ∧ _›.1
  clear HS24 HhB___________ Hho12_____ Hho15___
  clear hc1x0 gc1x0 hc1x1 gc1x1 l1 hc2x0 gc2x0 hc2x1 gc2x1 l2 hc14x0 gc14x0 hc14x1 gc14x1 l14 hc17x0 gc17x0 hc17x1 gc17x1 l17
  have sz25 := hS24.size
  try simp only [World.size_alloc] at sz25
  have hB'''''''''''' := hB'''''''''''.trans (hS24.mono hB'''''''''''.size)
  clear hB'''''''''''
  have k1''''''''''' := k1''''''''''.below hS24 k1''''''''''.lt
  clear k1''''''''''
  have k2'''''''''' := k2'''''''''.below hS24 k2'''''''''.lt
  clear k2'''''''''
  have k14''''' := k14''''.below hS24 k14''''.lt
  clear k14''''
  have k17''' := k17''.below hS24 k17''.lt
  clear k17''
  have ho12'''''' := ho12'''''.below hS24
  clear ho12'''''
  have ho15'''' := ho15'''.below hS24
  clear ho15'''
  clear hS24
  clear HO23
  obtain ⟨hc1x0, gc1x0⟩ := k1'''''''''''.at_ 0 (x := .int .i64 x0.c) rfl
  obtain ⟨hc1x1, gc1x1⟩ := k1'''''''''''.at_ 1 (x := .slice Aa0 x0.x.length da0) rfl
  have l1 := k1'''''''''''.lt
  obtain ⟨hc2x0, gc2x0⟩ := k2''''''''''.at_ 0 (x := .slice Aa1 M1.mem.length da1) rfl
  obtain ⟨hc2x1, gc2x1⟩ := k2''''''''''.at_ 1 (x := .slice Ba1 M1.ths.length ea1) rfl
  have l2 := k2''''''''''.lt
  obtain ⟨hc14x0, gc14x0⟩ := k14'''''.at_ 0 (x := .int .i64 x0.c) rfl
  obtain ⟨hc14x1, gc14x1⟩ := k14'''''.at_ 1 (x := .slice A12 x0.x.length d12) rfl
  have l14 := k14'''''.lt
  obtain ⟨hc17x0, gc17x0⟩ := k17'''.at_ 0 (x := .slice A15 M1.mem.length d15) rfl
  obtain ⟨hc17x1, gc17x1⟩ := k17'''.at_ 1 (x := .slice B15 M1.ths.length e15) rfl
  have l17 := k17'''.lt
  go_wp2_with fail
  go_ret
  exact ⟨rfl, hB''''''''''''⟩
set_option maxRecDepth 100000 in
theorem lift_MachineOk (os : Os) (started : os.Started) (H : Type) (enc : TypeId × Value → H) :
    ReturnsInHanded {} Try.checked os 3 .any (Rows.fnExactMachineOkSpec.pre6 enc Try.prog Try.f3 Rows.fnExactMachineOkRow.domain false) (Rows.fnExactMachineOkSpec.post enc Try.prog Try.f3 false true false false) := by
  refine returnsInHanded_of_change (C := Try.checked) (by kernel_rfl) started (by kernel_rfl) Try.func3
    (ChangeSpec.witness6 (enc := enc) (C := Try.checked) false ⟨#[], #[.agg #[.int .i64 0, .slice none 0 0], .agg #[.slice none 0 0, .slice none 0 0]], []⟩ 8 (by kernel_rfl) (by kernel_rfl) (by kernel_rfl) (by kernel_rfl)) ?_
  intro W base args ds gs before hval0 hW hcnd _
  have hval : ∀ (j : Nat) t v, Try.f3.params[j]? = some t → args[j]? = some v → Value.okWide Try.prog W .any base t v := hval0
  have hW' := hW
  obtain ⟨p, q, hA0, hV, rfl, hfz, hnd⟩ := hW
  have hA : DataW.TrodAll enc Try.prog W 0 (fun _ => true) true Try.f3.params.toList args.toList ds p := hA0
  rw [Try.params3] at hA hval
  obtain ⟨v0, vs0, d0, ds0, p0, q0, hargs, rfl, rfl, h0, r0⟩ := trodAll_cons hA
  obtain ⟨v1, vs1, d1, ds1, p1, q1, rfl, rfl, rfl, h1, r1⟩ := trodAll_cons r0
  obtain ⟨rfl, rfl, rfl⟩ := trodAll_nil r1
  obtain rfl : args = #[v0, v1] := by cases args; simp_all
  obtain ⟨rfl, rfl⟩ := trodVars_none hV
  obtain ⟨c0, x0, rfl, hR0⟩ := read_prog Try.underlying24 ⟨rfl, rfl⟩ ⟨rfl, rfl⟩ (by decide +kernel) (by kernel_rfl) Try.underlying3 Try.underlying22 (by kernel_rfl) Try.underlying134 Try.underlying181 (by kernel_rfl) ⟨rfl, rfl, rfl, rfl⟩ (by decide +kernel) ⟨Try.underlying3, Try.underlying3, Try.underlying3, Try.underlying3⟩ (hval 0 _ v0 rfl rfl) h0
  obtain ⟨c1, u1, M1, rfl, hR1, hI1⟩ := read_machine Try.underlying30 (by kernel_rfl) ⟨rfl, rfl⟩ (by decide +kernel) Try.underlying27 rfl (by kernel_rfl) Try.underlying25 Try.underlying3 (by kernel_rfl) Try.underlying28 thTypeL (hval 1 _ v1 rfl rfl) h1
  refine (walk_MachineOk c0 x0 _ _ M1 W hR0 hR1).mono fun e W' ⟨he, hb⟩ => ?_
  subst he
  exact ⟨_, rfl, post_law (by kernel_rfl) rfl rfl (by kernel_rfl) Try.underlying4 (of_decide_eq_true (by kernel_rfl)) hW' hb⟩
theorem FnExactMachineOk_holds : Rows.FnExactMachineOkSaid :=
  OpenClaim.holds_of_wide 3 Try.f3 rfl rfl rfl rfl rfl rfl rfl ⟨rfl, rfl, rfl, rfl, rfl⟩ rfl rfl rfl rfl rfl (by kernel_rfl) Try.func3 (by kernel_rfl)
    (of_decide_eq_true (by kernel_rfl)) (by unfold Func.isWrapper; first | (rw [if_pos (by decide +kernel)]; kernel_rfl) | (rw [if_neg (by decide +kernel)]; exact ⟨rfl, rfl⟩))
    (fun os started H enc _ => lift_MachineOk os started H enc)
#print axioms FnExactMachineOk_holds
end Go.Proofs.Ytiflooopfpcelaa
