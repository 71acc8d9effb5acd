/- FnExactMoves answers true at every input: Moves answers as its model does, leaves its arguments alone and owns its answer. Conditions: none. -/
import Derived.Test.YtiflooopfpcelaaLaw
import Derived.Test.YtiflooopfpcelaaLaw4
import Derived.Test.YtiflooopfpcelaaM7
import Derived.Test.YtiflooopfpcelaaM8
import Derived.Test.YtiflooopfpcelaaC8
import Derived.Deep.RegionHeld3
namespace Go.Proofs.Ytiflooopfpcelaa
set_option maxRecDepth 20000
set_option linter.unusedSimpArgs false
set_option linter.unusedVariables false
open Go.ChangeShapes Go.WideShapes Go.ChangeAt Go.RowKit
set_option linter.unusedVariables false
set_option maxHeartbeats 4000000 in
theorem walk_Moves (v0 : Value) (x0 : Pr) (v1 u1 : Value) (M1 : Ma) (w : World) (hA0 : RdASS w v0 x0.x) (hA1 : RdAMa w v1 u1 M1) :
    Calls Try.prog 6 #[.agg #[.int .i64 x0.c, v0], .agg #[v1, u1]] w fun e w' => e = .returned (.bool true) ∧ Below w.heap.size w w' := by
  obtain ⟨-, ⟨Aa0, da0, rfl, -, -, -, -⟩, -⟩ := id hA0
  have HAaP := Lib.hid hA0
  clear hA0
  obtain ⟨Aa1, da1, Ba1, ea1, rfl, rfl⟩ := hA1.slices
  have HAaM := Lib.hid hA1
  clear hA1
  have hq : (mvsF x0 M1).length ≤ 6 := mvsF_len x0 M1
  have hqs := cntSS_all x0.x
  have hqm := cntMa_le M1
  have hB := Below.refl w.heap.size w
  go_enter Try.func6, Try.ntmps6
  go_wp2_with fail
  have hB' := hB.alloc hB.size (.cells #[.int .i64 x0.c, .slice Aa0 x0.x.length da0] 24)
  clear hB
  have k1 := Bk.new w #[.int .i64 x0.c, .slice Aa0 x0.x.length da0] 24
  have k1' := k1.alloc (.cells #[.slice Aa1 M1.mem.length da1, .slice Ba1 M1.ths.length ea1] 30)
  clear k1
  have hB'' := hB'.alloc hB'.size (.cells #[.slice Aa1 M1.mem.length da1, .slice Ba1 M1.ths.length ea1] 30)
  clear hB'
  have k2 := Bk.new (w.alloc (.cells #[.int .i64 x0.c, .slice Aa0 x0.x.length da0] 24)) #[.slice Aa1 M1.mem.length da1, .slice Ba1 M1.ths.length ea1] 30
  simp only [World.size_alloc] at k2
  refine (szProg _ x0 (1048576) _ (HAaP.out.below hB'') (by omega) (by omega)).mono ?_
  rintro e w3 ⟨rfl, hb3⟩
  have sz4 := hb3.size
  try simp only [World.size_alloc] at sz4
  have hB''' := hB''.trans (hb3.mono hB''.size)
  clear hB''
  have k1'' := k1'.below hb3 k1'.lt
  clear k1'
  have k2' := k2.below hb3 k2.lt
  clear k2
  by_cases hn3 : (1048576 : Int) - (totSS x0.x) < 0
  · rw [show szF (totSS x0.x) (1048576) = -1 by unfold szF; rw [if_pos hn3]]
    go_wp2_with fail
    go_ret
    exact ⟨rfl, hB'''⟩
  rw [show szF (totSS x0.x) (1048576) = 1048576 - (totSS x0.x) by unfold szF; rw [if_neg hn3]]
  obtain ⟨hc1x0, gc1x0⟩ := k1''.at_ 0 (x := .int .i64 x0.c) rfl
  obtain ⟨hc1x1, gc1x1⟩ := k1''.at_ 1 (x := .slice Aa0 x0.x.length da0) rfl
  have l1 := k1''.lt
  obtain ⟨hc2x0, gc2x0⟩ := k2'.at_ 0 (x := .slice Aa1 M1.mem.length da1) rfl
  obtain ⟨hc2x1, gc2x1⟩ := k2'.at_ 1 (x := .slice Ba1 M1.ths.length ea1) rfl
  have l2 := k2'.lt
  go_wp2_with fail
  refine (szMachine _ _ M1 (1048576 - (totSS x0.x)) _ (HAaM.out.below hB''') (by omega) (by omega)).mono ?_
  rintro e w5 ⟨rfl, hb5⟩
  clear hc1x0 gc1x0 hc1x1 gc1x1 l1 hc2x0 gc2x0 hc2x1 gc2x1 l2
  have sz6 := hb5.size
  try simp only [World.size_alloc] at sz6
  have hB'''' := hB'''.trans (hb5.mono hB'''.size)
  clear hB'''
  have k1''' := k1''.below hb5 k1''.lt
  clear k1''
  have k2'' := k2'.below hb5 k2'.lt
  clear k2'
  by_cases hn5 : (1048576 - (totSS x0.x) : Int) - (totMa M1) < 0
  · rw [show szF (totMa M1) (1048576 - (totSS x0.x)) = -1 by unfold szF; rw [if_pos hn5]]
    go_wp2_with fail
    go_ret
    exact ⟨rfl, hB''''⟩
  rw [show szF (totMa M1) (1048576 - (totSS x0.x)) = 1048576 - (totSS x0.x) - (totMa M1) by unfold szF; rw [if_neg hn5]]
  obtain ⟨hc1x0, gc1x0⟩ := k1'''.at_ 0 (x := .int .i64 x0.c) rfl
  obtain ⟨hc1x1, gc1x1⟩ := k1'''.at_ 1 (x := .slice Aa0 x0.x.length da0) rfl
  have l1 := k1'''.lt
  obtain ⟨hc2x0, gc2x0⟩ := k2''.at_ 0 (x := .slice Aa1 M1.mem.length da1) rfl
  obtain ⟨hc2x1, gc2x1⟩ := k2''.at_ 1 (x := .slice Ba1 M1.ths.length ea1) rfl
  have l2 := k2''.lt
  go_wp2_with fail
  clear hc1x0 gc1x0 hc1x1 gc1x1 l1 hc2x0 gc2x0 hc2x1 gc2x1 l2
  obtain ⟨hc1x0, gc1x0⟩ := k1'''.at_ 0 (x := .int .i64 x0.c) rfl
  obtain ⟨hc1x1, gc1x1⟩ := k1'''.at_ 1 (x := .slice Aa0 x0.x.length da0) rfl
  have l1 := k1'''.lt
  obtain ⟨hc2x0, gc2x0⟩ := k2''.at_ 0 (x := .slice Aa1 M1.mem.length da1) rfl
  obtain ⟨hc2x1, gc2x1⟩ := k2''.at_ 1 (x := .slice Ba1 M1.ths.length ea1) rfl
  have l2 := k2''.lt
  have HS11 : Hid (∀ W : World, Below w5.heap.size w5 W → Below w5.heap.size w5 W ∧ W.cell? ⟨w.heap.size, 0, none⟩ = some (.int .i64 x0.c) ∧ W.cell? ⟨w.heap.size, 1, none⟩ = some (.slice Aa0 x0.x.length da0) ∧ W.cell? ⟨w.heap.size + 1, 0, none⟩ = some (.slice Aa1 M1.mem.length da1) ∧ W.cell? ⟨w.heap.size + 1, 1, none⟩ = some (.slice Ba1 M1.ths.length ea1)) := Lib.hid fun W hW => ⟨hW, (hW.cell (p := ⟨w.heap.size, 0, none⟩) k1'''.lt).trans hc1x0, (hW.cell (p := ⟨w.heap.size, 1, none⟩) k1'''.lt).trans hc1x1, (hW.cell (p := ⟨w.heap.size + 1, 0, none⟩) k2''.lt).trans hc2x0, (hW.cell (p := ⟨w.heap.size + 1, 1, none⟩) k2''.lt).trans hc2x1⟩
  have HhB____ := Lib.hid hB''''
  go_region_held3 (fun W => Below w5.heap.size w5 W ∧ W.cell? ⟨w.heap.size, 0, none⟩ = some (.int .i64 x0.c) ∧ W.cell? ⟨w.heap.size, 1, none⟩ = some (.slice Aa0 x0.x.length da0) ∧ W.cell? ⟨w.heap.size + 1, 0, none⟩ = some (.slice Aa1 M1.mem.length da1) ∧ W.cell? ⟨w.heap.size + 1, 1, none⟩ = some (.slice Ba1 M1.ths.length ea1)) (first | (exact HS11.out _ (Below.refl _ _).drew) | (exact HS11.out _ (by assumption)))
    (first
      | (go_at_call_of 14 (Value.agg #[Value.int .i64 x0.c, Value.slice Aa0 x0.x.length da0] : Value); have hS := ‹Below w5.heap.size w5 _ ∧ _›.1; refine (toProg _ x0 _ (HAaP.out.below (HhB____.out.trans (hS.mono HhB____.out.size))) (by omega)).mono ?_; rintro e w7 ⟨v7x0, bs7, rfl, ho7, lo7, hb7⟩; have hS11x0 := hS.trans (hb7.mono hS.size); clear hS)
      | (go_at_call_of 15 (Value.agg #[Value.slice Aa1 M1.mem.length da1, Value.slice Ba1 M1.ths.length ea1] : Value); have hS := ‹Below w5.heap.size w5 _ ∧ _›.1; refine (toMachine _ _ M1 _ (HAaM.out.below (HhB____.out.trans (hS.mono HhB____.out.size))) (by omega)).mono ?_; rintro e w8 ⟨v8x0, v8x1, bs8, rfl, ho8, lo8, hb8⟩; have ho7 := ho7.below hb8; have hS11x1 := hS.trans (hb8.mono hS.size); clear hS)
      | (go_at_call 27; have hS := ‹Below w5.heap.size w5 _ ∧ _›.1; refine (spec_Moves _ _ _ x0 M1 _ ho7.rd ho8.rd).mono ?_; rintro e w10 ⟨v10x0, bs10, rfl, ho10, lo10, hb10⟩; have ho7 := ho7.below hb10; have ho8 := ho8.below hb10; have hS11x2 := hS.trans (hb10.mono hS.size); clear hS))
  have hS11 := ‹Below w5.heap.size w5 _ ∧ _›.1
  clear HS11 HhB____
  clear hc1x0 gc1x0 hc1x1 gc1x1 l1 hc2x0 gc2x0 hc2x1 gc2x1 l2
  have sz12 := hS11.size
  try simp only [World.size_alloc] at sz12
  have hB''''' := hB''''.trans (hS11.mono hB''''.size)
  clear hB''''
  have k1'''' := k1'''.below hS11 k1'''.lt
  clear k1'''
  have k2''' := k2''.below hS11 k2''.lt
  clear k2''
  clear hS11
  clear ho7
  clear ho8
  have hi10 := ho10.lt
  try simp only [World.size_alloc] at lo10
  obtain ⟨A10, d10, rfl, -, -⟩ := ho10.slice
  obtain ⟨hc1x0, gc1x0⟩ := k1''''.at_ 0 (x := .int .i64 x0.c) rfl
  obtain ⟨hc1x1, gc1x1⟩ := k1''''.at_ 1 (x := .slice Aa0 x0.x.length da0) rfl
  have l1 := k1''''.lt
  obtain ⟨hc2x0, gc2x0⟩ := k2'''.at_ 0 (x := .slice Aa1 M1.mem.length da1) rfl
  obtain ⟨hc2x1, gc2x1⟩ := k2'''.at_ 1 (x := .slice Ba1 M1.ths.length ea1) rfl
  have l2 := k2'''.lt
  go_wp2_with fail
  refine (toProg _ x0 _ (HAaP.out.below hB''''') (by omega)).mono ?_
  rintro e w13 ⟨v13x0, bs13, rfl, ho13, lo13, hb13⟩
  clear hc1x0 gc1x0 hc1x1 gc1x1 l1 hc2x0 gc2x0 hc2x1 gc2x1 l2
  have sz14 := hb13.size
  try simp only [World.size_alloc] at sz14
  have hB'''''' := hB'''''.trans (hb13.mono hB'''''.size)
  clear hB'''''
  have k1''''' := k1''''.below hb13 k1''''.lt
  clear k1''''
  have k2'''' := k2'''.below hb13 k2'''.lt
  clear k2'''
  have ho10' := ho10.below hb13
  clear ho10
  have hi13 := ho13.lt
  try simp only [World.size_alloc] at lo13
  obtain ⟨A13, d13, rfl, -, -⟩ := ho13.slice
  obtain ⟨hc1x0, gc1x0⟩ := k1'''''.at_ 0 (x := .int .i64 x0.c) rfl
  obtain ⟨hc1x1, gc1x1⟩ := k1'''''.at_ 1 (x := .slice Aa0 x0.x.length da0) rfl
  have l1 := k1'''''.lt
  obtain ⟨hc2x0, gc2x0⟩ := k2''''.at_ 0 (x := .slice Aa1 M1.mem.length da1) rfl
  obtain ⟨hc2x1, gc2x1⟩ := k2''''.at_ 1 (x := .slice Ba1 M1.ths.length ea1) rfl
  have l2 := k2''''.lt
  go_wp2_with fail
  clear hc1x0 gc1x0 hc1x1 gc1x1 l1 hc2x0 gc2x0 hc2x1 gc2x1 l2
  have k1'''''' := k1'''''.alloc (.cells #[.int .i64 x0.c, .slice A13 x0.x.length d13] 36)
  clear k1'''''
  have k2''''' := k2''''.alloc (.cells #[.int .i64 x0.c, .slice A13 x0.x.length d13] 36)
  clear k2''''
  have ho10'' := ho10'.below ((Below.refl _ _).alloc (Nat.le_refl _) (.cells #[.int .i64 x0.c, .slice A13 x0.x.length d13] 36))
  clear ho10'
  have ho13' := ho13.below ((Below.refl _ _).alloc (Nat.le_refl _) (.cells #[.int .i64 x0.c, .slice A13 x0.x.length d13] 36))
  clear ho13
  have hB''''''' := hB''''''.alloc hB''''''.size (.cells #[.int .i64 x0.c, .slice A13 x0.x.length d13] 36)
  clear hB''''''
  have k15 := Bk.new w13 #[.int .i64 x0.c, .slice A13 x0.x.length d13] 36
  refine (toMachine _ _ M1 _ (HAaM.out.below hB''''''') (by omega)).mono ?_
  rintro e w16 ⟨v16x0, v16x1, bs16, rfl, ho16, lo16, hb16⟩
  have sz17 := hb16.size
  try simp only [World.size_alloc] at sz17
  have hB'''''''' := hB'''''''.trans (hb16.mono hB'''''''.size)
  clear hB'''''''
  have k1''''''' := k1''''''.below hb16 k1''''''.lt
  clear k1''''''
  have k2'''''' := k2'''''.below hb16 k2'''''.lt
  clear k2'''''
  have k15' := k15.below hb16 k15.lt
  clear k15
  have ho10''' := ho10''.below hb16
  clear ho10''
  have ho13'' := ho13'.below hb16
  clear ho13'
  have hi16 := ho16.lt
  try simp only [World.size_alloc] at lo16
  obtain ⟨A16, d16, B16, e16, rfl, rfl⟩ := ho16.slices
  obtain ⟨hc1x0, gc1x0⟩ := k1'''''''.at_ 0 (x := .int .i64 x0.c) rfl
  obtain ⟨hc1x1, gc1x1⟩ := k1'''''''.at_ 1 (x := .slice Aa0 x0.x.length da0) rfl
  have l1 := k1'''''''.lt
  obtain ⟨hc2x0, gc2x0⟩ := k2''''''.at_ 0 (x := .slice Aa1 M1.mem.length da1) rfl
  obtain ⟨hc2x1, gc2x1⟩ := k2''''''.at_ 1 (x := .slice Ba1 M1.ths.length ea1) rfl
  have l2 := k2''''''.lt
  obtain ⟨hc15x0, gc15x0⟩ := k15'.at_ 0 (x := .int .i64 x0.c) rfl
  obtain ⟨hc15x1, gc15x1⟩ := k15'.at_ 1 (x := .slice A13 x0.x.length d13) rfl
  have l15 := k15'.lt
  go_wp2_with fail
  clear hc1x0 gc1x0 hc1x1 gc1x1 l1 hc2x0 gc2x0 hc2x1 gc2x1 l2 hc15x0 gc15x0 hc15x1 gc15x1 l15
  have k1'''''''' := k1'''''''.alloc (.cells #[.slice A16 M1.mem.length d16, .slice B16 M1.ths.length e16] 41)
  clear k1'''''''
  have k2''''''' := k2''''''.alloc (.cells #[.slice A16 M1.mem.length d16, .slice B16 M1.ths.length e16] 41)
  clear k2''''''
  have k15'' := k15'.alloc (.cells #[.slice A16 M1.mem.length d16, .slice B16 M1.ths.length e16] 41)
  clear k15'
  have ho10'''' := ho10'''.below ((Below.refl _ _).alloc (Nat.le_refl _) (.cells #[.slice A16 M1.mem.length d16, .slice B16 M1.ths.length e16] 41))
  clear ho10'''
  have ho13''' := ho13''.below ((Below.refl _ _).alloc (Nat.le_refl _) (.cells #[.slice A16 M1.mem.length d16, .slice B16 M1.ths.length e16] 41))
  clear ho13''
  have ho16' := ho16.below ((Below.refl _ _).alloc (Nat.le_refl _) (.cells #[.slice A16 M1.mem.length d16, .slice B16 M1.ths.length e16] 41))
  clear ho16
  have hB''''''''' := hB''''''''.alloc hB''''''''.size (.cells #[.slice A16 M1.mem.length d16, .slice B16 M1.ths.length e16] 41)
  clear hB''''''''
  have k18 := Bk.new w16 #[.slice A16 M1.mem.length d16, .slice B16 M1.ths.length e16] 41
  refine (impl_Moves _ _ _ x0 M1 _ ho13'''.rd ho16'.rd).mono ?_
  rintro e w19 ⟨v20x0, bs20, rfl, ho20, lo20, hb20⟩
  have sz21 := hb20.size
  try simp only [World.size_alloc] at sz21
  have hB'''''''''' := hB'''''''''.trans (hb20.mono hB'''''''''.size)
  clear hB'''''''''
  have k1''''''''' := k1''''''''.below hb20 k1''''''''.lt
  clear k1''''''''
  have k2'''''''' := k2'''''''.below hb20 k2'''''''.lt
  clear k2'''''''
  have k15''' := k15''.below hb20 k15''.lt
  clear k15''
  have k18' := k18.below hb20 k18.lt
  clear k18
  have ho10''''' := ho10''''.below hb20
  clear ho10''''
  have ho13'''' := ho13'''.below hb20
  clear ho13'''
  have ho16'' := ho16'.below hb20
  clear ho16'
  have hi20 := ho20.lt
  try simp only [World.size_alloc] at lo20
  obtain ⟨A20, d20, rfl, -, -⟩ := ho20.slice
  obtain ⟨hc1x0, gc1x0⟩ := k1'''''''''.at_ 0 (x := .int .i64 x0.c) rfl
  obtain ⟨hc1x1, gc1x1⟩ := k1'''''''''.at_ 1 (x := .slice Aa0 x0.x.length da0) rfl
  have l1 := k1'''''''''.lt
  obtain ⟨hc2x0, gc2x0⟩ := k2''''''''.at_ 0 (x := .slice Aa1 M1.mem.length da1) rfl
  obtain ⟨hc2x1, gc2x1⟩ := k2''''''''.at_ 1 (x := .slice Ba1 M1.ths.length ea1) rfl
  have l2 := k2''''''''.lt
  obtain ⟨hc15x0, gc15x0⟩ := k15'''.at_ 0 (x := .int .i64 x0.c) rfl
  obtain ⟨hc15x1, gc15x1⟩ := k15'''.at_ 1 (x := .slice A13 x0.x.length d13) rfl
  have l15 := k15'''.lt
  obtain ⟨hc18x0, gc18x0⟩ := k18'.at_ 0 (x := .slice A16 M1.mem.length d16) rfl
  obtain ⟨hc18x1, gc18x1⟩ := k18'.at_ 1 (x := .slice B16 M1.ths.length e16) rfl
  have l18 := k18'.lt
  go_wp2_with fail
  refine (eqMoveS _ _ ((mvsF x0 M1)) ((mvsF x0 M1)) _ ho20.rd ho10'''''.rd).mono ?_
  rintro e w22 ⟨rfl, hb22⟩
  rw [decide_eq_true rfl]
  clear hc1x0 gc1x0 hc1x1 gc1x1 l1 hc2x0 gc2x0 hc2x1 gc2x1 l2 hc15x0 gc15x0 hc15x1 gc15x1 l15 hc18x0 gc18x0 hc18x1 gc18x1 l18
  have sz23 := hb22.size
  try simp only [World.size_alloc] at sz23
  have hB''''''''''' := hB''''''''''.trans (hb22.mono hB''''''''''.size)
  clear hB''''''''''
  have k1'''''''''' := k1'''''''''.below hb22 k1'''''''''.lt
  clear k1'''''''''
  have k2''''''''' := k2''''''''.below hb22 k2''''''''.lt
  clear k2''''''''
  have k15'''' := k15'''.below hb22 k15'''.lt
  clear k15'''
  have k18'' := k18'.below hb22 k18'.lt
  clear k18'
  have ho10'''''' := ho10'''''.below hb22
  clear ho10'''''
  have ho13''''' := ho13''''.below hb22
  clear ho13''''
  have ho16''' := ho16''.below hb22
  clear ho16''
  have ho20' := ho20.below hb22
  clear ho20
  obtain ⟨hc1x0, gc1x0⟩ := k1''''''''''.at_ 0 (x := .int .i64 x0.c) rfl
  obtain ⟨hc1x1, gc1x1⟩ := k1''''''''''.at_ 1 (x := .slice Aa0 x0.x.length da0) rfl
  have l1 := k1''''''''''.lt
  obtain ⟨hc2x0, gc2x0⟩ := k2'''''''''.at_ 0 (x := .slice Aa1 M1.mem.length da1) rfl
  obtain ⟨hc2x1, gc2x1⟩ := k2'''''''''.at_ 1 (x := .slice Ba1 M1.ths.length ea1) rfl
  have l2 := k2'''''''''.lt
  obtain ⟨hc15x0, gc15x0⟩ := k15''''.at_ 0 (x := .int .i64 x0.c) rfl
  obtain ⟨hc15x1, gc15x1⟩ := k15''''.at_ 1 (x := .slice A13 x0.x.length d13) rfl
  have l15 := k15''''.lt
  obtain ⟨hc18x0, gc18x0⟩ := k18''.at_ 0 (x := .slice A16 M1.mem.length d16) rfl
  obtain ⟨hc18x1, gc18x1⟩ := k18''.at_ 1 (x := .slice B16 M1.ths.length e16) rfl
  have l18 := k18''.lt
  go_wp2_with fail
  clear hc1x0 gc1x0 hc1x1 gc1x1 l1 hc2x0 gc2x0 hc2x1 gc2x1 l2 hc15x0 gc15x0 hc15x1 gc15x1 l15 hc18x0 gc18x0 hc18x1 gc18x1 l18
  obtain ⟨hc1x0, gc1x0⟩ := k1''''''''''.at_ 0 (x := .int .i64 x0.c) rfl
  obtain ⟨hc1x1, gc1x1⟩ := k1''''''''''.at_ 1 (x := .slice Aa0 x0.x.length da0) rfl
  have l1 := k1''''''''''.lt
  obtain ⟨hc2x0, gc2x0⟩ := k2'''''''''.at_ 0 (x := .slice Aa1 M1.mem.length da1) rfl
  obtain ⟨hc2x1, gc2x1⟩ := k2'''''''''.at_ 1 (x := .slice Ba1 M1.ths.length ea1) rfl
  have l2 := k2'''''''''.lt
  obtain ⟨hc15x0, gc15x0⟩ := k15''''.at_ 0 (x := .int .i64 x0.c) rfl
  obtain ⟨hc15x1, gc15x1⟩ := k15''''.at_ 1 (x := .slice A13 x0.x.length d13) rfl
  have l15 := k15''''.lt
  obtain ⟨hc18x0, gc18x0⟩ := k18''.at_ 0 (x := .slice A16 M1.mem.length d16) rfl
  obtain ⟨hc18x1, gc18x1⟩ := k18''.at_ 1 (x := .slice B16 M1.ths.length e16) rfl
  have l18 := k18''.lt
  have HS25 : Hid (∀ W : World, Below w22.heap.size w22 W → Below w22.heap.size w22 W ∧ W.cell? ⟨w13.heap.size, 0, none⟩ = some (.int .i64 x0.c) ∧ W.cell? ⟨w13.heap.size, 1, none⟩ = some (.slice A13 x0.x.length d13) ∧ W.cell? ⟨w.heap.size, 0, none⟩ = some (.int .i64 x0.c) ∧ W.cell? ⟨w.heap.size, 1, none⟩ = some (.slice Aa0 x0.x.length da0)) := Lib.hid fun W hW => ⟨hW, (hW.cell (p := ⟨w13.heap.size, 0, none⟩) k15''''.lt).trans hc15x0, (hW.cell (p := ⟨w13.heap.size, 1, none⟩) k15''''.lt).trans hc15x1, (hW.cell (p := ⟨w.heap.size, 0, none⟩) k1''''''''''.lt).trans hc1x0, (hW.cell (p := ⟨w.heap.size, 1, none⟩) k1''''''''''.lt).trans hc1x1⟩
  have HhB___________ := Lib.hid hB'''''''''''
  have Hho10______ := Lib.hid ho10''''''
  have Hho13_____ := Lib.hid ho13'''''
  have Hho16___ := Lib.hid ho16'''
  have Hho20_ := Lib.hid ho20'
  go_region_held3 (fun W => Below w22.heap.size w22 W ∧ W.cell? ⟨w13.heap.size, 0, none⟩ = some (.int .i64 x0.c) ∧ W.cell? ⟨w13.heap.size, 1, none⟩ = some (.slice A13 x0.x.length d13) ∧ W.cell? ⟨w.heap.size, 0, none⟩ = some (.int .i64 x0.c) ∧ W.cell? ⟨w.heap.size, 1, none⟩ = some (.slice Aa0 x0.x.length da0)) (first | (exact HS25.out _ (Below.refl _ _).drew) | (exact HS25.out _ (by assumption)))
    (first
      | (go_at_call 14; have hS := ‹Below w22.heap.size w22 _ ∧ _›.1; refine (toProg _ x0 _ (HAaP.out.below (HhB___________.out.trans (hS.mono HhB___________.out.size))) (by omega)).mono ?_; rintro e wa24 ⟨vv0, bsw, rfl, how, low, hbw24⟩; have HO24 := Lib.hid how; clear how low; have hS25x0 := hS.trans (hbw24.mono hS.size); clear hS)
      | (go_at_call 17; have hS := ‹Below w22.heap.size w22 _ ∧ _›.1; refine (eqProg _ _ (x0) (x0) _ (Hho13_____.out.below hS).rd HO24.out.rd).mono ?_; rintro e w24 ⟨rfl, hbe24⟩; have hS25x1 := hS.trans (hbe24.mono hS.size); clear hS))
  have hS25 := ‹Below w22.heap.size w22 _ ∧ _›.1
  clear HS25 HhB___________ Hho10______ Hho13_____ Hho16___ Hho20_
  clear hc1x0 gc1x0 hc1x1 gc1x1 l1 hc2x0 gc2x0 hc2x1 gc2x1 l2 hc15x0 gc15x0 hc15x1 gc15x1 l15 hc18x0 gc18x0 hc18x1 gc18x1 l18
  have sz26 := hS25.size
  try simp only [World.size_alloc] at sz26
  have hB'''''''''''' := hB'''''''''''.trans (hS25.mono hB'''''''''''.size)
  clear hB'''''''''''
  have k1''''''''''' := k1''''''''''.below hS25 k1''''''''''.lt
  clear k1''''''''''
  have k2'''''''''' := k2'''''''''.below hS25 k2'''''''''.lt
  clear k2'''''''''
  have k15''''' := k15''''.below hS25 k15''''.lt
  clear k15''''
  have k18''' := k18''.below hS25 k18''.lt
  clear k18''
  have ho10''''''' := ho10''''''.below hS25
  clear ho10''''''
  have ho13'''''' := ho13'''''.below hS25
  clear ho13'''''
  have ho16'''' := ho16'''.below hS25
  clear ho16'''
  have ho20'' := ho20'.below hS25
  clear ho20'
  clear hS25
  clear HO24
  obtain ⟨hc1x0, gc1x0⟩ := k1'''''''''''.at_ 0 (x := .int .i64 x0.c) rfl
  obtain ⟨hc1x1, gc1x1⟩ := k1'''''''''''.at_ 1 (x := .slice Aa0 x0.x.length da0) rfl
  have l1 := k1'''''''''''.lt
  obtain ⟨hc2x0, gc2x0⟩ := k2''''''''''.at_ 0 (x := .slice Aa1 M1.mem.length da1) rfl
  obtain ⟨hc2x1, gc2x1⟩ := k2''''''''''.at_ 1 (x := .slice Ba1 M1.ths.length ea1) rfl
  have l2 := k2''''''''''.lt
  obtain ⟨hc15x0, gc15x0⟩ := k15'''''.at_ 0 (x := .int .i64 x0.c) rfl
  obtain ⟨hc15x1, gc15x1⟩ := k15'''''.at_ 1 (x := .slice A13 x0.x.length d13) rfl
  have l15 := k15'''''.lt
  obtain ⟨hc18x0, gc18x0⟩ := k18'''.at_ 0 (x := .slice A16 M1.mem.length d16) rfl
  obtain ⟨hc18x1, gc18x1⟩ := k18'''.at_ 1 (x := .slice B16 M1.ths.length e16) rfl
  have l18 := k18'''.lt
  go_wp2_with fail
  clear hc1x0 gc1x0 hc1x1 gc1x1 l1 hc2x0 gc2x0 hc2x1 gc2x1 l2 hc15x0 gc15x0 hc15x1 gc15x1 l15 hc18x0 gc18x0 hc18x1 gc18x1 l18
  obtain ⟨hc1x0, gc1x0⟩ := k1'''''''''''.at_ 0 (x := .int .i64 x0.c) rfl
  obtain ⟨hc1x1, gc1x1⟩ := k1'''''''''''.at_ 1 (x := .slice Aa0 x0.x.length da0) rfl
  have l1 := k1'''''''''''.lt
  obtain ⟨hc2x0, gc2x0⟩ := k2''''''''''.at_ 0 (x := .slice Aa1 M1.mem.length da1) rfl
  obtain ⟨hc2x1, gc2x1⟩ := k2''''''''''.at_ 1 (x := .slice Ba1 M1.ths.length ea1) rfl
  have l2 := k2''''''''''.lt
  obtain ⟨hc15x0, gc15x0⟩ := k15'''''.at_ 0 (x := .int .i64 x0.c) rfl
  obtain ⟨hc15x1, gc15x1⟩ := k15'''''.at_ 1 (x := .slice A13 x0.x.length d13) rfl
  have l15 := k15'''''.lt
  obtain ⟨hc18x0, gc18x0⟩ := k18'''.at_ 0 (x := .slice A16 M1.mem.length d16) rfl
  obtain ⟨hc18x1, gc18x1⟩ := k18'''.at_ 1 (x := .slice B16 M1.ths.length e16) rfl
  have l18 := k18'''.lt
  have HS28 : Hid (∀ W : World, Below w24.heap.size w24 W → Below w24.heap.size w24 W ∧ W.cell? ⟨w16.heap.size, 0, none⟩ = some (.slice A16 M1.mem.length d16) ∧ W.cell? ⟨w16.heap.size, 1, none⟩ = some (.slice B16 M1.ths.length e16) ∧ W.cell? ⟨w.heap.size + 1, 0, none⟩ = some (.slice Aa1 M1.mem.length da1) ∧ W.cell? ⟨w.heap.size + 1, 1, none⟩ = some (.slice Ba1 M1.ths.length ea1)) := Lib.hid fun W hW => ⟨hW, (hW.cell (p := ⟨w16.heap.size, 0, none⟩) k18'''.lt).trans hc18x0, (hW.cell (p := ⟨w16.heap.size, 1, none⟩) k18'''.lt).trans hc18x1, (hW.cell (p := ⟨w.heap.size + 1, 0, none⟩) k2''''''''''.lt).trans hc2x0, (hW.cell (p := ⟨w.heap.size + 1, 1, none⟩) k2''''''''''.lt).trans hc2x1⟩
  have HhB____________ := Lib.hid hB''''''''''''
  have Hho10_______ := Lib.hid ho10'''''''
  have Hho13______ := Lib.hid ho13''''''
  have Hho16____ := Lib.hid ho16''''
  have Hho20__ := Lib.hid ho20''
  go_region_held3 (fun W => Below w24.heap.size w24 W ∧ W.cell? ⟨w16.heap.size, 0, none⟩ = some (.slice A16 M1.mem.length d16) ∧ W.cell? ⟨w16.heap.size, 1, none⟩ = some (.slice B16 M1.ths.length e16) ∧ W.cell? ⟨w.heap.size + 1, 0, none⟩ = some (.slice Aa1 M1.mem.length da1) ∧ W.cell? ⟨w.heap.size + 1, 1, none⟩ = some (.slice Ba1 M1.ths.length ea1)) (first | (exact HS28.out _ (Below.refl _ _).drew) | (exact HS28.out _ (by assumption)))
    (first
      | (go_at_call 15; have hS := ‹Below w24.heap.size w24 _ ∧ _›.1; refine (toMachine _ _ M1 _ (HAaM.out.below (HhB____________.out.trans (hS.mono HhB____________.out.size))) (by omega)).mono ?_; rintro e wa27 ⟨vv0, vv1, bsw, rfl, how, low, hbw27⟩; have HO27 := Lib.hid how; clear how low; have hS28x0 := hS.trans (hbw27.mono hS.size); clear hS)
      | (go_at_call 18; have hS := ‹Below w24.heap.size w24 _ ∧ _›.1; refine (eqMachine _ _ _ _ (M1) (M1) _ (Hho16____.out.below hS).rd HO27.out.rd).mono ?_; rintro e w27 ⟨rfl, hbe27⟩; have hS28x1 := hS.trans (hbe27.mono hS.size); clear hS))
  have hS28 := ‹Below w24.heap.size w24 _ ∧ _›.1
  clear HS28 HhB____________ Hho10_______ Hho13______ Hho16____ Hho20__
  clear hc1x0 gc1x0 hc1x1 gc1x1 l1 hc2x0 gc2x0 hc2x1 gc2x1 l2 hc15x0 gc15x0 hc15x1 gc15x1 l15 hc18x0 gc18x0 hc18x1 gc18x1 l18
  have sz29 := hS28.size
  try simp only [World.size_alloc] at sz29
  have hB''''''''''''' := hB''''''''''''.trans (hS28.mono hB''''''''''''.size)
  clear hB''''''''''''
  have k1'''''''''''' := k1'''''''''''.below hS28 k1'''''''''''.lt
  clear k1'''''''''''
  have k2''''''''''' := k2''''''''''.below hS28 k2''''''''''.lt
  clear k2''''''''''
  have k15'''''' := k15'''''.below hS28 k15'''''.lt
  clear k15'''''
  have k18'''' := k18'''.below hS28 k18'''.lt
  clear k18'''
  have ho10'''''''' := ho10'''''''.below hS28
  clear ho10'''''''
  have ho13''''''' := ho13''''''.below hS28
  clear ho13''''''
  have ho16''''' := ho16''''.below hS28
  clear ho16''''
  have ho20''' := ho20''.below hS28
  clear ho20''
  clear hS28
  clear HO27
  obtain ⟨hc1x0, gc1x0⟩ := k1''''''''''''.at_ 0 (x := .int .i64 x0.c) rfl
  obtain ⟨hc1x1, gc1x1⟩ := k1''''''''''''.at_ 1 (x := .slice Aa0 x0.x.length da0) rfl
  have l1 := k1''''''''''''.lt
  obtain ⟨hc2x0, gc2x0⟩ := k2'''''''''''.at_ 0 (x := .slice Aa1 M1.mem.length da1) rfl
  obtain ⟨hc2x1, gc2x1⟩ := k2'''''''''''.at_ 1 (x := .slice Ba1 M1.ths.length ea1) rfl
  have l2 := k2'''''''''''.lt
  obtain ⟨hc15x0, gc15x0⟩ := k15''''''.at_ 0 (x := .int .i64 x0.c) rfl
  obtain ⟨hc15x1, gc15x1⟩ := k15''''''.at_ 1 (x := .slice A13 x0.x.length d13) rfl
  have l15 := k15''''''.lt
  obtain ⟨hc18x0, gc18x0⟩ := k18''''.at_ 0 (x := .slice A16 M1.mem.length d16) rfl
  obtain ⟨hc18x1, gc18x1⟩ := k18''''.at_ 1 (x := .slice B16 M1.ths.length e16) rfl
  have l18 := k18''''.lt
  go_wp2_with fail
  refine (markProg _ x0 bs13 (1) _ ho13''''''' (by omega) (by omega) (by omega)).mono ?_
  rintro e w30 ⟨rfl, hq30, hon30⟩
  clear hc1x0 gc1x0 hc1x1 gc1x1 l1 hc2x0 gc2x0 hc2x1 gc2x1 l2 hc15x0 gc15x0 hc15x1 gc15x1 l15 hc18x0 gc18x0 hc18x1 gc18x1 l18
  have sz31 := hon30.size
  try simp only [World.size_alloc] at sz31
  have hB'''''''''''''' := hB'''''''''''''.trans (hon30.below hB'''''''''''''.size (fun b hb => by have := lo13 b hb; omega))
  clear hB'''''''''''''
  have k1''''''''''''' := k1''''''''''''.only hon30 (fun hm => by have := lo13 _ hm; have := hi13 _ hm; omega)
  clear k1''''''''''''
  have k2'''''''''''' := k2'''''''''''.only hon30 (fun hm => by have := lo13 _ hm; have := hi13 _ hm; omega)
  clear k2'''''''''''
  have k15''''''' := k15''''''.only hon30 (fun hm => by have := lo13 _ hm; have := hi13 _ hm; omega)
  clear k15''''''
  have k18''''' := k18''''.only hon30 (fun hm => by have := lo13 _ hm; have := hi13 _ hm; omega)
  clear k18''''
  have ho10''''''''' := ho10''''''''.only hon30 (fun b hb hm => by have := lo13 b hm; have := hi13 b hm; have := lo10 b hb; have := hi10 b hb; omega)
  clear ho10''''''''
  have ho16'''''' := ho16'''''.only hon30 (fun b hb hm => by have := lo13 b hm; have := hi13 b hm; have := lo16 b hb; have := hi16 b hb; omega)
  clear ho16'''''
  have ho20'''' := ho20'''.only hon30 (fun b hb hm => by have := lo13 b hm; have := hi13 b hm; have := lo20 b hb; have := hi20 b hb; omega)
  clear ho20'''
  obtain ⟨hc1x0, gc1x0⟩ := k1'''''''''''''.at_ 0 (x := .int .i64 x0.c) rfl
  obtain ⟨hc1x1, gc1x1⟩ := k1'''''''''''''.at_ 1 (x := .slice Aa0 x0.x.length da0) rfl
  have l1 := k1'''''''''''''.lt
  obtain ⟨hc2x0, gc2x0⟩ := k2''''''''''''.at_ 0 (x := .slice Aa1 M1.mem.length da1) rfl
  obtain ⟨hc2x1, gc2x1⟩ := k2''''''''''''.at_ 1 (x := .slice Ba1 M1.ths.length ea1) rfl
  have l2 := k2''''''''''''.lt
  obtain ⟨hc15x0, gc15x0⟩ := k15'''''''.at_ 0 (x := .int .i64 x0.c) rfl
  obtain ⟨hc15x1, gc15x1⟩ := k15'''''''.at_ 1 (x := .slice A13 x0.x.length d13) rfl
  have l15 := k15'''''''.lt
  obtain ⟨hc18x0, gc18x0⟩ := k18'''''.at_ 0 (x := .slice A16 M1.mem.length d16) rfl
  obtain ⟨hc18x1, gc18x1⟩ := k18'''''.at_ 1 (x := .slice B16 M1.ths.length e16) rfl
  have l18 := k18'''''.lt
  go_wp2_with fail
  refine (markMachine _ _ M1 bs16 (1 + (cntSS x0.x : Int)) _ ho16'''''' (by omega) (by omega) (by omega)).mono ?_
  rintro e w32 ⟨rfl, hq32, hon32⟩
  clear hc1x0 gc1x0 hc1x1 gc1x1 l1 hc2x0 gc2x0 hc2x1 gc2x1 l2 hc15x0 gc15x0 hc15x1 gc15x1 l15 hc18x0 gc18x0 hc18x1 gc18x1 l18
  have sz33 := hon32.size
  try simp only [World.size_alloc] at sz33
  have hB''''''''''''''' := hB''''''''''''''.trans (hon32.below hB''''''''''''''.size (fun b hb => by have := lo16 b hb; omega))
  clear hB''''''''''''''
  have k1'''''''''''''' := k1'''''''''''''.only hon32 (fun hm => by have := lo16 _ hm; have := hi16 _ hm; omega)
  clear k1'''''''''''''
  have k2''''''''''''' := k2''''''''''''.only hon32 (fun hm => by have := lo16 _ hm; have := hi16 _ hm; omega)
  clear k2''''''''''''
  have k15'''''''' := k15'''''''.only hon32 (fun hm => by have := lo16 _ hm; have := hi16 _ hm; omega)
  clear k15'''''''
  have k18'''''' := k18'''''.only hon32 (fun hm => by have := lo16 _ hm; have := hi16 _ hm; omega)
  clear k18'''''
  have ho10'''''''''' := ho10'''''''''.only hon32 (fun b hb hm => by have := lo16 b hm; have := hi16 b hm; have := lo10 b hb; have := hi10 b hb; omega)
  clear ho10'''''''''
  have hq30' := hq30.only hon32 (fun b hb hm => by have := lo16 b hm; have := hi16 b hm; have := lo13 b hb; have := hi13 b hb; omega)
  clear hq30
  have ho20''''' := ho20''''.only hon32 (fun b hb hm => by have := lo16 b hm; have := hi16 b hm; have := lo20 b hb; have := hi20 b hb; omega)
  clear ho20''''
  obtain ⟨hc1x0, gc1x0⟩ := k1''''''''''''''.at_ 0 (x := .int .i64 x0.c) rfl
  obtain ⟨hc1x1, gc1x1⟩ := k1''''''''''''''.at_ 1 (x := .slice Aa0 x0.x.length da0) rfl
  have l1 := k1''''''''''''''.lt
  obtain ⟨hc2x0, gc2x0⟩ := k2'''''''''''''.at_ 0 (x := .slice Aa1 M1.mem.length da1) rfl
  obtain ⟨hc2x1, gc2x1⟩ := k2'''''''''''''.at_ 1 (x := .slice Ba1 M1.ths.length ea1) rfl
  have l2 := k2'''''''''''''.lt
  obtain ⟨hc15x0, gc15x0⟩ := k15''''''''.at_ 0 (x := .int .i64 x0.c) rfl
  obtain ⟨hc15x1, gc15x1⟩ := k15''''''''.at_ 1 (x := .slice A13 x0.x.length d13) rfl
  have l15 := k15''''''''.lt
  obtain ⟨hc18x0, gc18x0⟩ := k18''''''.at_ 0 (x := .slice A16 M1.mem.length d16) rfl
  obtain ⟨hc18x1, gc18x1⟩ := k18''''''.at_ 1 (x := .slice B16 M1.ths.length e16) rfl
  have l18 := k18''''''.lt
  go_wp2_with fail
  refine (eqMoveS _ _ ((mvsF x0 M1)) ((mvsF x0 M1)) _ ho20'''''.rd ho10''''''''''.rd).mono ?_
  rintro e w34 ⟨rfl, hb34⟩
  rw [decide_eq_true rfl]
  clear hc1x0 gc1x0 hc1x1 gc1x1 l1 hc2x0 gc2x0 hc2x1 gc2x1 l2 hc15x0 gc15x0 hc15x1 gc15x1 l15 hc18x0 gc18x0 hc18x1 gc18x1 l18
  have sz35 := hb34.size
  try simp only [World.size_alloc] at sz35
  have hB'''''''''''''''' := hB'''''''''''''''.trans (hb34.mono hB'''''''''''''''.size)
  clear hB'''''''''''''''
  have k1''''''''''''''' := k1''''''''''''''.below hb34 k1''''''''''''''.lt
  clear k1''''''''''''''
  have k2'''''''''''''' := k2'''''''''''''.below hb34 k2'''''''''''''.lt
  clear k2'''''''''''''
  have k15''''''''' := k15''''''''.below hb34 k15''''''''.lt
  clear k15''''''''
  have k18''''''' := k18''''''.below hb34 k18''''''.lt
  clear k18''''''
  have ho10''''''''''' := ho10''''''''''.below hb34
  clear ho10''''''''''
  have hq30'' := hq30'.below hb34
  clear hq30'
  have hq32' := hq32.below hb34
  clear hq32
  have ho20'''''' := ho20'''''.below hb34
  clear ho20'''''
  obtain ⟨hc1x0, gc1x0⟩ := k1'''''''''''''''.at_ 0 (x := .int .i64 x0.c) rfl
  obtain ⟨hc1x1, gc1x1⟩ := k1'''''''''''''''.at_ 1 (x := .slice Aa0 x0.x.length da0) rfl
  have l1 := k1'''''''''''''''.lt
  obtain ⟨hc2x0, gc2x0⟩ := k2''''''''''''''.at_ 0 (x := .slice Aa1 M1.mem.length da1) rfl
  obtain ⟨hc2x1, gc2x1⟩ := k2''''''''''''''.at_ 1 (x := .slice Ba1 M1.ths.length ea1) rfl
  have l2 := k2''''''''''''''.lt
  obtain ⟨hc15x0, gc15x0⟩ := k15'''''''''.at_ 0 (x := .int .i64 x0.c) rfl
  obtain ⟨hc15x1, gc15x1⟩ := k15'''''''''.at_ 1 (x := .slice A13 x0.x.length d13) rfl
  have l15 := k15'''''''''.lt
  obtain ⟨hc18x0, gc18x0⟩ := k18'''''''.at_ 0 (x := .slice A16 M1.mem.length d16) rfl
  obtain ⟨hc18x1, gc18x1⟩ := k18'''''''.at_ 1 (x := .slice B16 M1.ths.length e16) rfl
  have l18 := k18'''''''.lt
  go_wp2_with fail
  refine (markMoveS _ (mvsF x0 M1) bs20 (1) _ ho20'''''' (by omega) (by omega) (by omega)).mono ?_
  rintro e w36 ⟨rfl, hq36, hon36⟩
  clear hc1x0 gc1x0 hc1x1 gc1x1 l1 hc2x0 gc2x0 hc2x1 gc2x1 l2 hc15x0 gc15x0 hc15x1 gc15x1 l15 hc18x0 gc18x0 hc18x1 gc18x1 l18
  have sz37 := hon36.size
  try simp only [World.size_alloc] at sz37
  have hB''''''''''''''''' := hB''''''''''''''''.trans (hon36.below hB''''''''''''''''.size (fun b hb => by have := lo20 b hb; omega))
  clear hB''''''''''''''''
  have k1'''''''''''''''' := k1'''''''''''''''.only hon36 (fun hm => by have := lo20 _ hm; have := hi20 _ hm; omega)
  clear k1'''''''''''''''
  have k2''''''''''''''' := k2''''''''''''''.only hon36 (fun hm => by have := lo20 _ hm; have := hi20 _ hm; omega)
  clear k2''''''''''''''
  have k15'''''''''' := k15'''''''''.only hon36 (fun hm => by have := lo20 _ hm; have := hi20 _ hm; omega)
  clear k15'''''''''
  have k18'''''''' := k18'''''''.only hon36 (fun hm => by have := lo20 _ hm; have := hi20 _ hm; omega)
  clear k18'''''''
  have ho10'''''''''''' := ho10'''''''''''.only hon36 (fun b hb hm => by have := lo20 b hm; have := hi20 b hm; have := lo10 b hb; have := hi10 b hb; omega)
  clear ho10'''''''''''
  have hq30''' := hq30''.only hon36 (fun b hb hm => by have := lo20 b hm; have := hi20 b hm; have := lo13 b hb; have := hi13 b hb; omega)
  clear hq30''
  have hq32'' := hq32'.only hon36 (fun b hb hm => by have := lo20 b hm; have := hi20 b hm; have := lo16 b hb; have := hi16 b hb; omega)
  clear hq32'
  obtain ⟨hc1x0, gc1x0⟩ := k1''''''''''''''''.at_ 0 (x := .int .i64 x0.c) rfl
  obtain ⟨hc1x1, gc1x1⟩ := k1''''''''''''''''.at_ 1 (x := .slice Aa0 x0.x.length da0) rfl
  have l1 := k1''''''''''''''''.lt
  obtain ⟨hc2x0, gc2x0⟩ := k2'''''''''''''''.at_ 0 (x := .slice Aa1 M1.mem.length da1) rfl
  obtain ⟨hc2x1, gc2x1⟩ := k2'''''''''''''''.at_ 1 (x := .slice Ba1 M1.ths.length ea1) rfl
  have l2 := k2'''''''''''''''.lt
  obtain ⟨hc15x0, gc15x0⟩ := k15''''''''''.at_ 0 (x := .int .i64 x0.c) rfl
  obtain ⟨hc15x1, gc15x1⟩ := k15''''''''''.at_ 1 (x := .slice A13 x0.x.length d13) rfl
  have l15 := k15''''''''''.lt
  obtain ⟨hc18x0, gc18x0⟩ := k18''''''''.at_ 0 (x := .slice A16 M1.mem.length d16) rfl
  obtain ⟨hc18x1, gc18x1⟩ := k18''''''''.at_ 1 (x := .slice B16 M1.ths.length e16) rfl
  have l18 := k18''''''''.lt
  go_wp2_with fail
  refine (heldMoveS _ (mvsF x0 M1).length (1) _ hq36.rd (by omega) (by omega) (by omega)).mono ?_
  rintro e w38 ⟨rfl, hb38⟩
  clear hc1x0 gc1x0 hc1x1 gc1x1 l1 hc2x0 gc2x0 hc2x1 gc2x1 l2 hc15x0 gc15x0 hc15x1 gc15x1 l15 hc18x0 gc18x0 hc18x1 gc18x1 l18
  have sz39 := hb38.size
  try simp only [World.size_alloc] at sz39
  have hB'''''''''''''''''' := hB'''''''''''''''''.trans (hb38.mono hB'''''''''''''''''.size)
  clear hB'''''''''''''''''
  have k1''''''''''''''''' := k1''''''''''''''''.below hb38 k1''''''''''''''''.lt
  clear k1''''''''''''''''
  have k2'''''''''''''''' := k2'''''''''''''''.below hb38 k2'''''''''''''''.lt
  clear k2'''''''''''''''
  have k15''''''''''' := k15''''''''''.below hb38 k15''''''''''.lt
  clear k15''''''''''
  have k18''''''''' := k18''''''''.below hb38 k18''''''''.lt
  clear k18''''''''
  have ho10''''''''''''' := ho10''''''''''''.below hb38
  clear ho10''''''''''''
  have hq30'''' := hq30'''.below hb38
  clear hq30'''
  have hq32''' := hq32''.below hb38
  clear hq32''
  have hq36' := hq36.below hb38
  clear hq36
  obtain ⟨hc1x0, gc1x0⟩ := k1'''''''''''''''''.at_ 0 (x := .int .i64 x0.c) rfl
  obtain ⟨hc1x1, gc1x1⟩ := k1'''''''''''''''''.at_ 1 (x := .slice Aa0 x0.x.length da0) rfl
  have l1 := k1'''''''''''''''''.lt
  obtain ⟨hc2x0, gc2x0⟩ := k2''''''''''''''''.at_ 0 (x := .slice Aa1 M1.mem.length da1) rfl
  obtain ⟨hc2x1, gc2x1⟩ := k2''''''''''''''''.at_ 1 (x := .slice Ba1 M1.ths.length ea1) rfl
  have l2 := k2''''''''''''''''.lt
  obtain ⟨hc15x0, gc15x0⟩ := k15'''''''''''.at_ 0 (x := .int .i64 x0.c) rfl
  obtain ⟨hc15x1, gc15x1⟩ := k15'''''''''''.at_ 1 (x := .slice A13 x0.x.length d13) rfl
  have l15 := k15'''''''''''.lt
  obtain ⟨hc18x0, gc18x0⟩ := k18'''''''''.at_ 0 (x := .slice A16 M1.mem.length d16) rfl
  obtain ⟨hc18x1, gc18x1⟩ := k18'''''''''.at_ 1 (x := .slice B16 M1.ths.length e16) rfl
  have l18 := k18'''''''''.lt
  go_wp2_with fail
  clear hc1x0 gc1x0 hc1x1 gc1x1 l1 hc2x0 gc2x0 hc2x1 gc2x1 l2 hc15x0 gc15x0 hc15x1 gc15x1 l15 hc18x0 gc18x0 hc18x1 gc18x1 l18
  obtain ⟨hc1x0, gc1x0⟩ := k1'''''''''''''''''.at_ 0 (x := .int .i64 x0.c) rfl
  obtain ⟨hc1x1, gc1x1⟩ := k1'''''''''''''''''.at_ 1 (x := .slice Aa0 x0.x.length da0) rfl
  have l1 := k1'''''''''''''''''.lt
  obtain ⟨hc2x0, gc2x0⟩ := k2''''''''''''''''.at_ 0 (x := .slice Aa1 M1.mem.length da1) rfl
  obtain ⟨hc2x1, gc2x1⟩ := k2''''''''''''''''.at_ 1 (x := .slice Ba1 M1.ths.length ea1) rfl
  have l2 := k2''''''''''''''''.lt
  obtain ⟨hc15x0, gc15x0⟩ := k15'''''''''''.at_ 0 (x := .int .i64 x0.c) rfl
  obtain ⟨hc15x1, gc15x1⟩ := k15'''''''''''.at_ 1 (x := .slice A13 x0.x.length d13) rfl
  have l15 := k15'''''''''''.lt
  obtain ⟨hc18x0, gc18x0⟩ := k18'''''''''.at_ 0 (x := .slice A16 M1.mem.length d16) rfl
  obtain ⟨hc18x1, gc18x1⟩ := k18'''''''''.at_ 1 (x := .slice B16 M1.ths.length e16) rfl
  have l18 := k18'''''''''.lt
  have HS44 : Hid (∀ W : World, Below w38.heap.size w38 W → Below w38.heap.size w38 W ∧ W.cell? ⟨w.heap.size, 0, none⟩ = some (.int .i64 x0.c) ∧ W.cell? ⟨w.heap.size, 1, none⟩ = some (.slice Aa0 x0.x.length da0) ∧ W.cell? ⟨w.heap.size + 1, 0, none⟩ = some (.slice Aa1 M1.mem.length da1) ∧ W.cell? ⟨w.heap.size + 1, 1, none⟩ = some (.slice Ba1 M1.ths.length ea1)) := Lib.hid fun W hW => ⟨hW, (hW.cell (p := ⟨w.heap.size, 0, none⟩) k1'''''''''''''''''.lt).trans hc1x0, (hW.cell (p := ⟨w.heap.size, 1, none⟩) k1'''''''''''''''''.lt).trans hc1x1, (hW.cell (p := ⟨w.heap.size + 1, 0, none⟩) k2''''''''''''''''.lt).trans hc2x0, (hW.cell (p := ⟨w.heap.size + 1, 1, none⟩) k2''''''''''''''''.lt).trans hc2x1⟩
  have HhB__________________ := Lib.hid hB''''''''''''''''''
  have Hho10_____________ := Lib.hid ho10'''''''''''''
  have Hhq30____ := Lib.hid hq30''''
  have Hhq32___ := Lib.hid hq32'''
  have Hhq36_ := Lib.hid hq36'
  go_region_held3 (fun W => Below w38.heap.size w38 W ∧ W.cell? ⟨w.heap.size, 0, none⟩ = some (.int .i64 x0.c) ∧ W.cell? ⟨w.heap.size, 1, none⟩ = some (.slice Aa0 x0.x.length da0) ∧ W.cell? ⟨w.heap.size + 1, 0, none⟩ = some (.slice Aa1 M1.mem.length da1) ∧ W.cell? ⟨w.heap.size + 1, 1, none⟩ = some (.slice Ba1 M1.ths.length ea1)) (first | (exact HS44.out _ (Below.refl _ _).drew) | (exact HS44.out _ (by assumption)))
    (first
      | (go_at_call_of 14 (Value.agg #[Value.int .i64 x0.c, Value.slice Aa0 x0.x.length da0] : Value); have hS := ‹Below w38.heap.size w38 _ ∧ _›.1; refine (toProg _ x0 _ (HAaP.out.below (HhB__________________.out.trans (hS.mono HhB__________________.out.size))) (by omega)).mono ?_; rintro e w40 ⟨v40x0, bs40, rfl, ho40, lo40, hb40⟩; have hS44x0 := hS.trans (hb40.mono hS.size); clear hS)
      | (go_at_call_of 15 (Value.agg #[Value.slice Aa1 M1.mem.length da1, Value.slice Ba1 M1.ths.length ea1] : Value); have hS := ‹Below w38.heap.size w38 _ ∧ _›.1; refine (toMachine _ _ M1 _ (HAaM.out.below (HhB__________________.out.trans (hS.mono HhB__________________.out.size))) (by omega)).mono ?_; rintro e w41 ⟨v41x0, v41x1, bs41, rfl, ho41, lo41, hb41⟩; have ho40 := ho40.below hb41; have hS44x1 := hS.trans (hb41.mono hS.size); clear hS)
      | (go_at_call 28; have hS := ‹Below w38.heap.size w38 _ ∧ _›.1; refine (impl_Moves _ _ _ x0 M1 _ ho40.rd ho41.rd).mono ?_; rintro e w43 ⟨v43x0, bs43, rfl, ho43, lo43, hb43⟩; have ho40 := ho40.below hb43; have ho41 := ho41.below hb43; have hS44x2 := hS.trans (hb43.mono hS.size); clear hS))
  have hS44 := ‹Below w38.heap.size w38 _ ∧ _›.1
  clear HS44 HhB__________________ Hho10_____________ Hhq30____ Hhq32___ Hhq36_
  clear hc1x0 gc1x0 hc1x1 gc1x1 l1 hc2x0 gc2x0 hc2x1 gc2x1 l2 hc15x0 gc15x0 hc15x1 gc15x1 l15 hc18x0 gc18x0 hc18x1 gc18x1 l18
  have sz45 := hS44.size
  try simp only [World.size_alloc] at sz45
  have hB''''''''''''''''''' := hB''''''''''''''''''.trans (hS44.mono hB''''''''''''''''''.size)
  clear hB''''''''''''''''''
  have k1'''''''''''''''''' := k1'''''''''''''''''.below hS44 k1'''''''''''''''''.lt
  clear k1'''''''''''''''''
  have k2''''''''''''''''' := k2''''''''''''''''.below hS44 k2''''''''''''''''.lt
  clear k2''''''''''''''''
  have k15'''''''''''' := k15'''''''''''.below hS44 k15'''''''''''.lt
  clear k15'''''''''''
  have k18'''''''''' := k18'''''''''.below hS44 k18'''''''''.lt
  clear k18'''''''''
  have ho10'''''''''''''' := ho10'''''''''''''.below hS44
  clear ho10'''''''''''''
  have hq30''''' := hq30''''.below hS44
  clear hq30''''
  have hq32'''' := hq32'''.below hS44
  clear hq32'''
  have hq36'' := hq36'.below hS44
  clear hq36'
  clear hS44
  clear ho40
  clear ho41
  have hi43 := ho43.lt
  try simp only [World.size_alloc] at lo43
  obtain ⟨A43, d43, rfl, -, -⟩ := ho43.slice
  obtain ⟨hc1x0, gc1x0⟩ := k1''''''''''''''''''.at_ 0 (x := .int .i64 x0.c) rfl
  obtain ⟨hc1x1, gc1x1⟩ := k1''''''''''''''''''.at_ 1 (x := .slice Aa0 x0.x.length da0) rfl
  have l1 := k1''''''''''''''''''.lt
  obtain ⟨hc2x0, gc2x0⟩ := k2'''''''''''''''''.at_ 0 (x := .slice Aa1 M1.mem.length da1) rfl
  obtain ⟨hc2x1, gc2x1⟩ := k2'''''''''''''''''.at_ 1 (x := .slice Ba1 M1.ths.length ea1) rfl
  have l2 := k2'''''''''''''''''.lt
  obtain ⟨hc15x0, gc15x0⟩ := k15''''''''''''.at_ 0 (x := .int .i64 x0.c) rfl
  obtain ⟨hc15x1, gc15x1⟩ := k15''''''''''''.at_ 1 (x := .slice A13 x0.x.length d13) rfl
  have l15 := k15''''''''''''.lt
  obtain ⟨hc18x0, gc18x0⟩ := k18''''''''''.at_ 0 (x := .slice A16 M1.mem.length d16) rfl
  obtain ⟨hc18x1, gc18x1⟩ := k18''''''''''.at_ 1 (x := .slice B16 M1.ths.length e16) rfl
  have l18 := k18''''''''''.lt
  go_wp2_with fail
  refine (eqMoveS _ _ ((mvsF x0 M1)) ((mvsF x0 M1)) _ ho43.rd ho10''''''''''''''.rd).mono ?_
  rintro e w46 ⟨rfl, hb46⟩
  rw [decide_eq_true rfl]
  clear hc1x0 gc1x0 hc1x1 gc1x1 l1 hc2x0 gc2x0 hc2x1 gc2x1 l2 hc15x0 gc15x0 hc15x1 gc15x1 l15 hc18x0 gc18x0 hc18x1 gc18x1 l18
  have sz47 := hb46.size
  try simp only [World.size_alloc] at sz47
  have hB'''''''''''''''''''' := hB'''''''''''''''''''.trans (hb46.mono hB'''''''''''''''''''.size)
  clear hB'''''''''''''''''''
  have k1''''''''''''''''''' := k1''''''''''''''''''.below hb46 k1''''''''''''''''''.lt
  clear k1''''''''''''''''''
  have k2'''''''''''''''''' := k2'''''''''''''''''.below hb46 k2'''''''''''''''''.lt
  clear k2'''''''''''''''''
  have k15''''''''''''' := k15''''''''''''.below hb46 k15''''''''''''.lt
  clear k15''''''''''''
  have k18''''''''''' := k18''''''''''.below hb46 k18''''''''''.lt
  clear k18''''''''''
  have ho10''''''''''''''' := ho10''''''''''''''.below hb46
  clear ho10''''''''''''''
  have hq30'''''' := hq30'''''.below hb46
  clear hq30'''''
  have hq32''''' := hq32''''.below hb46
  clear hq32''''
  have hq36''' := hq36''.below hb46
  clear hq36''
  have ho43' := ho43.below hb46
  clear ho43
  obtain ⟨hc1x0, gc1x0⟩ := k1'''''''''''''''''''.at_ 0 (x := .int .i64 x0.c) rfl
  obtain ⟨hc1x1, gc1x1⟩ := k1'''''''''''''''''''.at_ 1 (x := .slice Aa0 x0.x.length da0) rfl
  have l1 := k1'''''''''''''''''''.lt
  obtain ⟨hc2x0, gc2x0⟩ := k2''''''''''''''''''.at_ 0 (x := .slice Aa1 M1.mem.length da1) rfl
  obtain ⟨hc2x1, gc2x1⟩ := k2''''''''''''''''''.at_ 1 (x := .slice Ba1 M1.ths.length ea1) rfl
  have l2 := k2''''''''''''''''''.lt
  obtain ⟨hc15x0, gc15x0⟩ := k15'''''''''''''.at_ 0 (x := .int .i64 x0.c) rfl
  obtain ⟨hc15x1, gc15x1⟩ := k15'''''''''''''.at_ 1 (x := .slice A13 x0.x.length d13) rfl
  have l15 := k15'''''''''''''.lt
  obtain ⟨hc18x0, gc18x0⟩ := k18'''''''''''.at_ 0 (x := .slice A16 M1.mem.length d16) rfl
  obtain ⟨hc18x1, gc18x1⟩ := k18'''''''''''.at_ 1 (x := .slice B16 M1.ths.length e16) rfl
  have l18 := k18'''''''''''.lt
  go_wp2_with fail
  refine (heldMoveS _ (mvsF x0 M1).length (1) _ hq36'''.rd (by omega) (by omega) (by omega)).mono ?_
  rintro e w48 ⟨rfl, hb48⟩
  clear hc1x0 gc1x0 hc1x1 gc1x1 l1 hc2x0 gc2x0 hc2x1 gc2x1 l2 hc15x0 gc15x0 hc15x1 gc15x1 l15 hc18x0 gc18x0 hc18x1 gc18x1 l18
  have sz49 := hb48.size
  try simp only [World.size_alloc] at sz49
  have hB''''''''''''''''''''' := hB''''''''''''''''''''.trans (hb48.mono hB''''''''''''''''''''.size)
  clear hB''''''''''''''''''''
  have k1'''''''''''''''''''' := k1'''''''''''''''''''.below hb48 k1'''''''''''''''''''.lt
  clear k1'''''''''''''''''''
  have k2''''''''''''''''''' := k2''''''''''''''''''.below hb48 k2''''''''''''''''''.lt
  clear k2''''''''''''''''''
  have k15'''''''''''''' := k15'''''''''''''.below hb48 k15'''''''''''''.lt
  clear k15'''''''''''''
  have k18'''''''''''' := k18'''''''''''.below hb48 k18'''''''''''.lt
  clear k18'''''''''''
  have ho10'''''''''''''''' := ho10'''''''''''''''.below hb48
  clear ho10'''''''''''''''
  have hq30''''''' := hq30''''''.below hb48
  clear hq30''''''
  have hq32'''''' := hq32'''''.below hb48
  clear hq32'''''
  have hq36'''' := hq36'''.below hb48
  clear hq36'''
  have ho43'' := ho43'.below hb48
  clear ho43'
  obtain ⟨hc1x0, gc1x0⟩ := k1''''''''''''''''''''.at_ 0 (x := .int .i64 x0.c) rfl
  obtain ⟨hc1x1, gc1x1⟩ := k1''''''''''''''''''''.at_ 1 (x := .slice Aa0 x0.x.length da0) rfl
  have l1 := k1''''''''''''''''''''.lt
  obtain ⟨hc2x0, gc2x0⟩ := k2'''''''''''''''''''.at_ 0 (x := .slice Aa1 M1.mem.length da1) rfl
  obtain ⟨hc2x1, gc2x1⟩ := k2'''''''''''''''''''.at_ 1 (x := .slice Ba1 M1.ths.length ea1) rfl
  have l2 := k2'''''''''''''''''''.lt
  obtain ⟨hc15x0, gc15x0⟩ := k15''''''''''''''.at_ 0 (x := .int .i64 x0.c) rfl
  obtain ⟨hc15x1, gc15x1⟩ := k15''''''''''''''.at_ 1 (x := .slice A13 x0.x.length d13) rfl
  have l15 := k15''''''''''''''.lt
  obtain ⟨hc18x0, gc18x0⟩ := k18''''''''''''.at_ 0 (x := .slice A16 M1.mem.length d16) rfl
  obtain ⟨hc18x1, gc18x1⟩ := k18''''''''''''.at_ 1 (x := .slice B16 M1.ths.length e16) rfl
  have l18 := k18''''''''''''.lt
  go_wp2_with fail
  go_ret
  exact ⟨rfl, hB'''''''''''''''''''''⟩
set_option maxRecDepth 100000 in
theorem lift_Moves (os : Os) (started : os.Started) (H : Type) (enc : TypeId × Value → H) :
    ReturnsInHanded {} Try.checked os 6 .any (Rows.fnExactMovesSpec.pre6 enc Try.prog Try.f6 Rows.fnExactMovesRow.domain false) (Rows.fnExactMovesSpec.post enc Try.prog Try.f6 false true false false) := by
  refine returnsInHanded_of_change (C := Try.checked) (by kernel_rfl) started (by kernel_rfl) Try.func6
    (ChangeSpec.witness6 (enc := enc) (C := Try.checked) false ⟨#[], #[.agg #[.int .i64 0, .slice none 0 0], .agg #[.slice none 0 0, .slice none 0 0]], []⟩ 8 (by kernel_rfl) (by kernel_rfl) (by kernel_rfl) (by kernel_rfl)) ?_
  intro W base args ds gs before hval0 hW hcnd _
  have hval : ∀ (j : Nat) t v, Try.f6.params[j]? = some t → args[j]? = some v → Value.okWide Try.prog W .any base t v := hval0
  have hW' := hW
  obtain ⟨p, q, hA0, hV, rfl, hfz, hnd⟩ := hW
  have hA : DataW.TrodAll enc Try.prog W 0 (fun _ => true) true Try.f6.params.toList args.toList ds p := hA0
  rw [Try.params6] at hA hval
  obtain ⟨v0, vs0, d0, ds0, p0, q0, hargs, rfl, rfl, h0, r0⟩ := trodAll_cons hA
  obtain ⟨v1, vs1, d1, ds1, p1, q1, rfl, rfl, rfl, h1, r1⟩ := trodAll_cons r0
  obtain ⟨rfl, rfl, rfl⟩ := trodAll_nil r1
  obtain rfl : args = #[v0, v1] := by cases args; simp_all
  obtain ⟨rfl, rfl⟩ := trodVars_none hV
  obtain ⟨c0, x0, rfl, hR0⟩ := read_prog Try.underlying24 ⟨rfl, rfl⟩ ⟨rfl, rfl⟩ (by decide +kernel) (by kernel_rfl) Try.underlying3 Try.underlying22 (by kernel_rfl) Try.underlying134 Try.underlying181 (by kernel_rfl) ⟨rfl, rfl, rfl, rfl⟩ (by decide +kernel) ⟨Try.underlying3, Try.underlying3, Try.underlying3, Try.underlying3⟩ (hval 0 _ v0 rfl rfl) h0
  obtain ⟨c1, u1, M1, rfl, hR1, hI1⟩ := read_machine Try.underlying30 (by kernel_rfl) ⟨rfl, rfl⟩ (by decide +kernel) Try.underlying27 rfl (by kernel_rfl) Try.underlying25 Try.underlying3 (by kernel_rfl) Try.underlying28 thTypeL (hval 1 _ v1 rfl rfl) h1
  refine (walk_Moves c0 x0 _ _ M1 W hR0 hR1).mono fun e W' ⟨he, hb⟩ => ?_
  subst he
  exact ⟨_, rfl, post_law (by kernel_rfl) rfl rfl (by kernel_rfl) Try.underlying4 (of_decide_eq_true (by kernel_rfl)) hW' hb⟩
theorem FnExactMoves_holds : Rows.FnExactMovesSaid :=
  OpenClaim.holds_of_wide 6 Try.f6 rfl rfl rfl rfl rfl rfl rfl ⟨rfl, rfl, rfl, rfl, rfl⟩ rfl rfl rfl rfl rfl (by kernel_rfl) Try.func6 (by kernel_rfl)
    (of_decide_eq_true (by kernel_rfl)) (by unfold Func.isWrapper; first | (rw [if_pos (by decide +kernel)]; kernel_rfl) | (rw [if_neg (by decide +kernel)]; exact ⟨rfl, rfl⟩))
    (fun os started H enc _ => lift_Moves os started H enc)
#print axioms FnExactMoves_holds
end Go.Proofs.Ytiflooopfpcelaa
