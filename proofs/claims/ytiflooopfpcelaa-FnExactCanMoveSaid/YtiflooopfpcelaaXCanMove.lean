/- FnExactCanMove answers true at every input: CanMove answers as its model does, leaves its arguments alone and owns its answer. Conditions: none. -/
import Derived.Test.YtiflooopfpcelaaLaw
import Derived.Test.YtiflooopfpcelaaLaw4
import Derived.Test.YtiflooopfpcelaaM6
import Derived.Test.YtiflooopfpcelaaM8
import Derived.Test.YtiflooopfpcelaaC8
import Derived.Deep.RegionHeld3
namespace Go.Proofs.Ytiflooopfpcelaa
set_option maxRecDepth 20000
set_option linter.unusedSimpArgs false
set_option linter.unusedVariables false
open Go.ChangeShapes Go.WideShapes Go.ChangeAt Go.RowKit
set_option linter.unusedVariables false
set_option maxHeartbeats 4000000 in
theorem walk_CanMove (v0 : Value) (x0 : Pr) (v1 u1 : Value) (M1 : Ma) (m2 : Mv) (w : World) (hA0 : RdASS w v0 x0.x) (hA1 : RdAMa w v1 u1 M1) :
    Calls Try.prog 5 #[.agg #[.int .i64 x0.c, v0], .agg #[v1, u1], .agg #[.int .i64 m2.t, .bool m2.d]] w fun e w' => e = .returned (.bool true) ∧ Below w.heap.size w w' := by
  obtain ⟨-, ⟨Aa0, da0, rfl, -, -, -, -⟩, -⟩ := id hA0
  have HAaP := Lib.hid hA0
  clear hA0
  obtain ⟨Aa1, da1, Ba1, ea1, rfl, rfl⟩ := hA1.slices
  have HAaM := Lib.hid hA1
  clear hA1
  have hB := Below.refl w.heap.size w
  go_enter Try.func5, Try.ntmps5
  go_wp2_with fail
  have hB' := hB.alloc hB.size (.cells #[.int .i64 x0.c, .slice Aa0 x0.x.length da0] 24)
  clear hB
  have k1 := Bk.new w #[.int .i64 x0.c, .slice Aa0 x0.x.length da0] 24
  have k1' := k1.alloc (.cells #[.slice Aa1 M1.mem.length da1, .slice Ba1 M1.ths.length ea1] 30)
  clear k1
  have hB'' := hB'.alloc hB'.size (.cells #[.slice Aa1 M1.mem.length da1, .slice Ba1 M1.ths.length ea1] 30)
  clear hB'
  have k2 := Bk.new (w.alloc (.cells #[.int .i64 x0.c, .slice Aa0 x0.x.length da0] 24)) #[.slice Aa1 M1.mem.length da1, .slice Ba1 M1.ths.length ea1] 30
  simp only [World.size_alloc] at k2
  have k1'' := k1'.alloc (.cells #[.int .i64 m2.t, .bool m2.d] 52)
  clear k1'
  have k2' := k2.alloc (.cells #[.int .i64 m2.t, .bool m2.d] 52)
  clear k2
  have hB''' := hB''.alloc hB''.size (.cells #[.int .i64 m2.t, .bool m2.d] 52)
  clear hB''
  have k3 := Bk.new ((w.alloc (.cells #[.int .i64 x0.c, .slice Aa0 x0.x.length da0] 24)).alloc (.cells #[.slice Aa1 M1.mem.length da1, .slice Ba1 M1.ths.length ea1] 30)) #[.int .i64 m2.t, .bool m2.d] 52
  simp only [World.size_alloc] at k3
  refine (szProg _ x0 (1048576) _ (HAaP.out.below hB''') (by omega) (by omega)).mono ?_
  rintro e w4 ⟨rfl, hb4⟩
  have sz5 := hb4.size
  try simp only [World.size_alloc] at sz5
  have hB'''' := hB'''.trans (hb4.mono hB'''.size)
  clear hB'''
  have k1''' := k1''.below hb4 k1''.lt
  clear k1''
  have k2'' := k2'.below hb4 k2'.lt
  clear k2'
  have k3' := k3.below hb4 k3.lt
  clear k3
  by_cases hn4 : (1048576 : Int) - (totSS x0.x) < 0
  · rw [show szF (totSS x0.x) (1048576) = -1 by unfold szF; rw [if_pos hn4]]
    go_wp2_with fail
    go_ret
    exact ⟨rfl, hB''''⟩
  rw [show szF (totSS x0.x) (1048576) = 1048576 - (totSS x0.x) by unfold szF; rw [if_neg hn4]]
  obtain ⟨hc1x0, gc1x0⟩ := k1'''.at_ 0 (x := .int .i64 x0.c) rfl
  obtain ⟨hc1x1, gc1x1⟩ := k1'''.at_ 1 (x := .slice Aa0 x0.x.length da0) rfl
  have l1 := k1'''.lt
  obtain ⟨hc2x0, gc2x0⟩ := k2''.at_ 0 (x := .slice Aa1 M1.mem.length da1) rfl
  obtain ⟨hc2x1, gc2x1⟩ := k2''.at_ 1 (x := .slice Ba1 M1.ths.length ea1) rfl
  have l2 := k2''.lt
  obtain ⟨hc3x0, gc3x0⟩ := k3'.at_ 0 (x := .int .i64 m2.t) rfl
  obtain ⟨hc3x1, gc3x1⟩ := k3'.at_ 1 (x := .bool m2.d) rfl
  have l3 := k3'.lt
  go_wp2_with fail
  refine (szMachine _ _ M1 (1048576 - (totSS x0.x)) _ (HAaM.out.below hB'''') (by omega) (by omega)).mono ?_
  rintro e w6 ⟨rfl, hb6⟩
  clear hc1x0 gc1x0 hc1x1 gc1x1 l1 hc2x0 gc2x0 hc2x1 gc2x1 l2 hc3x0 gc3x0 hc3x1 gc3x1 l3
  have sz7 := hb6.size
  try simp only [World.size_alloc] at sz7
  have hB''''' := hB''''.trans (hb6.mono hB''''.size)
  clear hB''''
  have k1'''' := k1'''.below hb6 k1'''.lt
  clear k1'''
  have k2''' := k2''.below hb6 k2''.lt
  clear k2''
  have k3'' := k3'.below hb6 k3'.lt
  clear k3'
  by_cases hn6 : (1048576 - (totSS x0.x) : Int) - (totMa M1) < 0
  · rw [show szF (totMa M1) (1048576 - (totSS x0.x)) = -1 by unfold szF; rw [if_pos hn6]]
    go_wp2_with fail
    go_ret
    exact ⟨rfl, hB'''''⟩
  rw [show szF (totMa M1) (1048576 - (totSS x0.x)) = 1048576 - (totSS x0.x) - (totMa M1) by unfold szF; rw [if_neg hn6]]
  obtain ⟨hc1x0, gc1x0⟩ := k1''''.at_ 0 (x := .int .i64 x0.c) rfl
  obtain ⟨hc1x1, gc1x1⟩ := k1''''.at_ 1 (x := .slice Aa0 x0.x.length da0) rfl
  have l1 := k1''''.lt
  obtain ⟨hc2x0, gc2x0⟩ := k2'''.at_ 0 (x := .slice Aa1 M1.mem.length da1) rfl
  obtain ⟨hc2x1, gc2x1⟩ := k2'''.at_ 1 (x := .slice Ba1 M1.ths.length ea1) rfl
  have l2 := k2'''.lt
  obtain ⟨hc3x0, gc3x0⟩ := k3''.at_ 0 (x := .int .i64 m2.t) rfl
  obtain ⟨hc3x1, gc3x1⟩ := k3''.at_ 1 (x := .bool m2.d) rfl
  have l3 := k3''.lt
  go_wp2_with fail
  clear hc1x0 gc1x0 hc1x1 gc1x1 l1 hc2x0 gc2x0 hc2x1 gc2x1 l2 hc3x0 gc3x0 hc3x1 gc3x1 l3
  obtain ⟨hc1x0, gc1x0⟩ := k1''''.at_ 0 (x := .int .i64 x0.c) rfl
  obtain ⟨hc1x1, gc1x1⟩ := k1''''.at_ 1 (x := .slice Aa0 x0.x.length da0) rfl
  have l1 := k1''''.lt
  obtain ⟨hc2x0, gc2x0⟩ := k2'''.at_ 0 (x := .slice Aa1 M1.mem.length da1) rfl
  obtain ⟨hc2x1, gc2x1⟩ := k2'''.at_ 1 (x := .slice Ba1 M1.ths.length ea1) rfl
  have l2 := k2'''.lt
  obtain ⟨hc3x0, gc3x0⟩ := k3''.at_ 0 (x := .int .i64 m2.t) rfl
  obtain ⟨hc3x1, gc3x1⟩ := k3''.at_ 1 (x := .bool m2.d) rfl
  have l3 := k3''.lt
  have HS12 : Hid (∀ W : World, Below w6.heap.size w6 W → Below w6.heap.size w6 W ∧ W.cell? ⟨w.heap.size, 0, none⟩ = some (.int .i64 x0.c) ∧ W.cell? ⟨w.heap.size, 1, none⟩ = some (.slice Aa0 x0.x.length da0) ∧ W.cell? ⟨w.heap.size + 1, 0, none⟩ = some (.slice Aa1 M1.mem.length da1) ∧ W.cell? ⟨w.heap.size + 1, 1, none⟩ = some (.slice Ba1 M1.ths.length ea1) ∧ W.cell? ⟨w.heap.size + 1 + 1, 0, none⟩ = some (.int .i64 m2.t) ∧ W.cell? ⟨w.heap.size + 1 + 1, 1, none⟩ = some (.bool m2.d)) := Lib.hid fun W hW => ⟨hW, (hW.cell (p := ⟨w.heap.size, 0, none⟩) k1''''.lt).trans hc1x0, (hW.cell (p := ⟨w.heap.size, 1, none⟩) k1''''.lt).trans hc1x1, (hW.cell (p := ⟨w.heap.size + 1, 0, none⟩) k2'''.lt).trans hc2x0, (hW.cell (p := ⟨w.heap.size + 1, 1, none⟩) k2'''.lt).trans hc2x1, (hW.cell (p := ⟨w.heap.size + 1 + 1, 0, none⟩) k3''.lt).trans hc3x0, (hW.cell (p := ⟨w.heap.size + 1 + 1, 1, none⟩) k3''.lt).trans hc3x1⟩
  have HhB_____ := Lib.hid hB'''''
  go_region_held3 (fun W => Below w6.heap.size w6 W ∧ W.cell? ⟨w.heap.size, 0, none⟩ = some (.int .i64 x0.c) ∧ W.cell? ⟨w.heap.size, 1, none⟩ = some (.slice Aa0 x0.x.length da0) ∧ W.cell? ⟨w.heap.size + 1, 0, none⟩ = some (.slice Aa1 M1.mem.length da1) ∧ W.cell? ⟨w.heap.size + 1, 1, none⟩ = some (.slice Ba1 M1.ths.length ea1) ∧ W.cell? ⟨w.heap.size + 1 + 1, 0, none⟩ = some (.int .i64 m2.t) ∧ W.cell? ⟨w.heap.size + 1 + 1, 1, none⟩ = some (.bool m2.d)) (first | (exact HS12.out _ (Below.refl _ _).drew) | (exact HS12.out _ (by assumption)))
    (first
      | (go_at_call_of 14 (Value.agg #[Value.int .i64 x0.c, Value.slice Aa0 x0.x.length da0] : Value); have hS := ‹Below w6.heap.size w6 _ ∧ _›.1; refine (toProg _ x0 _ (HAaP.out.below (HhB_____.out.trans (hS.mono HhB_____.out.size))) (by omega)).mono ?_; rintro e w8 ⟨v8x0, bs8, rfl, ho8, lo8, hb8⟩; have hS12x0 := hS.trans (hb8.mono hS.size); clear hS)
      | (go_at_call_of 15 (Value.agg #[Value.slice Aa1 M1.mem.length da1, Value.slice Ba1 M1.ths.length ea1] : Value); have hS := ‹Below w6.heap.size w6 _ ∧ _›.1; refine (toMachine _ _ M1 _ (HAaM.out.below (HhB_____.out.trans (hS.mono HhB_____.out.size))) (by omega)).mono ?_; rintro e w9 ⟨v9x0, v9x1, bs9, rfl, ho9, lo9, hb9⟩; have ho8 := ho8.below hb9; have hS12x1 := hS.trans (hb9.mono hS.size); clear hS)
      | (go_at_call_of 25 (Value.agg #[Value.int .i64 m2.t, .bool m2.d] : Value); have hS := ‹Below w6.heap.size w6 _ ∧ _›.1; refine (toMove m2 _).mono ?_; rintro e w10 ⟨rfl, hb10⟩; have ho8 := ho8.below hb10; have ho9 := ho9.below hb10; have hS12x2 := hS.trans (hb10.mono hS.size); clear hS)
      | (go_at_call 24; have hS := ‹Below w6.heap.size w6 _ ∧ _›.1; refine (spec_CanMove _ _ _ x0 M1 m2 _ ho8.rd ho9.rd).mono ?_; rintro e w11 ⟨rfl, hb11⟩; have ho8 := ho8.below hb11; have ho9 := ho9.below hb11; have hS12x3 := hS.trans (hb11.mono hS.size); clear hS))
  have hS12 := ‹Below w6.heap.size w6 _ ∧ _›.1
  clear HS12 HhB_____
  clear hc1x0 gc1x0 hc1x1 gc1x1 l1 hc2x0 gc2x0 hc2x1 gc2x1 l2 hc3x0 gc3x0 hc3x1 gc3x1 l3
  have sz13 := hS12.size
  try simp only [World.size_alloc] at sz13
  have hB'''''' := hB'''''.trans (hS12.mono hB'''''.size)
  clear hB'''''
  have k1''''' := k1''''.below hS12 k1''''.lt
  clear k1''''
  have k2'''' := k2'''.below hS12 k2'''.lt
  clear k2'''
  have k3''' := k3''.below hS12 k3''.lt
  clear k3''
  clear hS12
  clear ho8
  clear ho9
  obtain ⟨hc1x0, gc1x0⟩ := k1'''''.at_ 0 (x := .int .i64 x0.c) rfl
  obtain ⟨hc1x1, gc1x1⟩ := k1'''''.at_ 1 (x := .slice Aa0 x0.x.length da0) rfl
  have l1 := k1'''''.lt
  obtain ⟨hc2x0, gc2x0⟩ := k2''''.at_ 0 (x := .slice Aa1 M1.mem.length da1) rfl
  obtain ⟨hc2x1, gc2x1⟩ := k2''''.at_ 1 (x := .slice Ba1 M1.ths.length ea1) rfl
  have l2 := k2''''.lt
  obtain ⟨hc3x0, gc3x0⟩ := k3'''.at_ 0 (x := .int .i64 m2.t) rfl
  obtain ⟨hc3x1, gc3x1⟩ := k3'''.at_ 1 (x := .bool m2.d) rfl
  have l3 := k3'''.lt
  go_wp2_with fail
  refine (toProg _ x0 _ (HAaP.out.below hB'''''') (by omega)).mono ?_
  rintro e w14 ⟨v14x0, bs14, rfl, ho14, lo14, hb14⟩
  clear hc1x0 gc1x0 hc1x1 gc1x1 l1 hc2x0 gc2x0 hc2x1 gc2x1 l2 hc3x0 gc3x0 hc3x1 gc3x1 l3
  have sz15 := hb14.size
  try simp only [World.size_alloc] at sz15
  have hB''''''' := hB''''''.trans (hb14.mono hB''''''.size)
  clear hB''''''
  have k1'''''' := k1'''''.below hb14 k1'''''.lt
  clear k1'''''
  have k2''''' := k2''''.below hb14 k2''''.lt
  clear k2''''
  have k3'''' := k3'''.below hb14 k3'''.lt
  clear k3'''
  have hi14 := ho14.lt
  try simp only [World.size_alloc] at lo14
  obtain ⟨A14, d14, rfl, -, -⟩ := ho14.slice
  obtain ⟨hc1x0, gc1x0⟩ := k1''''''.at_ 0 (x := .int .i64 x0.c) rfl
  obtain ⟨hc1x1, gc1x1⟩ := k1''''''.at_ 1 (x := .slice Aa0 x0.x.length da0) rfl
  have l1 := k1''''''.lt
  obtain ⟨hc2x0, gc2x0⟩ := k2'''''.at_ 0 (x := .slice Aa1 M1.mem.length da1) rfl
  obtain ⟨hc2x1, gc2x1⟩ := k2'''''.at_ 1 (x := .slice Ba1 M1.ths.length ea1) rfl
  have l2 := k2'''''.lt
  obtain ⟨hc3x0, gc3x0⟩ := k3''''.at_ 0 (x := .int .i64 m2.t) rfl
  obtain ⟨hc3x1, gc3x1⟩ := k3''''.at_ 1 (x := .bool m2.d) rfl
  have l3 := k3''''.lt
  go_wp2_with fail
  clear hc1x0 gc1x0 hc1x1 gc1x1 l1 hc2x0 gc2x0 hc2x1 gc2x1 l2 hc3x0 gc3x0 hc3x1 gc3x1 l3
  have k1''''''' := k1''''''.alloc (.cells #[.int .i64 x0.c, .slice A14 x0.x.length d14] 36)
  clear k1''''''
  have k2'''''' := k2'''''.alloc (.cells #[.int .i64 x0.c, .slice A14 x0.x.length d14] 36)
  clear k2'''''
  have k3''''' := k3''''.alloc (.cells #[.int .i64 x0.c, .slice A14 x0.x.length d14] 36)
  clear k3''''
  have ho14' := ho14.below ((Below.refl _ _).alloc (Nat.le_refl _) (.cells #[.int .i64 x0.c, .slice A14 x0.x.length d14] 36))
  clear ho14
  have hB'''''''' := hB'''''''.alloc hB'''''''.size (.cells #[.int .i64 x0.c, .slice A14 x0.x.length d14] 36)
  clear hB'''''''
  have k16 := Bk.new w14 #[.int .i64 x0.c, .slice A14 x0.x.length d14] 36
  refine (toMachine _ _ M1 _ (HAaM.out.below hB'''''''') (by omega)).mono ?_
  rintro e w17 ⟨v17x0, v17x1, bs17, rfl, ho17, lo17, hb17⟩
  have sz18 := hb17.size
  try simp only [World.size_alloc] at sz18
  have hB''''''''' := hB''''''''.trans (hb17.mono hB''''''''.size)
  clear hB''''''''
  have k1'''''''' := k1'''''''.below hb17 k1'''''''.lt
  clear k1'''''''
  have k2''''''' := k2''''''.below hb17 k2''''''.lt
  clear k2''''''
  have k3'''''' := k3'''''.below hb17 k3'''''.lt
  clear k3'''''
  have k16' := k16.below hb17 k16.lt
  clear k16
  have ho14'' := ho14'.below hb17
  clear ho14'
  have hi17 := ho17.lt
  try simp only [World.size_alloc] at lo17
  obtain ⟨A17, d17, B17, e17, rfl, rfl⟩ := ho17.slices
  obtain ⟨hc1x0, gc1x0⟩ := k1''''''''.at_ 0 (x := .int .i64 x0.c) rfl
  obtain ⟨hc1x1, gc1x1⟩ := k1''''''''.at_ 1 (x := .slice Aa0 x0.x.length da0) rfl
  have l1 := k1''''''''.lt
  obtain ⟨hc2x0, gc2x0⟩ := k2'''''''.at_ 0 (x := .slice Aa1 M1.mem.length da1) rfl
  obtain ⟨hc2x1, gc2x1⟩ := k2'''''''.at_ 1 (x := .slice Ba1 M1.ths.length ea1) rfl
  have l2 := k2'''''''.lt
  obtain ⟨hc3x0, gc3x0⟩ := k3''''''.at_ 0 (x := .int .i64 m2.t) rfl
  obtain ⟨hc3x1, gc3x1⟩ := k3''''''.at_ 1 (x := .bool m2.d) rfl
  have l3 := k3''''''.lt
  obtain ⟨hc16x0, gc16x0⟩ := k16'.at_ 0 (x := .int .i64 x0.c) rfl
  obtain ⟨hc16x1, gc16x1⟩ := k16'.at_ 1 (x := .slice A14 x0.x.length d14) rfl
  have l16 := k16'.lt
  go_wp2_with fail
  clear hc1x0 gc1x0 hc1x1 gc1x1 l1 hc2x0 gc2x0 hc2x1 gc2x1 l2 hc3x0 gc3x0 hc3x1 gc3x1 l3 hc16x0 gc16x0 hc16x1 gc16x1 l16
  have k1''''''''' := k1''''''''.alloc (.cells #[.slice A17 M1.mem.length d17, .slice B17 M1.ths.length e17] 41)
  clear k1''''''''
  have k2'''''''' := k2'''''''.alloc (.cells #[.slice A17 M1.mem.length d17, .slice B17 M1.ths.length e17] 41)
  clear k2'''''''
  have k3''''''' := k3''''''.alloc (.cells #[.slice A17 M1.mem.length d17, .slice B17 M1.ths.length e17] 41)
  clear k3''''''
  have k16'' := k16'.alloc (.cells #[.slice A17 M1.mem.length d17, .slice B17 M1.ths.length e17] 41)
  clear k16'
  have ho14''' := ho14''.below ((Below.refl _ _).alloc (Nat.le_refl _) (.cells #[.slice A17 M1.mem.length d17, .slice B17 M1.ths.length e17] 41))
  clear ho14''
  have ho17' := ho17.below ((Below.refl _ _).alloc (Nat.le_refl _) (.cells #[.slice A17 M1.mem.length d17, .slice B17 M1.ths.length e17] 41))
  clear ho17
  have hB'''''''''' := hB'''''''''.alloc hB'''''''''.size (.cells #[.slice A17 M1.mem.length d17, .slice B17 M1.ths.length e17] 41)
  clear hB'''''''''
  have k19 := Bk.new w17 #[.slice A17 M1.mem.length d17, .slice B17 M1.ths.length e17] 41
  obtain ⟨wq22, hwq22⟩ : ∃ wq, wq = (w17.alloc (.cells #[.slice A17 M1.mem.length d17, .slice B17 M1.ths.length e17] 41)) := ⟨_, rfl⟩
  rw [← hwq22] at hB'''''''''' k1''''''''' k2'''''''' k3''''''' k16'' k19 ho14''' ho17' ⊢
  clear hwq22
  obtain ⟨hc1x0, gc1x0⟩ := k1'''''''''.at_ 0 (x := .int .i64 x0.c) rfl
  obtain ⟨hc1x1, gc1x1⟩ := k1'''''''''.at_ 1 (x := .slice Aa0 x0.x.length da0) rfl
  have l1 := k1'''''''''.lt
  obtain ⟨hc2x0, gc2x0⟩ := k2''''''''.at_ 0 (x := .slice Aa1 M1.mem.length da1) rfl
  obtain ⟨hc2x1, gc2x1⟩ := k2''''''''.at_ 1 (x := .slice Ba1 M1.ths.length ea1) rfl
  have l2 := k2''''''''.lt
  obtain ⟨hc3x0, gc3x0⟩ := k3'''''''.at_ 0 (x := .int .i64 m2.t) rfl
  obtain ⟨hc3x1, gc3x1⟩ := k3'''''''.at_ 1 (x := .bool m2.d) rfl
  have l3 := k3'''''''.lt
  obtain ⟨hc16x0, gc16x0⟩ := k16''.at_ 0 (x := .int .i64 x0.c) rfl
  obtain ⟨hc16x1, gc16x1⟩ := k16''.at_ 1 (x := .slice A14 x0.x.length d14) rfl
  have l16 := k16''.lt
  obtain ⟨hc19x0, gc19x0⟩ := k19.at_ 0 (x := .slice A17 M1.mem.length d17) rfl
  obtain ⟨hc19x1, gc19x1⟩ := k19.at_ 1 (x := .slice B17 M1.ths.length e17) rfl
  have l19 := k19.lt
  have HS23 : Hid (∀ W : World, Below wq22.heap.size wq22 W → Below wq22.heap.size wq22 W ∧ W.cell? ⟨w14.heap.size, 0, none⟩ = some (.int .i64 x0.c) ∧ W.cell? ⟨w14.heap.size, 1, none⟩ = some (.slice A14 x0.x.length d14) ∧ W.cell? ⟨w17.heap.size, 0, none⟩ = some (.slice A17 M1.mem.length d17) ∧ W.cell? ⟨w17.heap.size, 1, none⟩ = some (.slice B17 M1.ths.length e17) ∧ W.cell? ⟨w.heap.size + 1 + 1, 0, none⟩ = some (.int .i64 m2.t) ∧ W.cell? ⟨w.heap.size + 1 + 1, 1, none⟩ = some (.bool m2.d)) := Lib.hid fun W hW => ⟨hW, (hW.cell (p := ⟨w14.heap.size, 0, none⟩) k16''.lt).trans hc16x0, (hW.cell (p := ⟨w14.heap.size, 1, none⟩) k16''.lt).trans hc16x1, (hW.cell (p := ⟨w17.heap.size, 0, none⟩) k19.lt).trans hc19x0, (hW.cell (p := ⟨w17.heap.size, 1, none⟩) k19.lt).trans hc19x1, (hW.cell (p := ⟨w.heap.size + 1 + 1, 0, none⟩) k3'''''''.lt).trans hc3x0, (hW.cell (p := ⟨w.heap.size + 1 + 1, 1, none⟩) k3'''''''.lt).trans hc3x1⟩
  have HhB__________ := Lib.hid hB''''''''''
  have Hho14___ := Lib.hid ho14'''
  have Hho17_ := Lib.hid ho17'
  go_region_held3 (fun W => Below wq22.heap.size wq22 W ∧ W.cell? ⟨w14.heap.size, 0, none⟩ = some (.int .i64 x0.c) ∧ W.cell? ⟨w14.heap.size, 1, none⟩ = some (.slice A14 x0.x.length d14) ∧ W.cell? ⟨w17.heap.size, 0, none⟩ = some (.slice A17 M1.mem.length d17) ∧ W.cell? ⟨w17.heap.size, 1, none⟩ = some (.slice B17 M1.ths.length e17) ∧ W.cell? ⟨w.heap.size + 1 + 1, 0, none⟩ = some (.int .i64 m2.t) ∧ W.cell? ⟨w.heap.size + 1 + 1, 1, none⟩ = some (.bool m2.d)) (first | (exact HS23.out _ (Below.refl _ _).drew) | (exact HS23.out _ (by assumption)))
    (first
      | (go_at_call_of 25 (Value.agg #[Value.int .i64 m2.t, .bool m2.d] : Value); have hS := ‹Below wq22.heap.size wq22 _ ∧ _›.1; refine (toMove m2 _).mono ?_; rintro e w20 ⟨rfl, hb20⟩; have hS23x0 := hS.trans (hb20.mono hS.size); clear hS)
      | (go_at_call 26; have hS := ‹Below wq22.heap.size wq22 _ ∧ _›.1; refine (impl_CanMove _ _ _ x0 M1 m2 _ (Hho14___.out.below hS).rd (Hho17_.out.below hS).rd).mono ?_; rintro e w21 ⟨rfl, hb21⟩; have hS23x1 := hS.trans (hb21.mono hS.size); clear hS))
  have hS23 := ‹Below wq22.heap.size wq22 _ ∧ _›.1
  clear HS23 HhB__________ Hho14___ Hho17_
  clear hc1x0 gc1x0 hc1x1 gc1x1 l1 hc2x0 gc2x0 hc2x1 gc2x1 l2 hc3x0 gc3x0 hc3x1 gc3x1 l3 hc16x0 gc16x0 hc16x1 gc16x1 l16 hc19x0 gc19x0 hc19x1 gc19x1 l19
  have sz24 := hS23.size
  try simp only [World.size_alloc] at sz24
  have hB''''''''''' := hB''''''''''.trans (hS23.mono hB''''''''''.size)
  clear hB''''''''''
  have k1'''''''''' := k1'''''''''.below hS23 k1'''''''''.lt
  clear k1'''''''''
  have k2''''''''' := k2''''''''.below hS23 k2''''''''.lt
  clear k2''''''''
  have k3'''''''' := k3'''''''.below hS23 k3'''''''.lt
  clear k3'''''''
  have k16''' := k16''.below hS23 k16''.lt
  clear k16''
  have k19' := k19.below hS23 k19.lt
  clear k19
  have ho14'''' := ho14'''.below hS23
  clear ho14'''
  have ho17'' := ho17'.below hS23
  clear ho17'
  clear hS23
  obtain ⟨hc1x0, gc1x0⟩ := k1''''''''''.at_ 0 (x := .int .i64 x0.c) rfl
  obtain ⟨hc1x1, gc1x1⟩ := k1''''''''''.at_ 1 (x := .slice Aa0 x0.x.length da0) rfl
  have l1 := k1''''''''''.lt
  obtain ⟨hc2x0, gc2x0⟩ := k2'''''''''.at_ 0 (x := .slice Aa1 M1.mem.length da1) rfl
  obtain ⟨hc2x1, gc2x1⟩ := k2'''''''''.at_ 1 (x := .slice Ba1 M1.ths.length ea1) rfl
  have l2 := k2'''''''''.lt
  obtain ⟨hc3x0, gc3x0⟩ := k3''''''''.at_ 0 (x := .int .i64 m2.t) rfl
  obtain ⟨hc3x1, gc3x1⟩ := k3''''''''.at_ 1 (x := .bool m2.d) rfl
  have l3 := k3''''''''.lt
  obtain ⟨hc16x0, gc16x0⟩ := k16'''.at_ 0 (x := .int .i64 x0.c) rfl
  obtain ⟨hc16x1, gc16x1⟩ := k16'''.at_ 1 (x := .slice A14 x0.x.length d14) rfl
  have l16 := k16'''.lt
  obtain ⟨hc19x0, gc19x0⟩ := k19'.at_ 0 (x := .slice A17 M1.mem.length d17) rfl
  obtain ⟨hc19x1, gc19x1⟩ := k19'.at_ 1 (x := .slice B17 M1.ths.length e17) rfl
  have l19 := k19'.lt
  go_wp2_with fail
  clear hc1x0 gc1x0 hc1x1 gc1x1 l1 hc2x0 gc2x0 hc2x1 gc2x1 l2 hc3x0 gc3x0 hc3x1 gc3x1 l3 hc16x0 gc16x0 hc16x1 gc16x1 l16 hc19x0 gc19x0 hc19x1 gc19x1 l19
  obtain ⟨hc1x0, gc1x0⟩ := k1''''''''''.at_ 0 (x := .int .i64 x0.c) rfl
  obtain ⟨hc1x1, gc1x1⟩ := k1''''''''''.at_ 1 (x := .slice Aa0 x0.x.length da0) rfl
  have l1 := k1''''''''''.lt
  obtain ⟨hc2x0, gc2x0⟩ := k2'''''''''.at_ 0 (x := .slice Aa1 M1.mem.length da1) rfl
  obtain ⟨hc2x1, gc2x1⟩ := k2'''''''''.at_ 1 (x := .slice Ba1 M1.ths.length ea1) rfl
  have l2 := k2'''''''''.lt
  obtain ⟨hc3x0, gc3x0⟩ := k3''''''''.at_ 0 (x := .int .i64 m2.t) rfl
  obtain ⟨hc3x1, gc3x1⟩ := k3''''''''.at_ 1 (x := .bool m2.d) rfl
  have l3 := k3''''''''.lt
  obtain ⟨hc16x0, gc16x0⟩ := k16'''.at_ 0 (x := .int .i64 x0.c) rfl
  obtain ⟨hc16x1, gc16x1⟩ := k16'''.at_ 1 (x := .slice A14 x0.x.length d14) rfl
  have l16 := k16'''.lt
  obtain ⟨hc19x0, gc19x0⟩ := k19'.at_ 0 (x := .slice A17 M1.mem.length d17) rfl
  obtain ⟨hc19x1, gc19x1⟩ := k19'.at_ 1 (x := .slice B17 M1.ths.length e17) rfl
  have l19 := k19'.lt
  have HS26 : Hid (∀ W : World, Below w21.heap.size w21 W → Below w21.heap.size w21 W ∧ W.cell? ⟨w14.heap.size, 0, none⟩ = some (.int .i64 x0.c) ∧ W.cell? ⟨w14.heap.size, 1, none⟩ = some (.slice A14 x0.x.length d14) ∧ W.cell? ⟨w.heap.size, 0, none⟩ = some (.int .i64 x0.c) ∧ W.cell? ⟨w.heap.size, 1, none⟩ = some (.slice Aa0 x0.x.length da0)) := Lib.hid fun W hW => ⟨hW, (hW.cell (p := ⟨w14.heap.size, 0, none⟩) k16'''.lt).trans hc16x0, (hW.cell (p := ⟨w14.heap.size, 1, none⟩) k16'''.lt).trans hc16x1, (hW.cell (p := ⟨w.heap.size, 0, none⟩) k1''''''''''.lt).trans hc1x0, (hW.cell (p := ⟨w.heap.size, 1, none⟩) k1''''''''''.lt).trans hc1x1⟩
  have HhB___________ := Lib.hid hB'''''''''''
  have Hho14____ := Lib.hid ho14''''
  have Hho17__ := Lib.hid ho17''
  go_region_held3 (fun W => Below w21.heap.size w21 W ∧ W.cell? ⟨w14.heap.size, 0, none⟩ = some (.int .i64 x0.c) ∧ W.cell? ⟨w14.heap.size, 1, none⟩ = some (.slice A14 x0.x.length d14) ∧ W.cell? ⟨w.heap.size, 0, none⟩ = some (.int .i64 x0.c) ∧ W.cell? ⟨w.heap.size, 1, none⟩ = some (.slice Aa0 x0.x.length da0)) (first | (exact HS26.out _ (Below.refl _ _).drew) | (exact HS26.out _ (by assumption)))
    (first
      | (go_at_call 14; have hS := ‹Below w21.heap.size w21 _ ∧ _›.1; refine (toProg _ x0 _ (HAaP.out.below (HhB___________.out.trans (hS.mono HhB___________.out.size))) (by omega)).mono ?_; rintro e wa25 ⟨vv0, bsw, rfl, how, low, hbw25⟩; have HO25 := Lib.hid how; clear how low; have hS26x0 := hS.trans (hbw25.mono hS.size); clear hS)
      | (go_at_call 17; have hS := ‹Below w21.heap.size w21 _ ∧ _›.1; refine (eqProg _ _ (x0) (x0) _ (Hho14____.out.below hS).rd HO25.out.rd).mono ?_; rintro e w25 ⟨rfl, hbe25⟩; have hS26x1 := hS.trans (hbe25.mono hS.size); clear hS))
  have hS26 := ‹Below w21.heap.size w21 _ ∧ _›.1
  clear HS26 HhB___________ Hho14____ Hho17__
  clear hc1x0 gc1x0 hc1x1 gc1x1 l1 hc2x0 gc2x0 hc2x1 gc2x1 l2 hc3x0 gc3x0 hc3x1 gc3x1 l3 hc16x0 gc16x0 hc16x1 gc16x1 l16 hc19x0 gc19x0 hc19x1 gc19x1 l19
  have sz27 := hS26.size
  try simp only [World.size_alloc] at sz27
  have hB'''''''''''' := hB'''''''''''.trans (hS26.mono hB'''''''''''.size)
  clear hB'''''''''''
  have k1''''''''''' := k1''''''''''.below hS26 k1''''''''''.lt
  clear k1''''''''''
  have k2'''''''''' := k2'''''''''.below hS26 k2'''''''''.lt
  clear k2'''''''''
  have k3''''''''' := k3''''''''.below hS26 k3''''''''.lt
  clear k3''''''''
  have k16'''' := k16'''.below hS26 k16'''.lt
  clear k16'''
  have k19'' := k19'.below hS26 k19'.lt
  clear k19'
  have ho14''''' := ho14''''.below hS26
  clear ho14''''
  have ho17''' := ho17''.below hS26
  clear ho17''
  clear hS26
  clear HO25
  obtain ⟨hc1x0, gc1x0⟩ := k1'''''''''''.at_ 0 (x := .int .i64 x0.c) rfl
  obtain ⟨hc1x1, gc1x1⟩ := k1'''''''''''.at_ 1 (x := .slice Aa0 x0.x.length da0) rfl
  have l1 := k1'''''''''''.lt
  obtain ⟨hc2x0, gc2x0⟩ := k2''''''''''.at_ 0 (x := .slice Aa1 M1.mem.length da1) rfl
  obtain ⟨hc2x1, gc2x1⟩ := k2''''''''''.at_ 1 (x := .slice Ba1 M1.ths.length ea1) rfl
  have l2 := k2''''''''''.lt
  obtain ⟨hc3x0, gc3x0⟩ := k3'''''''''.at_ 0 (x := .int .i64 m2.t) rfl
  obtain ⟨hc3x1, gc3x1⟩ := k3'''''''''.at_ 1 (x := .bool m2.d) rfl
  have l3 := k3'''''''''.lt
  obtain ⟨hc16x0, gc16x0⟩ := k16''''.at_ 0 (x := .int .i64 x0.c) rfl
  obtain ⟨hc16x1, gc16x1⟩ := k16''''.at_ 1 (x := .slice A14 x0.x.length d14) rfl
  have l16 := k16''''.lt
  obtain ⟨hc19x0, gc19x0⟩ := k19''.at_ 0 (x := .slice A17 M1.mem.length d17) rfl
  obtain ⟨hc19x1, gc19x1⟩ := k19''.at_ 1 (x := .slice B17 M1.ths.length e17) rfl
  have l19 := k19''.lt
  go_wp2_with fail
  clear hc1x0 gc1x0 hc1x1 gc1x1 l1 hc2x0 gc2x0 hc2x1 gc2x1 l2 hc3x0 gc3x0 hc3x1 gc3x1 l3 hc16x0 gc16x0 hc16x1 gc16x1 l16 hc19x0 gc19x0 hc19x1 gc19x1 l19
  obtain ⟨hc1x0, gc1x0⟩ := k1'''''''''''.at_ 0 (x := .int .i64 x0.c) rfl
  obtain ⟨hc1x1, gc1x1⟩ := k1'''''''''''.at_ 1 (x := .slice Aa0 x0.x.length da0) rfl
  have l1 := k1'''''''''''.lt
  obtain ⟨hc2x0, gc2x0⟩ := k2''''''''''.at_ 0 (x := .slice Aa1 M1.mem.length da1) rfl
  obtain ⟨hc2x1, gc2x1⟩ := k2''''''''''.at_ 1 (x := .slice Ba1 M1.ths.length ea1) rfl
  have l2 := k2''''''''''.lt
  obtain ⟨hc3x0, gc3x0⟩ := k3'''''''''.at_ 0 (x := .int .i64 m2.t) rfl
  obtain ⟨hc3x1, gc3x1⟩ := k3'''''''''.at_ 1 (x := .bool m2.d) rfl
  have l3 := k3'''''''''.lt
  obtain ⟨hc16x0, gc16x0⟩ := k16''''.at_ 0 (x := .int .i64 x0.c) rfl
  obtain ⟨hc16x1, gc16x1⟩ := k16''''.at_ 1 (x := .slice A14 x0.x.length d14) rfl
  have l16 := k16''''.lt
  obtain ⟨hc19x0, gc19x0⟩ := k19''.at_ 0 (x := .slice A17 M1.mem.length d17) rfl
  obtain ⟨hc19x1, gc19x1⟩ := k19''.at_ 1 (x := .slice B17 M1.ths.length e17) rfl
  have l19 := k19''.lt
  have HS29 : Hid (∀ W : World, Below w25.heap.size w25 W → Below w25.heap.size w25 W ∧ W.cell? ⟨w17.heap.size, 0, none⟩ = some (.slice A17 M1.mem.length d17) ∧ W.cell? ⟨w17.heap.size, 1, none⟩ = some (.slice B17 M1.ths.length e17) ∧ W.cell? ⟨w.heap.size + 1, 0, none⟩ = some (.slice Aa1 M1.mem.length da1) ∧ W.cell? ⟨w.heap.size + 1, 1, none⟩ = some (.slice Ba1 M1.ths.length ea1)) := Lib.hid fun W hW => ⟨hW, (hW.cell (p := ⟨w17.heap.size, 0, none⟩) k19''.lt).trans hc19x0, (hW.cell (p := ⟨w17.heap.size, 1, none⟩) k19''.lt).trans hc19x1, (hW.cell (p := ⟨w.heap.size + 1, 0, none⟩) k2''''''''''.lt).trans hc2x0, (hW.cell (p := ⟨w.heap.size + 1, 1, none⟩) k2''''''''''.lt).trans hc2x1⟩
  have HhB____________ := Lib.hid hB''''''''''''
  have Hho14_____ := Lib.hid ho14'''''
  have Hho17___ := Lib.hid ho17'''
  go_region_held3 (fun W => Below w25.heap.size w25 W ∧ W.cell? ⟨w17.heap.size, 0, none⟩ = some (.slice A17 M1.mem.length d17) ∧ W.cell? ⟨w17.heap.size, 1, none⟩ = some (.slice B17 M1.ths.length e17) ∧ W.cell? ⟨w.heap.size + 1, 0, none⟩ = some (.slice Aa1 M1.mem.length da1) ∧ W.cell? ⟨w.heap.size + 1, 1, none⟩ = some (.slice Ba1 M1.ths.length ea1)) (first | (exact HS29.out _ (Below.refl _ _).drew) | (exact HS29.out _ (by assumption)))
    (first
      | (go_at_call 15; have hS := ‹Below w25.heap.size w25 _ ∧ _›.1; refine (toMachine _ _ M1 _ (HAaM.out.below (HhB____________.out.trans (hS.mono HhB____________.out.size))) (by omega)).mono ?_; rintro e wa28 ⟨vv0, vv1, bsw, rfl, how, low, hbw28⟩; have HO28 := Lib.hid how; clear how low; have hS29x0 := hS.trans (hbw28.mono hS.size); clear hS)
      | (go_at_call 18; have hS := ‹Below w25.heap.size w25 _ ∧ _›.1; refine (eqMachine _ _ _ _ (M1) (M1) _ (Hho17___.out.below hS).rd HO28.out.rd).mono ?_; rintro e w28 ⟨rfl, hbe28⟩; have hS29x1 := hS.trans (hbe28.mono hS.size); clear hS))
  have hS29 := ‹Below w25.heap.size w25 _ ∧ _›.1
  clear HS29 HhB____________ Hho14_____ Hho17___
  clear hc1x0 gc1x0 hc1x1 gc1x1 l1 hc2x0 gc2x0 hc2x1 gc2x1 l2 hc3x0 gc3x0 hc3x1 gc3x1 l3 hc16x0 gc16x0 hc16x1 gc16x1 l16 hc19x0 gc19x0 hc19x1 gc19x1 l19
  have sz30 := hS29.size
  try simp only [World.size_alloc] at sz30
  have hB''''''''''''' := hB''''''''''''.trans (hS29.mono hB''''''''''''.size)
  clear hB''''''''''''
  have k1'''''''''''' := k1'''''''''''.below hS29 k1'''''''''''.lt
  clear k1'''''''''''
  have k2''''''''''' := k2''''''''''.below hS29 k2''''''''''.lt
  clear k2''''''''''
  have k3'''''''''' := k3'''''''''.below hS29 k3'''''''''.lt
  clear k3'''''''''
  have k16''''' := k16''''.below hS29 k16''''.lt
  clear k16''''
  have k19''' := k19''.below hS29 k19''.lt
  clear k19''
  have ho14'''''' := ho14'''''.below hS29
  clear ho14'''''
  have ho17'''' := ho17'''.below hS29
  clear ho17'''
  clear hS29
  clear HO28
  obtain ⟨hc1x0, gc1x0⟩ := k1''''''''''''.at_ 0 (x := .int .i64 x0.c) rfl
  obtain ⟨hc1x1, gc1x1⟩ := k1''''''''''''.at_ 1 (x := .slice Aa0 x0.x.length da0) rfl
  have l1 := k1''''''''''''.lt
  obtain ⟨hc2x0, gc2x0⟩ := k2'''''''''''.at_ 0 (x := .slice Aa1 M1.mem.length da1) rfl
  obtain ⟨hc2x1, gc2x1⟩ := k2'''''''''''.at_ 1 (x := .slice Ba1 M1.ths.length ea1) rfl
  have l2 := k2'''''''''''.lt
  obtain ⟨hc3x0, gc3x0⟩ := k3''''''''''.at_ 0 (x := .int .i64 m2.t) rfl
  obtain ⟨hc3x1, gc3x1⟩ := k3''''''''''.at_ 1 (x := .bool m2.d) rfl
  have l3 := k3''''''''''.lt
  obtain ⟨hc16x0, gc16x0⟩ := k16'''''.at_ 0 (x := .int .i64 x0.c) rfl
  obtain ⟨hc16x1, gc16x1⟩ := k16'''''.at_ 1 (x := .slice A14 x0.x.length d14) rfl
  have l16 := k16'''''.lt
  obtain ⟨hc19x0, gc19x0⟩ := k19'''.at_ 0 (x := .slice A17 M1.mem.length d17) rfl
  obtain ⟨hc19x1, gc19x1⟩ := k19'''.at_ 1 (x := .slice B17 M1.ths.length e17) rfl
  have l19 := k19'''.lt
  go_wp2_with fail
  go_ret
  exact ⟨rfl, hB'''''''''''''⟩
set_option maxRecDepth 100000 in
theorem lift_CanMove (os : Os) (started : os.Started) (H : Type) (enc : TypeId × Value → H) :
    ReturnsInHanded {} Try.checked os 5 .any (Rows.fnExactCanMoveSpec.pre6 enc Try.prog Try.f5 Rows.fnExactCanMoveRow.domain false) (Rows.fnExactCanMoveSpec.post enc Try.prog Try.f5 false true false false) := by
  refine returnsInHanded_of_change (C := Try.checked) (by kernel_rfl) started (by kernel_rfl) Try.func5
    (ChangeSpec.witness6 (enc := enc) (C := Try.checked) false ⟨#[], #[.agg #[.int .i64 0, .slice none 0 0], .agg #[.slice none 0 0, .slice none 0 0], .agg #[.int .i64 0, .bool false]], []⟩ 8 (by kernel_rfl) (by kernel_rfl) (by kernel_rfl) (by kernel_rfl)) ?_
  intro W base args ds gs before hval0 hW hcnd _
  have hval : ∀ (j : Nat) t v, Try.f5.params[j]? = some t → args[j]? = some v → Value.okWide Try.prog W .any base t v := hval0
  have hW' := hW
  obtain ⟨p, q, hA0, hV, rfl, hfz, hnd⟩ := hW
  have hA : DataW.TrodAll enc Try.prog W 0 (fun _ => true) true Try.f5.params.toList args.toList ds p := hA0
  rw [Try.params5] at hA hval
  obtain ⟨v0, vs0, d0, ds0, p0, q0, hargs, rfl, rfl, h0, r0⟩ := trodAll_cons hA
  obtain ⟨v1, vs1, d1, ds1, p1, q1, rfl, rfl, rfl, h1, r1⟩ := trodAll_cons r0
  obtain ⟨v2, vs2, d2, ds2, p2, q2, rfl, rfl, rfl, h2, r2⟩ := trodAll_cons r1
  obtain ⟨rfl, rfl, rfl⟩ := trodAll_nil r2
  obtain rfl : args = #[v0, v1, v2] := by cases args; simp_all
  obtain ⟨rfl, rfl⟩ := trodVars_none hV
  obtain ⟨c0, x0, rfl, hR0⟩ := read_prog Try.underlying24 ⟨rfl, rfl⟩ ⟨rfl, rfl⟩ (by decide +kernel) (by kernel_rfl) Try.underlying3 Try.underlying22 (by kernel_rfl) Try.underlying134 Try.underlying181 (by kernel_rfl) ⟨rfl, rfl, rfl, rfl⟩ (by decide +kernel) ⟨Try.underlying3, Try.underlying3, Try.underlying3, Try.underlying3⟩ (hval 0 _ v0 rfl rfl) h0
  obtain ⟨c1, u1, M1, rfl, hR1, hI1⟩ := read_machine Try.underlying30 (by kernel_rfl) ⟨rfl, rfl⟩ (by decide +kernel) Try.underlying27 rfl (by kernel_rfl) Try.underlying25 Try.underlying3 (by kernel_rfl) Try.underlying28 thTypeL (hval 1 _ v1 rfl rfl) h1
  obtain ⟨x2, rfl, xw2⟩ := read_move Try.underlying52 (by kernel_rfl) ⟨rfl, rfl⟩ (by decide +kernel) ⟨Try.underlying3, Try.underlying4⟩ (hval 2 _ v2 rfl rfl) h2
  refine (walk_CanMove c0 x0 _ _ M1 x2 W hR0 hR1).mono fun e W' ⟨he, hb⟩ => ?_
  subst he
  exact ⟨_, rfl, post_law (by kernel_rfl) rfl rfl (by kernel_rfl) Try.underlying4 (of_decide_eq_true (by kernel_rfl)) hW' hb⟩
theorem FnExactCanMove_holds : Rows.FnExactCanMoveSaid :=
  OpenClaim.holds_of_wide 5 Try.f5 rfl rfl rfl rfl rfl rfl rfl ⟨rfl, rfl, rfl, rfl, rfl⟩ rfl rfl rfl rfl rfl (by kernel_rfl) Try.func5 (by kernel_rfl)
    (of_decide_eq_true (by kernel_rfl)) (by unfold Func.isWrapper; first | (rw [if_pos (by decide +kernel)]; kernel_rfl) | (rw [if_neg (by decide +kernel)]; exact ⟨rfl, rfl⟩))
    (fun os started H enc _ => lift_CanMove os started H enc)
#print axioms FnExactCanMove_holds
end Go.Proofs.Ytiflooopfpcelaa
