/- FnExactPutFences answers true at every input: PutFences answers as its model does, leaves its arguments alone and owns its answer. Conditions: none. -/
import Derived.Test.YtgbgjlmkmlhefaaLaw
import Derived.Test.YtgbgjlmkmlhefaaLaw3
import Derived.Test.YtgbgjlmkmlhefaaM8
import Derived.Test.YtgbgjlmkmlhefaaF7
import Derived.Test.YtgbgjlmkmlhefaaF8
import Derived.Deep.RegionHeld3
namespace Go.Proofs.Ytgbgjlmkmlhefaa
set_option maxRecDepth 20000
set_option linter.unusedSimpArgs false
set_option linter.unusedVariables false
open Go.ChangeShapes Go.WideShapes Go.ChangeAt Go.RowKit
set_option linter.unusedVariables false
set_option maxHeartbeats 4000000 in
theorem walk_PutFences (v0 : Value) (x0 : Pr) (v1 : Value) (xs1 : List P2) (w : World) (hA0 : RdASS w v0 x0.x) (hA1 : RdA w v1 2 xs1.length (flc2 xs1)) :
    Calls Try.prog 4 #[.agg #[.int .i64 x0.c, v0], v1] w fun e w' => e = .returned (.bool true) ∧ Below w.heap.size w w' := by
  obtain ⟨-, ⟨Aa0, da0, rfl, -, -, -, -⟩, -⟩ := id hA0
  have HAaP := Lib.hid hA0
  clear hA0
  obtain ⟨Aa1, da1, rfl, -, -, -, -⟩ := id hA1
  have HAaSpots := Lib.hid hA1
  clear hA1
  have hqs := cntSS_all x0.x
  have hqt := putF_tot x0 xs1
  have hqm := cntSS_all ((putF x0 xs1).getD ⟨0, []⟩).x
  have hB := Below.refl w.heap.size w
  go_enter Try.func4, Try.ntmps4
  go_wp2_with fail
  have hB' := hB.alloc hB.size (.cells #[.int .i64 x0.c, .slice Aa0 x0.x.length da0] 26)
  clear hB
  have k1 := Bk.new w #[.int .i64 x0.c, .slice Aa0 x0.x.length da0] 26
  refine (szProg _ x0 (1048576) _ (HAaP.out.below hB') (by omega) (by omega)).mono ?_
  rintro e w2 ⟨rfl, hb2⟩
  have sz3 := hb2.size
  try simp only [World.size_alloc] at sz3
  have hB'' := hB'.trans (hb2.mono hB'.size)
  clear hB'
  have k1' := k1.below hb2 k1.lt
  clear k1
  by_cases hn2 : (1048576 : Int) - (totSS x0.x) < 0
  · rw [show szF (totSS x0.x) (1048576) = -1 by unfold szF; rw [if_pos hn2]]
    go_wp2_with fail
    go_ret
    exact ⟨rfl, hB''⟩
  rw [show szF (totSS x0.x) (1048576) = 1048576 - (totSS x0.x) by unfold szF; rw [if_neg hn2]]
  obtain ⟨hc1x0, gc1x0⟩ := k1'.at_ 0 (x := .int .i64 x0.c) rfl
  obtain ⟨hc1x1, gc1x1⟩ := k1'.at_ 1 (x := .slice Aa0 x0.x.length da0) rfl
  have l1 := k1'.lt
  go_wp2_with fail
  refine (toB (szSpotS _ _ _ (1048576 - (totSS x0.x)) _ (HAaSpots.out.below hB'') (by omega) (by omega))).mono ?_
  rintro e w4 ⟨rfl, hb4⟩
  clear hc1x0 gc1x0 hc1x1 gc1x1 l1
  have sz5 := hb4.size
  try simp only [World.size_alloc] at sz5
  have hB''' := hB''.trans (hb4.mono hB''.size)
  clear hB''
  have k1'' := k1'.below hb4 k1'.lt
  clear k1'
  by_cases hn4 : (1048576 - (totSS x0.x) : Int) - xs1.length < 0
  · rw [show szF xs1.length (1048576 - (totSS x0.x)) = -1 by unfold szF; rw [if_pos hn4]]
    go_wp2_with fail
    go_ret
    exact ⟨rfl, hB'''⟩
  rw [show szF xs1.length (1048576 - (totSS x0.x)) = 1048576 - (totSS x0.x) - xs1.length by unfold szF; rw [if_neg hn4]]
  obtain ⟨hc1x0, gc1x0⟩ := k1''.at_ 0 (x := .int .i64 x0.c) rfl
  obtain ⟨hc1x1, gc1x1⟩ := k1''.at_ 1 (x := .slice Aa0 x0.x.length da0) rfl
  have l1 := k1''.lt
  go_wp2_with fail
  refine (toProg _ x0 _ (HAaP.out.below hB''') (by omega)).mono ?_
  rintro e w6 ⟨v6x0, bs6, rfl, ho6, lo6, hb6⟩
  clear hc1x0 gc1x0 hc1x1 gc1x1 l1
  have sz7 := hb6.size
  try simp only [World.size_alloc] at sz7
  have hB'''' := hB'''.trans (hb6.mono hB'''.size)
  clear hB'''
  have k1''' := k1''.below hb6 k1''.lt
  clear k1''
  have hi6 := ho6.lt
  try simp only [World.size_alloc] at lo6
  obtain ⟨A6, d6, rfl, -, -⟩ := ho6.slice
  obtain ⟨hc1x0, gc1x0⟩ := k1'''.at_ 0 (x := .int .i64 x0.c) rfl
  obtain ⟨hc1x1, gc1x1⟩ := k1'''.at_ 1 (x := .slice Aa0 x0.x.length da0) rfl
  have l1 := k1'''.lt
  go_wp2_with fail
  refine (toSpotS _ xs1 _ (HAaSpots.out.below hB'''') (by omega)).mono ?_
  rintro e w8 ⟨v8x0, bs8, rfl, ho8, lo8, hb8⟩
  clear hc1x0 gc1x0 hc1x1 gc1x1 l1
  have sz9 := hb8.size
  try simp only [World.size_alloc] at sz9
  have hB''''' := hB''''.trans (hb8.mono hB''''.size)
  clear hB''''
  have k1'''' := k1'''.below hb8 k1'''.lt
  clear k1'''
  have ho6' := ho6.below hb8
  clear ho6
  have hi8 := ho8.lt
  try simp only [World.size_alloc] at lo8
  obtain ⟨A8, d8, rfl, -, -⟩ := ho8.slice
  obtain ⟨hc1x0, gc1x0⟩ := k1''''.at_ 0 (x := .int .i64 x0.c) rfl
  obtain ⟨hc1x1, gc1x1⟩ := k1''''.at_ 1 (x := .slice Aa0 x0.x.length da0) rfl
  have l1 := k1''''.lt
  go_wp2_with fail
  refine (spec_PutFences _ _ x0 xs1 _ ho6'.rd ho8.rd).mono ?_
  rintro e w10 ⟨v11x0, bs11, rfl, ho11, lo11, hb11⟩
  clear hc1x0 gc1x0 hc1x1 gc1x1 l1
  have sz12 := hb11.size
  try simp only [World.size_alloc] at sz12
  have hB'''''' := hB'''''.trans (hb11.mono hB'''''.size)
  clear hB'''''
  have k1''''' := k1''''.below hb11 k1''''.lt
  clear k1''''
  have ho6'' := ho6'.below hb11
  clear ho6'
  have ho8' := ho8.below hb11
  clear ho8
  have hi11 := ho11.lt
  try simp only [World.size_alloc] at lo11
  obtain ⟨A11, d11, rfl, -, -⟩ := ho11.slice
  obtain ⟨hc1x0, gc1x0⟩ := k1'''''.at_ 0 (x := .int .i64 x0.c) rfl
  obtain ⟨hc1x1, gc1x1⟩ := k1'''''.at_ 1 (x := .slice Aa0 x0.x.length da0) rfl
  have l1 := k1'''''.lt
  go_wp2_with fail
  clear hc1x0 gc1x0 hc1x1 gc1x1 l1
  have k1'''''' := k1'''''.alloc (.cells #[.int .i64 ((putF x0 xs1).getD ⟨0, []⟩).c, .slice A11 ((putF x0 xs1).getD ⟨0, []⟩).x.length d11] 33)
  clear k1'''''
  have ho6''' := ho6''.below ((Below.refl _ _).alloc (Nat.le_refl _) (.cells #[.int .i64 ((putF x0 xs1).getD ⟨0, []⟩).c, .slice A11 ((putF x0 xs1).getD ⟨0, []⟩).x.length d11] 33))
  clear ho6''
  have ho8'' := ho8'.below ((Below.refl _ _).alloc (Nat.le_refl _) (.cells #[.int .i64 ((putF x0 xs1).getD ⟨0, []⟩).c, .slice A11 ((putF x0 xs1).getD ⟨0, []⟩).x.length d11] 33))
  clear ho8'
  have ho11' := ho11.below ((Below.refl _ _).alloc (Nat.le_refl _) (.cells #[.int .i64 ((putF x0 xs1).getD ⟨0, []⟩).c, .slice A11 ((putF x0 xs1).getD ⟨0, []⟩).x.length d11] 33))
  clear ho11
  have hB''''''' := hB''''''.alloc hB''''''.size (.cells #[.int .i64 ((putF x0 xs1).getD ⟨0, []⟩).c, .slice A11 ((putF x0 xs1).getD ⟨0, []⟩).x.length d11] 33)
  clear hB''''''
  have k13 := Bk.new w10 #[.int .i64 ((putF x0 xs1).getD ⟨0, []⟩).c, .slice A11 ((putF x0 xs1).getD ⟨0, []⟩).x.length d11] 33
  refine (toProg _ x0 _ (HAaP.out.below hB''''''') (by omega)).mono ?_
  rintro e w14 ⟨v14x0, bs14, rfl, ho14, lo14, hb14⟩
  have sz15 := hb14.size
  try simp only [World.size_alloc] at sz15
  have hB'''''''' := hB'''''''.trans (hb14.mono hB'''''''.size)
  clear hB'''''''
  have k1''''''' := k1''''''.below hb14 k1''''''.lt
  clear k1''''''
  have k13' := k13.below hb14 k13.lt
  clear k13
  have ho6'''' := ho6'''.below hb14
  clear ho6'''
  have ho8''' := ho8''.below hb14
  clear ho8''
  have ho11'' := ho11'.below hb14
  clear ho11'
  have hi14 := ho14.lt
  try simp only [World.size_alloc] at lo14
  obtain ⟨A14, d14, rfl, -, -⟩ := ho14.slice
  obtain ⟨hc1x0, gc1x0⟩ := k1'''''''.at_ 0 (x := .int .i64 x0.c) rfl
  obtain ⟨hc1x1, gc1x1⟩ := k1'''''''.at_ 1 (x := .slice Aa0 x0.x.length da0) rfl
  have l1 := k1'''''''.lt
  obtain ⟨hc13x0, gc13x0⟩ := k13'.at_ 0 (x := .int .i64 ((putF x0 xs1).getD ⟨0, []⟩).c) rfl
  obtain ⟨hc13x1, gc13x1⟩ := k13'.at_ 1 (x := .slice A11 ((putF x0 xs1).getD ⟨0, []⟩).x.length d11) rfl
  have l13 := k13'.lt
  go_wp2_with fail
  clear hc1x0 gc1x0 hc1x1 gc1x1 l1 hc13x0 gc13x0 hc13x1 gc13x1 l13
  have k1'''''''' := k1'''''''.alloc (.cells #[.int .i64 x0.c, .slice A14 x0.x.length d14] 33)
  clear k1'''''''
  have k13'' := k13'.alloc (.cells #[.int .i64 x0.c, .slice A14 x0.x.length d14] 33)
  clear k13'
  have ho6''''' := ho6''''.below ((Below.refl _ _).alloc (Nat.le_refl _) (.cells #[.int .i64 x0.c, .slice A14 x0.x.length d14] 33))
  clear ho6''''
  have ho8'''' := ho8'''.below ((Below.refl _ _).alloc (Nat.le_refl _) (.cells #[.int .i64 x0.c, .slice A14 x0.x.length d14] 33))
  clear ho8'''
  have ho11''' := ho11''.below ((Below.refl _ _).alloc (Nat.le_refl _) (.cells #[.int .i64 x0.c, .slice A14 x0.x.length d14] 33))
  clear ho11''
  have ho14' := ho14.below ((Below.refl _ _).alloc (Nat.le_refl _) (.cells #[.int .i64 x0.c, .slice A14 x0.x.length d14] 33))
  clear ho14
  have hB''''''''' := hB''''''''.alloc hB''''''''.size (.cells #[.int .i64 x0.c, .slice A14 x0.x.length d14] 33)
  clear hB''''''''
  have k16 := Bk.new w14 #[.int .i64 x0.c, .slice A14 x0.x.length d14] 33
  refine (toSpotS _ xs1 _ (HAaSpots.out.below hB''''''''') (by omega)).mono ?_
  rintro e w17 ⟨v17x0, bs17, rfl, ho17, lo17, hb17⟩
  have sz18 := hb17.size
  try simp only [World.size_alloc] at sz18
  have hB'''''''''' := hB'''''''''.trans (hb17.mono hB'''''''''.size)
  clear hB'''''''''
  have k1''''''''' := k1''''''''.below hb17 k1''''''''.lt
  clear k1''''''''
  have k13''' := k13''.below hb17 k13''.lt
  clear k13''
  have k16' := k16.below hb17 k16.lt
  clear k16
  have ho6'''''' := ho6'''''.below hb17
  clear ho6'''''
  have ho8''''' := ho8''''.below hb17
  clear ho8''''
  have ho11'''' := ho11'''.below hb17
  clear ho11'''
  have ho14'' := ho14'.below hb17
  clear ho14'
  have hi17 := ho17.lt
  try simp only [World.size_alloc] at lo17
  obtain ⟨A17, d17, rfl, -, -⟩ := ho17.slice
  obtain ⟨hc1x0, gc1x0⟩ := k1'''''''''.at_ 0 (x := .int .i64 x0.c) rfl
  obtain ⟨hc1x1, gc1x1⟩ := k1'''''''''.at_ 1 (x := .slice Aa0 x0.x.length da0) rfl
  have l1 := k1'''''''''.lt
  obtain ⟨hc13x0, gc13x0⟩ := k13'''.at_ 0 (x := .int .i64 ((putF x0 xs1).getD ⟨0, []⟩).c) rfl
  obtain ⟨hc13x1, gc13x1⟩ := k13'''.at_ 1 (x := .slice A11 ((putF x0 xs1).getD ⟨0, []⟩).x.length d11) rfl
  have l13 := k13'''.lt
  obtain ⟨hc16x0, gc16x0⟩ := k16'.at_ 0 (x := .int .i64 x0.c) rfl
  obtain ⟨hc16x1, gc16x1⟩ := k16'.at_ 1 (x := .slice A14 x0.x.length d14) rfl
  have l16 := k16'.lt
  go_wp2_with fail
  refine (impl_PutFences _ _ x0 xs1 _ ho14''.rd ho17.rd).mono ?_
  rintro e w19 ⟨v20x0, bs20, rfl, ho20, lo20, hb20⟩
  clear hc1x0 gc1x0 hc1x1 gc1x1 l1 hc13x0 gc13x0 hc13x1 gc13x1 l13 hc16x0 gc16x0 hc16x1 gc16x1 l16
  have sz21 := hb20.size
  try simp only [World.size_alloc] at sz21
  have hB''''''''''' := hB''''''''''.trans (hb20.mono hB''''''''''.size)
  clear hB''''''''''
  have k1'''''''''' := k1'''''''''.below hb20 k1'''''''''.lt
  clear k1'''''''''
  have k13'''' := k13'''.below hb20 k13'''.lt
  clear k13'''
  have k16'' := k16'.below hb20 k16'.lt
  clear k16'
  have ho6''''''' := ho6''''''.below hb20
  clear ho6''''''
  have ho8'''''' := ho8'''''.below hb20
  clear ho8'''''
  have ho11''''' := ho11''''.below hb20
  clear ho11''''
  have ho14''' := ho14''.below hb20
  clear ho14''
  have ho17' := ho17.below hb20
  clear ho17
  have hi20 := ho20.lt
  try simp only [World.size_alloc] at lo20
  obtain ⟨A20, d20, rfl, -, -⟩ := ho20.slice
  obtain ⟨hc1x0, gc1x0⟩ := k1''''''''''.at_ 0 (x := .int .i64 x0.c) rfl
  obtain ⟨hc1x1, gc1x1⟩ := k1''''''''''.at_ 1 (x := .slice Aa0 x0.x.length da0) rfl
  have l1 := k1''''''''''.lt
  obtain ⟨hc13x0, gc13x0⟩ := k13''''.at_ 0 (x := .int .i64 ((putF x0 xs1).getD ⟨0, []⟩).c) rfl
  obtain ⟨hc13x1, gc13x1⟩ := k13''''.at_ 1 (x := .slice A11 ((putF x0 xs1).getD ⟨0, []⟩).x.length d11) rfl
  have l13 := k13''''.lt
  obtain ⟨hc16x0, gc16x0⟩ := k16''.at_ 0 (x := .int .i64 x0.c) rfl
  obtain ⟨hc16x1, gc16x1⟩ := k16''.at_ 1 (x := .slice A14 x0.x.length d14) rfl
  have l16 := k16''.lt
  go_wp2_with fail
  clear hc1x0 gc1x0 hc1x1 gc1x1 l1 hc13x0 gc13x0 hc13x1 gc13x1 l13 hc16x0 gc16x0 hc16x1 gc16x1 l16
  have k1''''''''''' := k1''''''''''.alloc (.cells #[.int .i64 ((putF x0 xs1).getD ⟨0, []⟩).c, .slice A20 ((putF x0 xs1).getD ⟨0, []⟩).x.length d20] 33)
  clear k1''''''''''
  have k13''''' := k13''''.alloc (.cells #[.int .i64 ((putF x0 xs1).getD ⟨0, []⟩).c, .slice A20 ((putF x0 xs1).getD ⟨0, []⟩).x.length d20] 33)
  clear k13''''
  have k16''' := k16''.alloc (.cells #[.int .i64 ((putF x0 xs1).getD ⟨0, []⟩).c, .slice A20 ((putF x0 xs1).getD ⟨0, []⟩).x.length d20] 33)
  clear k16''
  have ho6'''''''' := ho6'''''''.below ((Below.refl _ _).alloc (Nat.le_refl _) (.cells #[.int .i64 ((putF x0 xs1).getD ⟨0, []⟩).c, .slice A20 ((putF x0 xs1).getD ⟨0, []⟩).x.length d20] 33))
  clear ho6'''''''
  have ho8''''''' := ho8''''''.below ((Below.refl _ _).alloc (Nat.le_refl _) (.cells #[.int .i64 ((putF x0 xs1).getD ⟨0, []⟩).c, .slice A20 ((putF x0 xs1).getD ⟨0, []⟩).x.length d20] 33))
  clear ho8''''''
  have ho11'''''' := ho11'''''.below ((Below.refl _ _).alloc (Nat.le_refl _) (.cells #[.int .i64 ((putF x0 xs1).getD ⟨0, []⟩).c, .slice A20 ((putF x0 xs1).getD ⟨0, []⟩).x.length d20] 33))
  clear ho11'''''
  have ho14'''' := ho14'''.below ((Below.refl _ _).alloc (Nat.le_refl _) (.cells #[.int .i64 ((putF x0 xs1).getD ⟨0, []⟩).c, .slice A20 ((putF x0 xs1).getD ⟨0, []⟩).x.length d20] 33))
  clear ho14'''
  have ho17'' := ho17'.below ((Below.refl _ _).alloc (Nat.le_refl _) (.cells #[.int .i64 ((putF x0 xs1).getD ⟨0, []⟩).c, .slice A20 ((putF x0 xs1).getD ⟨0, []⟩).x.length d20] 33))
  clear ho17'
  have ho20' := ho20.below ((Below.refl _ _).alloc (Nat.le_refl _) (.cells #[.int .i64 ((putF x0 xs1).getD ⟨0, []⟩).c, .slice A20 ((putF x0 xs1).getD ⟨0, []⟩).x.length d20] 33))
  clear ho20
  have hB'''''''''''' := hB'''''''''''.alloc hB'''''''''''.size (.cells #[.int .i64 ((putF x0 xs1).getD ⟨0, []⟩).c, .slice A20 ((putF x0 xs1).getD ⟨0, []⟩).x.length d20] 33)
  clear hB'''''''''''
  have k22 := Bk.new w19 #[.int .i64 ((putF x0 xs1).getD ⟨0, []⟩).c, .slice A20 ((putF x0 xs1).getD ⟨0, []⟩).x.length d20] 33
  refine (eqProg _ _ (((putF x0 xs1).getD ⟨0, []⟩)) (((putF x0 xs1).getD ⟨0, []⟩)) _ ho20'.rd ho11''''''.rd).mono ?_
  rintro e w23 ⟨rfl, hb23⟩
  rw [decide_eq_true rfl]
  have sz24 := hb23.size
  try simp only [World.size_alloc] at sz24
  have hB''''''''''''' := hB''''''''''''.trans (hb23.mono hB''''''''''''.size)
  clear hB''''''''''''
  have k1'''''''''''' := k1'''''''''''.below hb23 k1'''''''''''.lt
  clear k1'''''''''''
  have k13'''''' := k13'''''.below hb23 k13'''''.lt
  clear k13'''''
  have k16'''' := k16'''.below hb23 k16'''.lt
  clear k16'''
  have k22' := k22.below hb23 k22.lt
  clear k22
  have ho6''''''''' := ho6''''''''.below hb23
  clear ho6''''''''
  have ho8'''''''' := ho8'''''''.below hb23
  clear ho8'''''''
  have ho11''''''' := ho11''''''.below hb23
  clear ho11''''''
  have ho14''''' := ho14''''.below hb23
  clear ho14''''
  have ho17''' := ho17''.below hb23
  clear ho17''
  have ho20'' := ho20'.below hb23
  clear ho20'
  obtain ⟨hc1x0, gc1x0⟩ := k1''''''''''''.at_ 0 (x := .int .i64 x0.c) rfl
  obtain ⟨hc1x1, gc1x1⟩ := k1''''''''''''.at_ 1 (x := .slice Aa0 x0.x.length da0) rfl
  have l1 := k1''''''''''''.lt
  obtain ⟨hc13x0, gc13x0⟩ := k13''''''.at_ 0 (x := .int .i64 ((putF x0 xs1).getD ⟨0, []⟩).c) rfl
  obtain ⟨hc13x1, gc13x1⟩ := k13''''''.at_ 1 (x := .slice A11 ((putF x0 xs1).getD ⟨0, []⟩).x.length d11) rfl
  have l13 := k13''''''.lt
  obtain ⟨hc16x0, gc16x0⟩ := k16''''.at_ 0 (x := .int .i64 x0.c) rfl
  obtain ⟨hc16x1, gc16x1⟩ := k16''''.at_ 1 (x := .slice A14 x0.x.length d14) rfl
  have l16 := k16''''.lt
  obtain ⟨hc22x0, gc22x0⟩ := k22'.at_ 0 (x := .int .i64 ((putF x0 xs1).getD ⟨0, []⟩).c) rfl
  obtain ⟨hc22x1, gc22x1⟩ := k22'.at_ 1 (x := .slice A20 ((putF x0 xs1).getD ⟨0, []⟩).x.length d20) rfl
  have l22 := k22'.lt
  go_wp2_with fail
  clear hc1x0 gc1x0 hc1x1 gc1x1 l1 hc13x0 gc13x0 hc13x1 gc13x1 l13 hc16x0 gc16x0 hc16x1 gc16x1 l16 hc22x0 gc22x0 hc22x1 gc22x1 l22
  obtain ⟨hc1x0, gc1x0⟩ := k1''''''''''''.at_ 0 (x := .int .i64 x0.c) rfl
  obtain ⟨hc1x1, gc1x1⟩ := k1''''''''''''.at_ 1 (x := .slice Aa0 x0.x.length da0) rfl
  have l1 := k1''''''''''''.lt
  obtain ⟨hc13x0, gc13x0⟩ := k13''''''.at_ 0 (x := .int .i64 ((putF x0 xs1).getD ⟨0, []⟩).c) rfl
  obtain ⟨hc13x1, gc13x1⟩ := k13''''''.at_ 1 (x := .slice A11 ((putF x0 xs1).getD ⟨0, []⟩).x.length d11) rfl
  have l13 := k13''''''.lt
  obtain ⟨hc16x0, gc16x0⟩ := k16''''.at_ 0 (x := .int .i64 x0.c) rfl
  obtain ⟨hc16x1, gc16x1⟩ := k16''''.at_ 1 (x := .slice A14 x0.x.length d14) rfl
  have l16 := k16''''.lt
  obtain ⟨hc22x0, gc22x0⟩ := k22'.at_ 0 (x := .int .i64 ((putF x0 xs1).getD ⟨0, []⟩).c) rfl
  obtain ⟨hc22x1, gc22x1⟩ := k22'.at_ 1 (x := .slice A20 ((putF x0 xs1).getD ⟨0, []⟩).x.length d20) rfl
  have l22 := k22'.lt
  have HS26 : Hid (∀ W : World, Below w23.heap.size w23 W → Below w23.heap.size w23 W ∧ W.cell? ⟨w14.heap.size, 0, none⟩ = some (.int .i64 x0.c) ∧ W.cell? ⟨w14.heap.size, 1, none⟩ = some (.slice A14 x0.x.length d14) ∧ W.cell? ⟨w.heap.size, 0, none⟩ = some (.int .i64 x0.c) ∧ W.cell? ⟨w.heap.size, 1, none⟩ = some (.slice Aa0 x0.x.length da0)) := Lib.hid fun W hW => ⟨hW, (hW.cell (p := ⟨w14.heap.size, 0, none⟩) k16''''.lt).trans hc16x0, (hW.cell (p := ⟨w14.heap.size, 1, none⟩) k16''''.lt).trans hc16x1, (hW.cell (p := ⟨w.heap.size, 0, none⟩) k1''''''''''''.lt).trans hc1x0, (hW.cell (p := ⟨w.heap.size, 1, none⟩) k1''''''''''''.lt).trans hc1x1⟩
  have HhB_____________ := Lib.hid hB'''''''''''''
  have Hho6_________ := Lib.hid ho6'''''''''
  have Hho8________ := Lib.hid ho8''''''''
  have Hho11_______ := Lib.hid ho11'''''''
  have Hho14_____ := Lib.hid ho14'''''
  have Hho17___ := Lib.hid ho17'''
  have Hho20__ := Lib.hid ho20''
  go_region_held3 (fun W => Below w23.heap.size w23 W ∧ W.cell? ⟨w14.heap.size, 0, none⟩ = some (.int .i64 x0.c) ∧ W.cell? ⟨w14.heap.size, 1, none⟩ = some (.slice A14 x0.x.length d14) ∧ W.cell? ⟨w.heap.size, 0, none⟩ = some (.int .i64 x0.c) ∧ W.cell? ⟨w.heap.size, 1, none⟩ = some (.slice Aa0 x0.x.length da0)) (first | (exact HS26.out _ (Below.refl _ _).drew) | (exact HS26.out _ (by assumption)))
    (first
      | (go_at_call 13; have hS := ‹Below w23.heap.size w23 _ ∧ _›.1; refine (toProg _ x0 _ (HAaP.out.below (HhB_____________.out.trans (hS.mono HhB_____________.out.size))) (by omega)).mono ?_; rintro e wa25 ⟨vv0, bsw, rfl, how, low, hbw25⟩; have HO25 := Lib.hid how; clear how low; have hS26x0 := hS.trans (hbw25.mono hS.size); clear hS)
      | (go_at_call 15; have hS := ‹Below w23.heap.size w23 _ ∧ _›.1; refine (eqProg _ _ (x0) (x0) _ (Hho14_____.out.below hS).rd HO25.out.rd).mono ?_; rintro e w25 ⟨rfl, hbe25⟩; have hS26x1 := hS.trans (hbe25.mono hS.size); clear hS))
  have hS26 := ‹Below w23.heap.size w23 _ ∧ _›.1
  clear HS26 HhB_____________ Hho6_________ Hho8________ Hho11_______ Hho14_____ Hho17___ Hho20__
  clear hc1x0 gc1x0 hc1x1 gc1x1 l1 hc13x0 gc13x0 hc13x1 gc13x1 l13 hc16x0 gc16x0 hc16x1 gc16x1 l16 hc22x0 gc22x0 hc22x1 gc22x1 l22
  have sz27 := hS26.size
  try simp only [World.size_alloc] at sz27
  have hB'''''''''''''' := hB'''''''''''''.trans (hS26.mono hB'''''''''''''.size)
  clear hB'''''''''''''
  have k1''''''''''''' := k1''''''''''''.below hS26 k1''''''''''''.lt
  clear k1''''''''''''
  have k13''''''' := k13''''''.below hS26 k13''''''.lt
  clear k13''''''
  have k16''''' := k16''''.below hS26 k16''''.lt
  clear k16''''
  have k22'' := k22'.below hS26 k22'.lt
  clear k22'
  have ho6'''''''''' := ho6'''''''''.below hS26
  clear ho6'''''''''
  have ho8''''''''' := ho8''''''''.below hS26
  clear ho8''''''''
  have ho11'''''''' := ho11'''''''.below hS26
  clear ho11'''''''
  have ho14'''''' := ho14'''''.below hS26
  clear ho14'''''
  have ho17'''' := ho17'''.below hS26
  clear ho17'''
  have ho20''' := ho20''.below hS26
  clear ho20''
  clear hS26
  clear HO25
  obtain ⟨hc1x0, gc1x0⟩ := k1'''''''''''''.at_ 0 (x := .int .i64 x0.c) rfl
  obtain ⟨hc1x1, gc1x1⟩ := k1'''''''''''''.at_ 1 (x := .slice Aa0 x0.x.length da0) rfl
  have l1 := k1'''''''''''''.lt
  obtain ⟨hc13x0, gc13x0⟩ := k13'''''''.at_ 0 (x := .int .i64 ((putF x0 xs1).getD ⟨0, []⟩).c) rfl
  obtain ⟨hc13x1, gc13x1⟩ := k13'''''''.at_ 1 (x := .slice A11 ((putF x0 xs1).getD ⟨0, []⟩).x.length d11) rfl
  have l13 := k13'''''''.lt
  obtain ⟨hc16x0, gc16x0⟩ := k16'''''.at_ 0 (x := .int .i64 x0.c) rfl
  obtain ⟨hc16x1, gc16x1⟩ := k16'''''.at_ 1 (x := .slice A14 x0.x.length d14) rfl
  have l16 := k16'''''.lt
  obtain ⟨hc22x0, gc22x0⟩ := k22''.at_ 0 (x := .int .i64 ((putF x0 xs1).getD ⟨0, []⟩).c) rfl
  obtain ⟨hc22x1, gc22x1⟩ := k22''.at_ 1 (x := .slice A20 ((putF x0 xs1).getD ⟨0, []⟩).x.length d20) rfl
  have l22 := k22''.lt
  go_wp2_with fail
  refine (toSpotS _ xs1 _ (HAaSpots.out.below hB'''''''''''''') (by omega)).mono ?_
  rintro e w28 ⟨v28x0, bs28, rfl, ho28, lo28, hb28⟩
  clear hc1x0 gc1x0 hc1x1 gc1x1 l1 hc13x0 gc13x0 hc13x1 gc13x1 l13 hc16x0 gc16x0 hc16x1 gc16x1 l16 hc22x0 gc22x0 hc22x1 gc22x1 l22
  have sz29 := hb28.size
  try simp only [World.size_alloc] at sz29
  have hB''''''''''''''' := hB''''''''''''''.trans (hb28.mono hB''''''''''''''.size)
  clear hB''''''''''''''
  have k1'''''''''''''' := k1'''''''''''''.below hb28 k1'''''''''''''.lt
  clear k1'''''''''''''
  have k13'''''''' := k13'''''''.below hb28 k13'''''''.lt
  clear k13'''''''
  have k16'''''' := k16'''''.below hb28 k16'''''.lt
  clear k16'''''
  have k22''' := k22''.below hb28 k22''.lt
  clear k22''
  have ho6''''''''''' := ho6''''''''''.below hb28
  clear ho6''''''''''
  have ho8'''''''''' := ho8'''''''''.below hb28
  clear ho8'''''''''
  have ho11''''''''' := ho11''''''''.below hb28
  clear ho11''''''''
  have ho14''''''' := ho14''''''.below hb28
  clear ho14''''''
  have ho17''''' := ho17''''.below hb28
  clear ho17''''
  have ho20'''' := ho20'''.below hb28
  clear ho20'''
  have hi28 := ho28.lt
  try simp only [World.size_alloc] at lo28
  obtain ⟨A28, d28, rfl, -, -⟩ := ho28.slice
  obtain ⟨hc1x0, gc1x0⟩ := k1''''''''''''''.at_ 0 (x := .int .i64 x0.c) rfl
  obtain ⟨hc1x1, gc1x1⟩ := k1''''''''''''''.at_ 1 (x := .slice Aa0 x0.x.length da0) rfl
  have l1 := k1''''''''''''''.lt
  obtain ⟨hc13x0, gc13x0⟩ := k13''''''''.at_ 0 (x := .int .i64 ((putF x0 xs1).getD ⟨0, []⟩).c) rfl
  obtain ⟨hc13x1, gc13x1⟩ := k13''''''''.at_ 1 (x := .slice A11 ((putF x0 xs1).getD ⟨0, []⟩).x.length d11) rfl
  have l13 := k13''''''''.lt
  obtain ⟨hc16x0, gc16x0⟩ := k16''''''.at_ 0 (x := .int .i64 x0.c) rfl
  obtain ⟨hc16x1, gc16x1⟩ := k16''''''.at_ 1 (x := .slice A14 x0.x.length d14) rfl
  have l16 := k16''''''.lt
  obtain ⟨hc22x0, gc22x0⟩ := k22'''.at_ 0 (x := .int .i64 ((putF x0 xs1).getD ⟨0, []⟩).c) rfl
  obtain ⟨hc22x1, gc22x1⟩ := k22'''.at_ 1 (x := .slice A20 ((putF x0 xs1).getD ⟨0, []⟩).x.length d20) rfl
  have l22 := k22'''.lt
  go_wp2_with fail
  refine (eqSpotS _ _ (xs1) (xs1) _ ho17'''''.rd ho28.rd).mono ?_
  rintro e w30 ⟨rfl, hb30⟩
  rw [decide_eq_true rfl]
  clear hc1x0 gc1x0 hc1x1 gc1x1 l1 hc13x0 gc13x0 hc13x1 gc13x1 l13 hc16x0 gc16x0 hc16x1 gc16x1 l16 hc22x0 gc22x0 hc22x1 gc22x1 l22
  have sz31 := hb30.size
  try simp only [World.size_alloc] at sz31
  have hB'''''''''''''''' := hB'''''''''''''''.trans (hb30.mono hB'''''''''''''''.size)
  clear hB'''''''''''''''
  have k1''''''''''''''' := k1''''''''''''''.below hb30 k1''''''''''''''.lt
  clear k1''''''''''''''
  have k13''''''''' := k13''''''''.below hb30 k13''''''''.lt
  clear k13''''''''
  have k16''''''' := k16''''''.below hb30 k16''''''.lt
  clear k16''''''
  have k22'''' := k22'''.below hb30 k22'''.lt
  clear k22'''
  have ho6'''''''''''' := ho6'''''''''''.below hb30
  clear ho6'''''''''''
  have ho8''''''''''' := ho8''''''''''.below hb30
  clear ho8''''''''''
  have ho11'''''''''' := ho11'''''''''.below hb30
  clear ho11'''''''''
  have ho14'''''''' := ho14'''''''.below hb30
  clear ho14'''''''
  have ho17'''''' := ho17'''''.below hb30
  clear ho17'''''
  have ho20''''' := ho20''''.below hb30
  clear ho20''''
  have ho28' := ho28.below hb30
  clear ho28
  obtain ⟨hc1x0, gc1x0⟩ := k1'''''''''''''''.at_ 0 (x := .int .i64 x0.c) rfl
  obtain ⟨hc1x1, gc1x1⟩ := k1'''''''''''''''.at_ 1 (x := .slice Aa0 x0.x.length da0) rfl
  have l1 := k1'''''''''''''''.lt
  obtain ⟨hc13x0, gc13x0⟩ := k13'''''''''.at_ 0 (x := .int .i64 ((putF x0 xs1).getD ⟨0, []⟩).c) rfl
  obtain ⟨hc13x1, gc13x1⟩ := k13'''''''''.at_ 1 (x := .slice A11 ((putF x0 xs1).getD ⟨0, []⟩).x.length d11) rfl
  have l13 := k13'''''''''.lt
  obtain ⟨hc16x0, gc16x0⟩ := k16'''''''.at_ 0 (x := .int .i64 x0.c) rfl
  obtain ⟨hc16x1, gc16x1⟩ := k16'''''''.at_ 1 (x := .slice A14 x0.x.length d14) rfl
  have l16 := k16'''''''.lt
  obtain ⟨hc22x0, gc22x0⟩ := k22''''.at_ 0 (x := .int .i64 ((putF x0 xs1).getD ⟨0, []⟩).c) rfl
  obtain ⟨hc22x1, gc22x1⟩ := k22''''.at_ 1 (x := .slice A20 ((putF x0 xs1).getD ⟨0, []⟩).x.length d20) rfl
  have l22 := k22''''.lt
  go_wp2_with fail
  refine (markProg _ x0 bs14 (1) _ ho14'''''''' (by omega) (by omega) (by omega)).mono ?_
  rintro e w32 ⟨rfl, hq32, hon32⟩
  clear hc1x0 gc1x0 hc1x1 gc1x1 l1 hc13x0 gc13x0 hc13x1 gc13x1 l13 hc16x0 gc16x0 hc16x1 gc16x1 l16 hc22x0 gc22x0 hc22x1 gc22x1 l22
  have sz33 := hon32.size
  try simp only [World.size_alloc] at sz33
  have hB''''''''''''''''' := hB''''''''''''''''.trans (hon32.below hB''''''''''''''''.size (fun b hb => by have := lo14 b hb; omega))
  clear hB''''''''''''''''
  have k1'''''''''''''''' := k1'''''''''''''''.only hon32 (fun hm => by have := lo14 _ hm; have := hi14 _ hm; omega)
  clear k1'''''''''''''''
  have k13'''''''''' := k13'''''''''.only hon32 (fun hm => by have := lo14 _ hm; have := hi14 _ hm; omega)
  clear k13'''''''''
  have k16'''''''' := k16'''''''.only hon32 (fun hm => by have := lo14 _ hm; have := hi14 _ hm; omega)
  clear k16'''''''
  have k22''''' := k22''''.only hon32 (fun hm => by have := lo14 _ hm; have := hi14 _ hm; omega)
  clear k22''''
  have ho6''''''''''''' := ho6''''''''''''.only hon32 (fun b hb hm => by have := lo14 b hm; have := hi14 b hm; have := lo6 b hb; have := hi6 b hb; omega)
  clear ho6''''''''''''
  have ho8'''''''''''' := ho8'''''''''''.only hon32 (fun b hb hm => by have := lo14 b hm; have := hi14 b hm; have := lo8 b hb; have := hi8 b hb; omega)
  clear ho8'''''''''''
  have ho11''''''''''' := ho11''''''''''.only hon32 (fun b hb hm => by have := lo14 b hm; have := hi14 b hm; have := lo11 b hb; have := hi11 b hb; omega)
  clear ho11''''''''''
  have ho17''''''' := ho17''''''.only hon32 (fun b hb hm => by have := lo14 b hm; have := hi14 b hm; have := lo17 b hb; have := hi17 b hb; omega)
  clear ho17''''''
  have ho20'''''' := ho20'''''.only hon32 (fun b hb hm => by have := lo14 b hm; have := hi14 b hm; have := lo20 b hb; have := hi20 b hb; omega)
  clear ho20'''''
  have ho28'' := ho28'.only hon32 (fun b hb hm => by have := lo14 b hm; have := hi14 b hm; have := lo28 b hb; have := hi28 b hb; omega)
  clear ho28'
  obtain ⟨hc1x0, gc1x0⟩ := k1''''''''''''''''.at_ 0 (x := .int .i64 x0.c) rfl
  obtain ⟨hc1x1, gc1x1⟩ := k1''''''''''''''''.at_ 1 (x := .slice Aa0 x0.x.length da0) rfl
  have l1 := k1''''''''''''''''.lt
  obtain ⟨hc13x0, gc13x0⟩ := k13''''''''''.at_ 0 (x := .int .i64 ((putF x0 xs1).getD ⟨0, []⟩).c) rfl
  obtain ⟨hc13x1, gc13x1⟩ := k13''''''''''.at_ 1 (x := .slice A11 ((putF x0 xs1).getD ⟨0, []⟩).x.length d11) rfl
  have l13 := k13''''''''''.lt
  obtain ⟨hc16x0, gc16x0⟩ := k16''''''''.at_ 0 (x := .int .i64 x0.c) rfl
  obtain ⟨hc16x1, gc16x1⟩ := k16''''''''.at_ 1 (x := .slice A14 x0.x.length d14) rfl
  have l16 := k16''''''''.lt
  obtain ⟨hc22x0, gc22x0⟩ := k22'''''.at_ 0 (x := .int .i64 ((putF x0 xs1).getD ⟨0, []⟩).c) rfl
  obtain ⟨hc22x1, gc22x1⟩ := k22'''''.at_ 1 (x := .slice A20 ((putF x0 xs1).getD ⟨0, []⟩).x.length d20) rfl
  have l22 := k22'''''.lt
  go_wp2_with fail
  refine (markSpotS _ _ xs1.length bs17 (1 + (cntSS x0.x : Int)) _ ho17''''''' (by omega) (by omega) (by omega)).mono ?_
  rintro e w34 ⟨rfl, hq34, hon34⟩
  clear hc1x0 gc1x0 hc1x1 gc1x1 l1 hc13x0 gc13x0 hc13x1 gc13x1 l13 hc16x0 gc16x0 hc16x1 gc16x1 l16 hc22x0 gc22x0 hc22x1 gc22x1 l22
  have sz35 := hon34.size
  try simp only [World.size_alloc] at sz35
  have hB'''''''''''''''''' := hB'''''''''''''''''.trans (hon34.below hB'''''''''''''''''.size (fun b hb => by have := lo17 b hb; omega))
  clear hB'''''''''''''''''
  have k1''''''''''''''''' := k1''''''''''''''''.only hon34 (fun hm => by have := lo17 _ hm; have := hi17 _ hm; omega)
  clear k1''''''''''''''''
  have k13''''''''''' := k13''''''''''.only hon34 (fun hm => by have := lo17 _ hm; have := hi17 _ hm; omega)
  clear k13''''''''''
  have k16''''''''' := k16''''''''.only hon34 (fun hm => by have := lo17 _ hm; have := hi17 _ hm; omega)
  clear k16''''''''
  have k22'''''' := k22'''''.only hon34 (fun hm => by have := lo17 _ hm; have := hi17 _ hm; omega)
  clear k22'''''
  have ho6'''''''''''''' := ho6'''''''''''''.only hon34 (fun b hb hm => by have := lo17 b hm; have := hi17 b hm; have := lo6 b hb; have := hi6 b hb; omega)
  clear ho6'''''''''''''
  have ho8''''''''''''' := ho8''''''''''''.only hon34 (fun b hb hm => by have := lo17 b hm; have := hi17 b hm; have := lo8 b hb; have := hi8 b hb; omega)
  clear ho8''''''''''''
  have ho11'''''''''''' := ho11'''''''''''.only hon34 (fun b hb hm => by have := lo17 b hm; have := hi17 b hm; have := lo11 b hb; have := hi11 b hb; omega)
  clear ho11'''''''''''
  have hq32' := hq32.only hon34 (fun b hb hm => by have := lo17 b hm; have := hi17 b hm; have := lo14 b hb; have := hi14 b hb; omega)
  clear hq32
  have ho20''''''' := ho20''''''.only hon34 (fun b hb hm => by have := lo17 b hm; have := hi17 b hm; have := lo20 b hb; have := hi20 b hb; omega)
  clear ho20''''''
  have ho28''' := ho28''.only hon34 (fun b hb hm => by have := lo17 b hm; have := hi17 b hm; have := lo28 b hb; have := hi28 b hb; omega)
  clear ho28''
  obtain ⟨hc1x0, gc1x0⟩ := k1'''''''''''''''''.at_ 0 (x := .int .i64 x0.c) rfl
  obtain ⟨hc1x1, gc1x1⟩ := k1'''''''''''''''''.at_ 1 (x := .slice Aa0 x0.x.length da0) rfl
  have l1 := k1'''''''''''''''''.lt
  obtain ⟨hc13x0, gc13x0⟩ := k13'''''''''''.at_ 0 (x := .int .i64 ((putF x0 xs1).getD ⟨0, []⟩).c) rfl
  obtain ⟨hc13x1, gc13x1⟩ := k13'''''''''''.at_ 1 (x := .slice A11 ((putF x0 xs1).getD ⟨0, []⟩).x.length d11) rfl
  have l13 := k13'''''''''''.lt
  obtain ⟨hc16x0, gc16x0⟩ := k16'''''''''.at_ 0 (x := .int .i64 x0.c) rfl
  obtain ⟨hc16x1, gc16x1⟩ := k16'''''''''.at_ 1 (x := .slice A14 x0.x.length d14) rfl
  have l16 := k16'''''''''.lt
  obtain ⟨hc22x0, gc22x0⟩ := k22''''''.at_ 0 (x := .int .i64 ((putF x0 xs1).getD ⟨0, []⟩).c) rfl
  obtain ⟨hc22x1, gc22x1⟩ := k22''''''.at_ 1 (x := .slice A20 ((putF x0 xs1).getD ⟨0, []⟩).x.length d20) rfl
  have l22 := k22''''''.lt
  go_wp2_with fail
  refine (eqProg _ _ (((putF x0 xs1).getD ⟨0, []⟩)) (((putF x0 xs1).getD ⟨0, []⟩)) _ ho20'''''''.rd ho11''''''''''''.rd).mono ?_
  rintro e w36 ⟨rfl, hb36⟩
  rw [decide_eq_true rfl]
  clear hc1x0 gc1x0 hc1x1 gc1x1 l1 hc13x0 gc13x0 hc13x1 gc13x1 l13 hc16x0 gc16x0 hc16x1 gc16x1 l16 hc22x0 gc22x0 hc22x1 gc22x1 l22
  have sz37 := hb36.size
  try simp only [World.size_alloc] at sz37
  have hB''''''''''''''''''' := hB''''''''''''''''''.trans (hb36.mono hB''''''''''''''''''.size)
  clear hB''''''''''''''''''
  have k1'''''''''''''''''' := k1'''''''''''''''''.below hb36 k1'''''''''''''''''.lt
  clear k1'''''''''''''''''
  have k13'''''''''''' := k13'''''''''''.below hb36 k13'''''''''''.lt
  clear k13'''''''''''
  have k16'''''''''' := k16'''''''''.below hb36 k16'''''''''.lt
  clear k16'''''''''
  have k22''''''' := k22''''''.below hb36 k22''''''.lt
  clear k22''''''
  have ho6''''''''''''''' := ho6''''''''''''''.below hb36
  clear ho6''''''''''''''
  have ho8'''''''''''''' := ho8'''''''''''''.below hb36
  clear ho8'''''''''''''
  have ho11''''''''''''' := ho11''''''''''''.below hb36
  clear ho11''''''''''''
  have hq32'' := hq32'.below hb36
  clear hq32'
  have hq34' := hq34.below hb36
  clear hq34
  have ho20'''''''' := ho20'''''''.below hb36
  clear ho20'''''''
  have ho28'''' := ho28'''.below hb36
  clear ho28'''
  obtain ⟨hc1x0, gc1x0⟩ := k1''''''''''''''''''.at_ 0 (x := .int .i64 x0.c) rfl
  obtain ⟨hc1x1, gc1x1⟩ := k1''''''''''''''''''.at_ 1 (x := .slice Aa0 x0.x.length da0) rfl
  have l1 := k1''''''''''''''''''.lt
  obtain ⟨hc13x0, gc13x0⟩ := k13''''''''''''.at_ 0 (x := .int .i64 ((putF x0 xs1).getD ⟨0, []⟩).c) rfl
  obtain ⟨hc13x1, gc13x1⟩ := k13''''''''''''.at_ 1 (x := .slice A11 ((putF x0 xs1).getD ⟨0, []⟩).x.length d11) rfl
  have l13 := k13''''''''''''.lt
  obtain ⟨hc16x0, gc16x0⟩ := k16''''''''''.at_ 0 (x := .int .i64 x0.c) rfl
  obtain ⟨hc16x1, gc16x1⟩ := k16''''''''''.at_ 1 (x := .slice A14 x0.x.length d14) rfl
  have l16 := k16''''''''''.lt
  obtain ⟨hc22x0, gc22x0⟩ := k22'''''''.at_ 0 (x := .int .i64 ((putF x0 xs1).getD ⟨0, []⟩).c) rfl
  obtain ⟨hc22x1, gc22x1⟩ := k22'''''''.at_ 1 (x := .slice A20 ((putF x0 xs1).getD ⟨0, []⟩).x.length d20) rfl
  have l22 := k22'''''''.lt
  go_wp2_with fail
  refine (markProg _ ((putF x0 xs1).getD ⟨0, []⟩) bs20 (1) _ ho20'''''''' (by omega) (by omega) (by omega)).mono ?_
  rintro e w38 ⟨rfl, hq38, hon38⟩
  clear hc1x0 gc1x0 hc1x1 gc1x1 l1 hc13x0 gc13x0 hc13x1 gc13x1 l13 hc16x0 gc16x0 hc16x1 gc16x1 l16 hc22x0 gc22x0 hc22x1 gc22x1 l22
  have sz39 := hon38.size
  try simp only [World.size_alloc] at sz39
  have hB'''''''''''''''''''' := hB'''''''''''''''''''.trans (hon38.below hB'''''''''''''''''''.size (fun b hb => by have := lo20 b hb; omega))
  clear hB'''''''''''''''''''
  have k1''''''''''''''''''' := k1''''''''''''''''''.only hon38 (fun hm => by have := lo20 _ hm; have := hi20 _ hm; omega)
  clear k1''''''''''''''''''
  have k13''''''''''''' := k13''''''''''''.only hon38 (fun hm => by have := lo20 _ hm; have := hi20 _ hm; omega)
  clear k13''''''''''''
  have k16''''''''''' := k16''''''''''.only hon38 (fun hm => by have := lo20 _ hm; have := hi20 _ hm; omega)
  clear k16''''''''''
  have k22'''''''' := k22'''''''.only hon38 (fun hm => by have := lo20 _ hm; have := hi20 _ hm; omega)
  clear k22'''''''
  have ho6'''''''''''''''' := ho6'''''''''''''''.only hon38 (fun b hb hm => by have := lo20 b hm; have := hi20 b hm; have := lo6 b hb; have := hi6 b hb; omega)
  clear ho6'''''''''''''''
  have ho8''''''''''''''' := ho8''''''''''''''.only hon38 (fun b hb hm => by have := lo20 b hm; have := hi20 b hm; have := lo8 b hb; have := hi8 b hb; omega)
  clear ho8''''''''''''''
  have ho11'''''''''''''' := ho11'''''''''''''.only hon38 (fun b hb hm => by have := lo20 b hm; have := hi20 b hm; have := lo11 b hb; have := hi11 b hb; omega)
  clear ho11'''''''''''''
  have hq32''' := hq32''.only hon38 (fun b hb hm => by have := lo20 b hm; have := hi20 b hm; have := lo14 b hb; have := hi14 b hb; omega)
  clear hq32''
  have hq34'' := hq34'.only hon38 (fun b hb hm => by have := lo20 b hm; have := hi20 b hm; have := lo17 b hb; have := hi17 b hb; omega)
  clear hq34'
  have ho28''''' := ho28''''.only hon38 (fun b hb hm => by have := lo20 b hm; have := hi20 b hm; have := lo28 b hb; have := hi28 b hb; omega)
  clear ho28''''
  obtain ⟨hc1x0, gc1x0⟩ := k1'''''''''''''''''''.at_ 0 (x := .int .i64 x0.c) rfl
  obtain ⟨hc1x1, gc1x1⟩ := k1'''''''''''''''''''.at_ 1 (x := .slice Aa0 x0.x.length da0) rfl
  have l1 := k1'''''''''''''''''''.lt
  obtain ⟨hc13x0, gc13x0⟩ := k13'''''''''''''.at_ 0 (x := .int .i64 ((putF x0 xs1).getD ⟨0, []⟩).c) rfl
  obtain ⟨hc13x1, gc13x1⟩ := k13'''''''''''''.at_ 1 (x := .slice A11 ((putF x0 xs1).getD ⟨0, []⟩).x.length d11) rfl
  have l13 := k13'''''''''''''.lt
  obtain ⟨hc16x0, gc16x0⟩ := k16'''''''''''.at_ 0 (x := .int .i64 x0.c) rfl
  obtain ⟨hc16x1, gc16x1⟩ := k16'''''''''''.at_ 1 (x := .slice A14 x0.x.length d14) rfl
  have l16 := k16'''''''''''.lt
  obtain ⟨hc22x0, gc22x0⟩ := k22''''''''.at_ 0 (x := .int .i64 ((putF x0 xs1).getD ⟨0, []⟩).c) rfl
  obtain ⟨hc22x1, gc22x1⟩ := k22''''''''.at_ 1 (x := .slice A20 ((putF x0 xs1).getD ⟨0, []⟩).x.length d20) rfl
  have l22 := k22''''''''.lt
  go_wp2_with fail
  refine (heldProg _ ((putF x0 xs1).getD ⟨0, []⟩) (1) _ hq38.rd (by omega) (by omega) (by omega)).mono ?_
  rintro e w40 ⟨rfl, hb40⟩
  clear hc1x0 gc1x0 hc1x1 gc1x1 l1 hc13x0 gc13x0 hc13x1 gc13x1 l13 hc16x0 gc16x0 hc16x1 gc16x1 l16 hc22x0 gc22x0 hc22x1 gc22x1 l22
  have sz41 := hb40.size
  try simp only [World.size_alloc] at sz41
  have hB''''''''''''''''''''' := hB''''''''''''''''''''.trans (hb40.mono hB''''''''''''''''''''.size)
  clear hB''''''''''''''''''''
  have k1'''''''''''''''''''' := k1'''''''''''''''''''.below hb40 k1'''''''''''''''''''.lt
  clear k1'''''''''''''''''''
  have k13'''''''''''''' := k13'''''''''''''.below hb40 k13'''''''''''''.lt
  clear k13'''''''''''''
  have k16'''''''''''' := k16'''''''''''.below hb40 k16'''''''''''.lt
  clear k16'''''''''''
  have k22''''''''' := k22''''''''.below hb40 k22''''''''.lt
  clear k22''''''''
  have ho6''''''''''''''''' := ho6''''''''''''''''.below hb40
  clear ho6''''''''''''''''
  have ho8'''''''''''''''' := ho8'''''''''''''''.below hb40
  clear ho8'''''''''''''''
  have ho11''''''''''''''' := ho11''''''''''''''.below hb40
  clear ho11''''''''''''''
  have hq32'''' := hq32'''.below hb40
  clear hq32'''
  have hq34''' := hq34''.below hb40
  clear hq34''
  have hq38' := hq38.below hb40
  clear hq38
  have ho28'''''' := ho28'''''.below hb40
  clear ho28'''''
  obtain ⟨hc1x0, gc1x0⟩ := k1''''''''''''''''''''.at_ 0 (x := .int .i64 x0.c) rfl
  obtain ⟨hc1x1, gc1x1⟩ := k1''''''''''''''''''''.at_ 1 (x := .slice Aa0 x0.x.length da0) rfl
  have l1 := k1''''''''''''''''''''.lt
  obtain ⟨hc13x0, gc13x0⟩ := k13''''''''''''''.at_ 0 (x := .int .i64 ((putF x0 xs1).getD ⟨0, []⟩).c) rfl
  obtain ⟨hc13x1, gc13x1⟩ := k13''''''''''''''.at_ 1 (x := .slice A11 ((putF x0 xs1).getD ⟨0, []⟩).x.length d11) rfl
  have l13 := k13''''''''''''''.lt
  obtain ⟨hc16x0, gc16x0⟩ := k16''''''''''''.at_ 0 (x := .int .i64 x0.c) rfl
  obtain ⟨hc16x1, gc16x1⟩ := k16''''''''''''.at_ 1 (x := .slice A14 x0.x.length d14) rfl
  have l16 := k16''''''''''''.lt
  obtain ⟨hc22x0, gc22x0⟩ := k22'''''''''.at_ 0 (x := .int .i64 ((putF x0 xs1).getD ⟨0, []⟩).c) rfl
  obtain ⟨hc22x1, gc22x1⟩ := k22'''''''''.at_ 1 (x := .slice A20 ((putF x0 xs1).getD ⟨0, []⟩).x.length d20) rfl
  have l22 := k22'''''''''.lt
  go_wp2_with fail
  refine (toProg _ x0 _ (HAaP.out.below hB''''''''''''''''''''') (by omega)).mono ?_
  rintro e w42 ⟨v42x0, bs42, rfl, ho42, lo42, hb42⟩
  clear hc1x0 gc1x0 hc1x1 gc1x1 l1 hc13x0 gc13x0 hc13x1 gc13x1 l13 hc16x0 gc16x0 hc16x1 gc16x1 l16 hc22x0 gc22x0 hc22x1 gc22x1 l22
  have sz43 := hb42.size
  try simp only [World.size_alloc] at sz43
  have hB'''''''''''''''''''''' := hB'''''''''''''''''''''.trans (hb42.mono hB'''''''''''''''''''''.size)
  clear hB'''''''''''''''''''''
  have k1''''''''''''''''''''' := k1''''''''''''''''''''.below hb42 k1''''''''''''''''''''.lt
  clear k1''''''''''''''''''''
  have k13''''''''''''''' := k13''''''''''''''.below hb42 k13''''''''''''''.lt
  clear k13''''''''''''''
  have k16''''''''''''' := k16''''''''''''.below hb42 k16''''''''''''.lt
  clear k16''''''''''''
  have k22'''''''''' := k22'''''''''.below hb42 k22'''''''''.lt
  clear k22'''''''''
  have ho6'''''''''''''''''' := ho6'''''''''''''''''.below hb42
  clear ho6'''''''''''''''''
  have ho8''''''''''''''''' := ho8''''''''''''''''.below hb42
  clear ho8''''''''''''''''
  have ho11'''''''''''''''' := ho11'''''''''''''''.below hb42
  clear ho11'''''''''''''''
  have hq32''''' := hq32''''.below hb42
  clear hq32''''
  have hq34'''' := hq34'''.below hb42
  clear hq34'''
  have hq38'' := hq38'.below hb42
  clear hq38'
  have ho28''''''' := ho28''''''.below hb42
  clear ho28''''''
  have hi42 := ho42.lt
  try simp only [World.size_alloc] at lo42
  obtain ⟨A42, d42, rfl, -, -⟩ := ho42.slice
  obtain ⟨hc1x0, gc1x0⟩ := k1'''''''''''''''''''''.at_ 0 (x := .int .i64 x0.c) rfl
  obtain ⟨hc1x1, gc1x1⟩ := k1'''''''''''''''''''''.at_ 1 (x := .slice Aa0 x0.x.length da0) rfl
  have l1 := k1'''''''''''''''''''''.lt
  obtain ⟨hc13x0, gc13x0⟩ := k13'''''''''''''''.at_ 0 (x := .int .i64 ((putF x0 xs1).getD ⟨0, []⟩).c) rfl
  obtain ⟨hc13x1, gc13x1⟩ := k13'''''''''''''''.at_ 1 (x := .slice A11 ((putF x0 xs1).getD ⟨0, []⟩).x.length d11) rfl
  have l13 := k13'''''''''''''''.lt
  obtain ⟨hc16x0, gc16x0⟩ := k16'''''''''''''.at_ 0 (x := .int .i64 x0.c) rfl
  obtain ⟨hc16x1, gc16x1⟩ := k16'''''''''''''.at_ 1 (x := .slice A14 x0.x.length d14) rfl
  have l16 := k16'''''''''''''.lt
  obtain ⟨hc22x0, gc22x0⟩ := k22''''''''''.at_ 0 (x := .int .i64 ((putF x0 xs1).getD ⟨0, []⟩).c) rfl
  obtain ⟨hc22x1, gc22x1⟩ := k22''''''''''.at_ 1 (x := .slice A20 ((putF x0 xs1).getD ⟨0, []⟩).x.length d20) rfl
  have l22 := k22''''''''''.lt
  go_wp2_with fail
  refine (toSpotS _ xs1 _ (HAaSpots.out.below hB'''''''''''''''''''''') (by omega)).mono ?_
  rintro e w44 ⟨v44x0, bs44, rfl, ho44, lo44, hb44⟩
  clear hc1x0 gc1x0 hc1x1 gc1x1 l1 hc13x0 gc13x0 hc13x1 gc13x1 l13 hc16x0 gc16x0 hc16x1 gc16x1 l16 hc22x0 gc22x0 hc22x1 gc22x1 l22
  have sz45 := hb44.size
  try simp only [World.size_alloc] at sz45
  have hB''''''''''''''''''''''' := hB''''''''''''''''''''''.trans (hb44.mono hB''''''''''''''''''''''.size)
  clear hB''''''''''''''''''''''
  have k1'''''''''''''''''''''' := k1'''''''''''''''''''''.below hb44 k1'''''''''''''''''''''.lt
  clear k1'''''''''''''''''''''
  have k13'''''''''''''''' := k13'''''''''''''''.below hb44 k13'''''''''''''''.lt
  clear k13'''''''''''''''
  have k16'''''''''''''' := k16'''''''''''''.below hb44 k16'''''''''''''.lt
  clear k16'''''''''''''
  have k22''''''''''' := k22''''''''''.below hb44 k22''''''''''.lt
  clear k22''''''''''
  have ho6''''''''''''''''''' := ho6''''''''''''''''''.below hb44
  clear ho6''''''''''''''''''
  have ho8'''''''''''''''''' := ho8'''''''''''''''''.below hb44
  clear ho8'''''''''''''''''
  have ho11''''''''''''''''' := ho11''''''''''''''''.below hb44
  clear ho11''''''''''''''''
  have hq32'''''' := hq32'''''.below hb44
  clear hq32'''''
  have hq34''''' := hq34''''.below hb44
  clear hq34''''
  have hq38''' := hq38''.below hb44
  clear hq38''
  have ho28'''''''' := ho28'''''''.below hb44
  clear ho28'''''''
  have ho42' := ho42.below hb44
  clear ho42
  have hi44 := ho44.lt
  try simp only [World.size_alloc] at lo44
  obtain ⟨A44, d44, rfl, -, -⟩ := ho44.slice
  obtain ⟨hc1x0, gc1x0⟩ := k1''''''''''''''''''''''.at_ 0 (x := .int .i64 x0.c) rfl
  obtain ⟨hc1x1, gc1x1⟩ := k1''''''''''''''''''''''.at_ 1 (x := .slice Aa0 x0.x.length da0) rfl
  have l1 := k1''''''''''''''''''''''.lt
  obtain ⟨hc13x0, gc13x0⟩ := k13''''''''''''''''.at_ 0 (x := .int .i64 ((putF x0 xs1).getD ⟨0, []⟩).c) rfl
  obtain ⟨hc13x1, gc13x1⟩ := k13''''''''''''''''.at_ 1 (x := .slice A11 ((putF x0 xs1).getD ⟨0, []⟩).x.length d11) rfl
  have l13 := k13''''''''''''''''.lt
  obtain ⟨hc16x0, gc16x0⟩ := k16''''''''''''''.at_ 0 (x := .int .i64 x0.c) rfl
  obtain ⟨hc16x1, gc16x1⟩ := k16''''''''''''''.at_ 1 (x := .slice A14 x0.x.length d14) rfl
  have l16 := k16''''''''''''''.lt
  obtain ⟨hc22x0, gc22x0⟩ := k22'''''''''''.at_ 0 (x := .int .i64 ((putF x0 xs1).getD ⟨0, []⟩).c) rfl
  obtain ⟨hc22x1, gc22x1⟩ := k22'''''''''''.at_ 1 (x := .slice A20 ((putF x0 xs1).getD ⟨0, []⟩).x.length d20) rfl
  have l22 := k22'''''''''''.lt
  go_wp2_with fail
  refine (impl_PutFences _ _ x0 xs1 _ ho42'.rd ho44.rd).mono ?_
  rintro e w46 ⟨v47x0, bs47, rfl, ho47, lo47, hb47⟩
  clear hc1x0 gc1x0 hc1x1 gc1x1 l1 hc13x0 gc13x0 hc13x1 gc13x1 l13 hc16x0 gc16x0 hc16x1 gc16x1 l16 hc22x0 gc22x0 hc22x1 gc22x1 l22
  have sz48 := hb47.size
  try simp only [World.size_alloc] at sz48
  have hB'''''''''''''''''''''''' := hB'''''''''''''''''''''''.trans (hb47.mono hB'''''''''''''''''''''''.size)
  clear hB'''''''''''''''''''''''
  have k1''''''''''''''''''''''' := k1''''''''''''''''''''''.below hb47 k1''''''''''''''''''''''.lt
  clear k1''''''''''''''''''''''
  have k13''''''''''''''''' := k13''''''''''''''''.below hb47 k13''''''''''''''''.lt
  clear k13''''''''''''''''
  have k16''''''''''''''' := k16''''''''''''''.below hb47 k16''''''''''''''.lt
  clear k16''''''''''''''
  have k22'''''''''''' := k22'''''''''''.below hb47 k22'''''''''''.lt
  clear k22'''''''''''
  have ho6'''''''''''''''''''' := ho6'''''''''''''''''''.below hb47
  clear ho6'''''''''''''''''''
  have ho8''''''''''''''''''' := ho8''''''''''''''''''.below hb47
  clear ho8''''''''''''''''''
  have ho11'''''''''''''''''' := ho11'''''''''''''''''.below hb47
  clear ho11'''''''''''''''''
  have hq32''''''' := hq32''''''.below hb47
  clear hq32''''''
  have hq34'''''' := hq34'''''.below hb47
  clear hq34'''''
  have hq38'''' := hq38'''.below hb47
  clear hq38'''
  have ho28''''''''' := ho28''''''''.below hb47
  clear ho28''''''''
  have ho42'' := ho42'.below hb47
  clear ho42'
  have ho44' := ho44.below hb47
  clear ho44
  have hi47 := ho47.lt
  try simp only [World.size_alloc] at lo47
  obtain ⟨A47, d47, rfl, -, -⟩ := ho47.slice
  obtain ⟨hc1x0, gc1x0⟩ := k1'''''''''''''''''''''''.at_ 0 (x := .int .i64 x0.c) rfl
  obtain ⟨hc1x1, gc1x1⟩ := k1'''''''''''''''''''''''.at_ 1 (x := .slice Aa0 x0.x.length da0) rfl
  have l1 := k1'''''''''''''''''''''''.lt
  obtain ⟨hc13x0, gc13x0⟩ := k13'''''''''''''''''.at_ 0 (x := .int .i64 ((putF x0 xs1).getD ⟨0, []⟩).c) rfl
  obtain ⟨hc13x1, gc13x1⟩ := k13'''''''''''''''''.at_ 1 (x := .slice A11 ((putF x0 xs1).getD ⟨0, []⟩).x.length d11) rfl
  have l13 := k13'''''''''''''''''.lt
  obtain ⟨hc16x0, gc16x0⟩ := k16'''''''''''''''.at_ 0 (x := .int .i64 x0.c) rfl
  obtain ⟨hc16x1, gc16x1⟩ := k16'''''''''''''''.at_ 1 (x := .slice A14 x0.x.length d14) rfl
  have l16 := k16'''''''''''''''.lt
  obtain ⟨hc22x0, gc22x0⟩ := k22''''''''''''.at_ 0 (x := .int .i64 ((putF x0 xs1).getD ⟨0, []⟩).c) rfl
  obtain ⟨hc22x1, gc22x1⟩ := k22''''''''''''.at_ 1 (x := .slice A20 ((putF x0 xs1).getD ⟨0, []⟩).x.length d20) rfl
  have l22 := k22''''''''''''.lt
  go_wp2_with fail
  clear hc1x0 gc1x0 hc1x1 gc1x1 l1 hc13x0 gc13x0 hc13x1 gc13x1 l13 hc16x0 gc16x0 hc16x1 gc16x1 l16 hc22x0 gc22x0 hc22x1 gc22x1 l22
  have k1'''''''''''''''''''''''' := k1'''''''''''''''''''''''.alloc (.cells #[.int .i64 ((putF x0 xs1).getD ⟨0, []⟩).c, .slice A47 ((putF x0 xs1).getD ⟨0, []⟩).x.length d47] 33)
  clear k1'''''''''''''''''''''''
  have k13'''''''''''''''''' := k13'''''''''''''''''.alloc (.cells #[.int .i64 ((putF x0 xs1).getD ⟨0, []⟩).c, .slice A47 ((putF x0 xs1).getD ⟨0, []⟩).x.length d47] 33)
  clear k13'''''''''''''''''
  have k16'''''''''''''''' := k16'''''''''''''''.alloc (.cells #[.int .i64 ((putF x0 xs1).getD ⟨0, []⟩).c, .slice A47 ((putF x0 xs1).getD ⟨0, []⟩).x.length d47] 33)
  clear k16'''''''''''''''
  have k22''''''''''''' := k22''''''''''''.alloc (.cells #[.int .i64 ((putF x0 xs1).getD ⟨0, []⟩).c, .slice A47 ((putF x0 xs1).getD ⟨0, []⟩).x.length d47] 33)
  clear k22''''''''''''
  have ho6''''''''''''''''''''' := ho6''''''''''''''''''''.below ((Below.refl _ _).alloc (Nat.le_refl _) (.cells #[.int .i64 ((putF x0 xs1).getD ⟨0, []⟩).c, .slice A47 ((putF x0 xs1).getD ⟨0, []⟩).x.length d47] 33))
  clear ho6''''''''''''''''''''
  have ho8'''''''''''''''''''' := ho8'''''''''''''''''''.below ((Below.refl _ _).alloc (Nat.le_refl _) (.cells #[.int .i64 ((putF x0 xs1).getD ⟨0, []⟩).c, .slice A47 ((putF x0 xs1).getD ⟨0, []⟩).x.length d47] 33))
  clear ho8'''''''''''''''''''
  have ho11''''''''''''''''''' := ho11''''''''''''''''''.below ((Below.refl _ _).alloc (Nat.le_refl _) (.cells #[.int .i64 ((putF x0 xs1).getD ⟨0, []⟩).c, .slice A47 ((putF x0 xs1).getD ⟨0, []⟩).x.length d47] 33))
  clear ho11''''''''''''''''''
  have hq32'''''''' := hq32'''''''.below ((Below.refl _ _).alloc (Nat.le_refl _) (.cells #[.int .i64 ((putF x0 xs1).getD ⟨0, []⟩).c, .slice A47 ((putF x0 xs1).getD ⟨0, []⟩).x.length d47] 33))
  clear hq32'''''''
  have hq34''''''' := hq34''''''.below ((Below.refl _ _).alloc (Nat.le_refl _) (.cells #[.int .i64 ((putF x0 xs1).getD ⟨0, []⟩).c, .slice A47 ((putF x0 xs1).getD ⟨0, []⟩).x.length d47] 33))
  clear hq34''''''
  have hq38''''' := hq38''''.below ((Below.refl _ _).alloc (Nat.le_refl _) (.cells #[.int .i64 ((putF x0 xs1).getD ⟨0, []⟩).c, .slice A47 ((putF x0 xs1).getD ⟨0, []⟩).x.length d47] 33))
  clear hq38''''
  have ho28'''''''''' := ho28'''''''''.below ((Below.refl _ _).alloc (Nat.le_refl _) (.cells #[.int .i64 ((putF x0 xs1).getD ⟨0, []⟩).c, .slice A47 ((putF x0 xs1).getD ⟨0, []⟩).x.length d47] 33))
  clear ho28'''''''''
  have ho42''' := ho42''.below ((Below.refl _ _).alloc (Nat.le_refl _) (.cells #[.int .i64 ((putF x0 xs1).getD ⟨0, []⟩).c, .slice A47 ((putF x0 xs1).getD ⟨0, []⟩).x.length d47] 33))
  clear ho42''
  have ho44'' := ho44'.below ((Below.refl _ _).alloc (Nat.le_refl _) (.cells #[.int .i64 ((putF x0 xs1).getD ⟨0, []⟩).c, .slice A47 ((putF x0 xs1).getD ⟨0, []⟩).x.length d47] 33))
  clear ho44'
  have ho47' := ho47.below ((Below.refl _ _).alloc (Nat.le_refl _) (.cells #[.int .i64 ((putF x0 xs1).getD ⟨0, []⟩).c, .slice A47 ((putF x0 xs1).getD ⟨0, []⟩).x.length d47] 33))
  clear ho47
  have hB''''''''''''''''''''''''' := hB''''''''''''''''''''''''.alloc hB''''''''''''''''''''''''.size (.cells #[.int .i64 ((putF x0 xs1).getD ⟨0, []⟩).c, .slice A47 ((putF x0 xs1).getD ⟨0, []⟩).x.length d47] 33)
  clear hB''''''''''''''''''''''''
  have k49 := Bk.new w46 #[.int .i64 ((putF x0 xs1).getD ⟨0, []⟩).c, .slice A47 ((putF x0 xs1).getD ⟨0, []⟩).x.length d47] 33
  refine (eqProg _ _ (((putF x0 xs1).getD ⟨0, []⟩)) (((putF x0 xs1).getD ⟨0, []⟩)) _ ho47'.rd ho11'''''''''''''''''''.rd).mono ?_
  rintro e w50 ⟨rfl, hb50⟩
  rw [decide_eq_true rfl]
  have sz51 := hb50.size
  try simp only [World.size_alloc] at sz51
  have hB'''''''''''''''''''''''''' := hB'''''''''''''''''''''''''.trans (hb50.mono hB'''''''''''''''''''''''''.size)
  clear hB'''''''''''''''''''''''''
  have k1''''''''''''''''''''''''' := k1''''''''''''''''''''''''.below hb50 k1''''''''''''''''''''''''.lt
  clear k1''''''''''''''''''''''''
  have k13''''''''''''''''''' := k13''''''''''''''''''.below hb50 k13''''''''''''''''''.lt
  clear k13''''''''''''''''''
  have k16''''''''''''''''' := k16''''''''''''''''.below hb50 k16''''''''''''''''.lt
  clear k16''''''''''''''''
  have k22'''''''''''''' := k22'''''''''''''.below hb50 k22'''''''''''''.lt
  clear k22'''''''''''''
  have k49' := k49.below hb50 k49.lt
  clear k49
  have ho6'''''''''''''''''''''' := ho6'''''''''''''''''''''.below hb50
  clear ho6'''''''''''''''''''''
  have ho8''''''''''''''''''''' := ho8''''''''''''''''''''.below hb50
  clear ho8''''''''''''''''''''
  have ho11'''''''''''''''''''' := ho11'''''''''''''''''''.below hb50
  clear ho11'''''''''''''''''''
  have hq32''''''''' := hq32''''''''.below hb50
  clear hq32''''''''
  have hq34'''''''' := hq34'''''''.below hb50
  clear hq34'''''''
  have hq38'''''' := hq38'''''.below hb50
  clear hq38'''''
  have ho28''''''''''' := ho28''''''''''.below hb50
  clear ho28''''''''''
  have ho42'''' := ho42'''.below hb50
  clear ho42'''
  have ho44''' := ho44''.below hb50
  clear ho44''
  have ho47'' := ho47'.below hb50
  clear ho47'
  obtain ⟨hc1x0, gc1x0⟩ := k1'''''''''''''''''''''''''.at_ 0 (x := .int .i64 x0.c) rfl
  obtain ⟨hc1x1, gc1x1⟩ := k1'''''''''''''''''''''''''.at_ 1 (x := .slice Aa0 x0.x.length da0) rfl
  have l1 := k1'''''''''''''''''''''''''.lt
  obtain ⟨hc13x0, gc13x0⟩ := k13'''''''''''''''''''.at_ 0 (x := .int .i64 ((putF x0 xs1).getD ⟨0, []⟩).c) rfl
  obtain ⟨hc13x1, gc13x1⟩ := k13'''''''''''''''''''.at_ 1 (x := .slice A11 ((putF x0 xs1).getD ⟨0, []⟩).x.length d11) rfl
  have l13 := k13'''''''''''''''''''.lt
  obtain ⟨hc16x0, gc16x0⟩ := k16'''''''''''''''''.at_ 0 (x := .int .i64 x0.c) rfl
  obtain ⟨hc16x1, gc16x1⟩ := k16'''''''''''''''''.at_ 1 (x := .slice A14 x0.x.length d14) rfl
  have l16 := k16'''''''''''''''''.lt
  obtain ⟨hc22x0, gc22x0⟩ := k22''''''''''''''.at_ 0 (x := .int .i64 ((putF x0 xs1).getD ⟨0, []⟩).c) rfl
  obtain ⟨hc22x1, gc22x1⟩ := k22''''''''''''''.at_ 1 (x := .slice A20 ((putF x0 xs1).getD ⟨0, []⟩).x.length d20) rfl
  have l22 := k22''''''''''''''.lt
  obtain ⟨hc49x0, gc49x0⟩ := k49'.at_ 0 (x := .int .i64 ((putF x0 xs1).getD ⟨0, []⟩).c) rfl
  obtain ⟨hc49x1, gc49x1⟩ := k49'.at_ 1 (x := .slice A47 ((putF x0 xs1).getD ⟨0, []⟩).x.length d47) rfl
  have l49 := k49'.lt
  go_wp2_with fail
  refine (heldProg _ ((putF x0 xs1).getD ⟨0, []⟩) (1) _ hq38''''''.rd (by omega) (by omega) (by omega)).mono ?_
  rintro e w52 ⟨rfl, hb52⟩
  clear hc1x0 gc1x0 hc1x1 gc1x1 l1 hc13x0 gc13x0 hc13x1 gc13x1 l13 hc16x0 gc16x0 hc16x1 gc16x1 l16 hc22x0 gc22x0 hc22x1 gc22x1 l22 hc49x0 gc49x0 hc49x1 gc49x1 l49
  have sz53 := hb52.size
  try simp only [World.size_alloc] at sz53
  have hB''''''''''''''''''''''''''' := hB''''''''''''''''''''''''''.trans (hb52.mono hB''''''''''''''''''''''''''.size)
  clear hB''''''''''''''''''''''''''
  have k1'''''''''''''''''''''''''' := k1'''''''''''''''''''''''''.below hb52 k1'''''''''''''''''''''''''.lt
  clear k1'''''''''''''''''''''''''
  have k13'''''''''''''''''''' := k13'''''''''''''''''''.below hb52 k13'''''''''''''''''''.lt
  clear k13'''''''''''''''''''
  have k16'''''''''''''''''' := k16'''''''''''''''''.below hb52 k16'''''''''''''''''.lt
  clear k16'''''''''''''''''
  have k22''''''''''''''' := k22''''''''''''''.below hb52 k22''''''''''''''.lt
  clear k22''''''''''''''
  have k49'' := k49'.below hb52 k49'.lt
  clear k49'
  have ho6''''''''''''''''''''''' := ho6''''''''''''''''''''''.below hb52
  clear ho6''''''''''''''''''''''
  have ho8'''''''''''''''''''''' := ho8'''''''''''''''''''''.below hb52
  clear ho8'''''''''''''''''''''
  have ho11''''''''''''''''''''' := ho11''''''''''''''''''''.below hb52
  clear ho11''''''''''''''''''''
  have hq32'''''''''' := hq32'''''''''.below hb52
  clear hq32'''''''''
  have hq34''''''''' := hq34''''''''.below hb52
  clear hq34''''''''
  have hq38''''''' := hq38''''''.below hb52
  clear hq38''''''
  have ho28'''''''''''' := ho28'''''''''''.below hb52
  clear ho28'''''''''''
  have ho42''''' := ho42''''.below hb52
  clear ho42''''
  have ho44'''' := ho44'''.below hb52
  clear ho44'''
  have ho47''' := ho47''.below hb52
  clear ho47''
  obtain ⟨hc1x0, gc1x0⟩ := k1''''''''''''''''''''''''''.at_ 0 (x := .int .i64 x0.c) rfl
  obtain ⟨hc1x1, gc1x1⟩ := k1''''''''''''''''''''''''''.at_ 1 (x := .slice Aa0 x0.x.length da0) rfl
  have l1 := k1''''''''''''''''''''''''''.lt
  obtain ⟨hc13x0, gc13x0⟩ := k13''''''''''''''''''''.at_ 0 (x := .int .i64 ((putF x0 xs1).getD ⟨0, []⟩).c) rfl
  obtain ⟨hc13x1, gc13x1⟩ := k13''''''''''''''''''''.at_ 1 (x := .slice A11 ((putF x0 xs1).getD ⟨0, []⟩).x.length d11) rfl
  have l13 := k13''''''''''''''''''''.lt
  obtain ⟨hc16x0, gc16x0⟩ := k16''''''''''''''''''.at_ 0 (x := .int .i64 x0.c) rfl
  obtain ⟨hc16x1, gc16x1⟩ := k16''''''''''''''''''.at_ 1 (x := .slice A14 x0.x.length d14) rfl
  have l16 := k16''''''''''''''''''.lt
  obtain ⟨hc22x0, gc22x0⟩ := k22'''''''''''''''.at_ 0 (x := .int .i64 ((putF x0 xs1).getD ⟨0, []⟩).c) rfl
  obtain ⟨hc22x1, gc22x1⟩ := k22'''''''''''''''.at_ 1 (x := .slice A20 ((putF x0 xs1).getD ⟨0, []⟩).x.length d20) rfl
  have l22 := k22'''''''''''''''.lt
  obtain ⟨hc49x0, gc49x0⟩ := k49''.at_ 0 (x := .int .i64 ((putF x0 xs1).getD ⟨0, []⟩).c) rfl
  obtain ⟨hc49x1, gc49x1⟩ := k49''.at_ 1 (x := .slice A47 ((putF x0 xs1).getD ⟨0, []⟩).x.length d47) rfl
  have l49 := k49''.lt
  go_wp2_with fail
  go_ret
  exact ⟨rfl, hB'''''''''''''''''''''''''''⟩
set_option maxRecDepth 100000 in
theorem lift_PutFences (os : Os) (started : os.Started) (H : Type) (enc : TypeId × Value → H) :
    ReturnsInHanded {} Try.checked os 4 .any (Rows.fnExactPutFencesSpec.pre6 enc Try.prog Try.f4 Rows.fnExactPutFencesRow.domain false) (Rows.fnExactPutFencesSpec.post enc Try.prog Try.f4 false true false false) := by
  refine returnsInHanded_of_change (C := Try.checked) (by kernel_rfl) started (by kernel_rfl) Try.func4
    (ChangeSpec.witness6 (enc := enc) (C := Try.checked) false ⟨#[], #[.agg #[.int .i64 0, .slice none 0 0], .slice none 0 0], []⟩ 8 (by kernel_rfl) (by kernel_rfl) (by kernel_rfl) (by kernel_rfl)) ?_
  intro W base args ds gs before hval0 hW hcnd _
  have hval : ∀ (j : Nat) t v, Try.f4.params[j]? = some t → args[j]? = some v → Value.okWide Try.prog W .any base t v := hval0
  have hW' := hW
  obtain ⟨p, q, hA0, hV, rfl, hfz, hnd⟩ := hW
  have hA : DataW.TrodAll enc Try.prog W 0 (fun _ => true) true Try.f4.params.toList args.toList ds p := hA0
  rw [Try.params4] at hA hval
  obtain ⟨v0, vs0, d0, ds0, p0, q0, hargs, rfl, rfl, h0, r0⟩ := trodAll_cons hA
  obtain ⟨v1, vs1, d1, ds1, p1, q1, rfl, rfl, rfl, h1, r1⟩ := trodAll_cons r0
  obtain ⟨rfl, rfl, rfl⟩ := trodAll_nil r1
  obtain rfl : args = #[v0, v1] := by cases args; simp_all
  obtain ⟨rfl, rfl⟩ := trodVars_none hV
  obtain ⟨c0, x0, rfl, hR0⟩ := read_prog Try.underlying26 ⟨rfl, rfl⟩ ⟨rfl, rfl⟩ (by decide +kernel) (by kernel_rfl) Try.underlying3 Try.underlying24 (by kernel_rfl) Try.underlying55 Try.underlying94 (by kernel_rfl) ⟨rfl, rfl, rfl, rfl⟩ (by decide +kernel) ⟨Try.underlying3, Try.underlying3, Try.underlying3, Try.underlying3⟩ (hval 0 _ v0 rfl rfl) h0
  obtain ⟨c1, l1, e1, rfl⟩ := okWide_slice Try.underlying37 (hval 1 _ v1 rfl rfl)
  obtain ⟨fuel1, hf1⟩ := h1
  obtain ⟨xs1, hR1, hI1⟩ := read_p2s Try.underlying37 Try.underlying23 (by kernel_rfl) ⟨rfl, rfl⟩ (by decide +kernel) ⟨Try.underlying3, Try.underlying3⟩ (by simpa [Value.cells] using hf1)
  refine (walk_PutFences c0 x0 _ xs1 W hR0 hR1).mono fun e W' ⟨he, hb⟩ => ?_
  subst he
  exact ⟨_, rfl, post_law (by kernel_rfl) rfl rfl (by kernel_rfl) Try.underlying4 (of_decide_eq_true (by kernel_rfl)) hW' hb⟩
theorem FnExactPutFences_holds : Rows.FnExactPutFencesSaid :=
  OpenClaim.holds_of_wide 4 Try.f4 rfl rfl rfl rfl rfl rfl rfl ⟨rfl, rfl, rfl, rfl, rfl⟩ rfl rfl rfl rfl rfl (by kernel_rfl) Try.func4 (by kernel_rfl)
    (of_decide_eq_true (by kernel_rfl)) (by unfold Func.isWrapper; first | (rw [if_pos (by decide +kernel)]; kernel_rfl) | (rw [if_neg (by decide +kernel)]; exact ⟨rfl, rfl⟩))
    (fun os started H enc _ => lift_PutFences os started H enc)
#print axioms FnExactPutFences_holds
end Go.Proofs.Ytgbgjlmkmlhefaa
