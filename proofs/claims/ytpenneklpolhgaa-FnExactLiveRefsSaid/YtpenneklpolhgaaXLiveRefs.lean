/- FnExactLiveRefs answers true at every input: LiveRefs answers as its model does, leaves its arguments alone and owns its answer. Conditions: none. -/
import Derived.Test.YtpenneklpolhgaaLaw
import Derived.Test.YtpenneklpolhgaaLaw8
import Derived.Test.YtpenneklpolhgaaMH
import Derived.Test.YtpenneklpolhgaaH3
import Derived.Test.YtpenneklpolhgaaH7
import Derived.Deep.RegionHeld3
namespace Go.Proofs.Ytpenneklpolhgaa
set_option maxRecDepth 20000
set_option linter.unusedSimpArgs false
set_option linter.unusedVariables false
open Go.ChangeShapes Go.WideShapes Go.ChangeAt Go.RowKit
set_option linter.unusedVariables false
set_option maxHeartbeats 4000000 in
theorem walk_LiveRefs (v0 u0 : Value) (x0 : Hp) (w : World) (hA0 : RdAHp w v0 u0 x0) :
    Calls Try.prog 7 #[.agg #[v0, u0]] w fun e w' => e = .returned (.bool true) ∧ Below w.heap.size w w' := by
  obtain ⟨Aa0, da0, Ba0, ea0, rfl, rfl⟩ := hA0.slices
  have HAaH := Lib.hid hA0
  clear hA0
  have hqt := liveF_len x0
  have hB := Below.refl w.heap.size w
  go_enter Try.func7, Try.ntmps7
  go_wp2_with fail
  have hB' := hB.alloc hB.size (.cells #[.slice Aa0 x0.g.length da0, .slice Ba0 x0.l.length ea0] 25)
  clear hB
  have k1 := Bk.new w #[.slice Aa0 x0.g.length da0, .slice Ba0 x0.l.length ea0] 25
  refine (szHeap _ _ x0 (1048576) _ (HAaH.out.below hB') (by omega) (by omega)).mono ?_
  rintro e w2 ⟨rfl, hb2⟩
  have sz3 := hb2.size
  try simp only [World.size_alloc] at sz3
  have hB'' := hB'.trans (hb2.mono hB'.size)
  clear hB'
  have k1' := k1.below hb2 k1.lt
  clear k1
  by_cases hn2 : (1048576 : Int) - (totHp x0) < 0
  · rw [show szF (totHp x0) (1048576) = -1 by unfold szF; rw [if_pos hn2]]
    go_wp2_with fail
    go_ret
    exact ⟨rfl, hB''⟩
  rw [show szF (totHp x0) (1048576) = 1048576 - (totHp x0) by unfold szF; rw [if_neg hn2]]
  obtain ⟨hc1x0, gc1x0⟩ := k1'.at_ 0 (x := .slice Aa0 x0.g.length da0) rfl
  obtain ⟨hc1x1, gc1x1⟩ := k1'.at_ 1 (x := .slice Ba0 x0.l.length ea0) rfl
  have l1 := k1'.lt
  go_wp2_with fail
  refine (toHeap _ _ x0 _ (HAaH.out.below hB'') (by omega)).mono ?_
  rintro e w4 ⟨v4x0, v4x1, bs4, rfl, ho4, lo4, hb4⟩
  clear hc1x0 gc1x0 hc1x1 gc1x1 l1
  have sz5 := hb4.size
  try simp only [World.size_alloc] at sz5
  have hB''' := hB''.trans (hb4.mono hB''.size)
  clear hB''
  have k1'' := k1'.below hb4 k1'.lt
  clear k1'
  have hi4 := ho4.lt
  try simp only [World.size_alloc] at lo4
  obtain ⟨A4, d4, B4, e4, rfl, rfl⟩ := ho4.slices
  obtain ⟨hc1x0, gc1x0⟩ := k1''.at_ 0 (x := .slice Aa0 x0.g.length da0) rfl
  obtain ⟨hc1x1, gc1x1⟩ := k1''.at_ 1 (x := .slice Ba0 x0.l.length ea0) rfl
  have l1 := k1''.lt
  go_wp2_with fail
  refine (spec_LiveRefs _ _ x0 _ ho4.rd).mono ?_
  rintro e w6 ⟨v7x0, bs7, rfl, ho7, lo7, hb7⟩
  clear hc1x0 gc1x0 hc1x1 gc1x1 l1
  have sz8 := hb7.size
  try simp only [World.size_alloc] at sz8
  have hB'''' := hB'''.trans (hb7.mono hB'''.size)
  clear hB'''
  have k1''' := k1''.below hb7 k1''.lt
  clear k1''
  have ho4' := ho4.below hb7
  clear ho4
  have hi7 := ho7.lt
  try simp only [World.size_alloc] at lo7
  obtain ⟨A7, d7, rfl, -, -⟩ := ho7.slice
  obtain ⟨hc1x0, gc1x0⟩ := k1'''.at_ 0 (x := .slice Aa0 x0.g.length da0) rfl
  obtain ⟨hc1x1, gc1x1⟩ := k1'''.at_ 1 (x := .slice Ba0 x0.l.length ea0) rfl
  have l1 := k1'''.lt
  go_wp2_with fail
  refine (toHeap _ _ x0 _ (HAaH.out.below hB'''') (by omega)).mono ?_
  rintro e w9 ⟨v9x0, v9x1, bs9, rfl, ho9, lo9, hb9⟩
  clear hc1x0 gc1x0 hc1x1 gc1x1 l1
  have sz10 := hb9.size
  try simp only [World.size_alloc] at sz10
  have hB''''' := hB''''.trans (hb9.mono hB''''.size)
  clear hB''''
  have k1'''' := k1'''.below hb9 k1'''.lt
  clear k1'''
  have ho4'' := ho4'.below hb9
  clear ho4'
  have ho7' := ho7.below hb9
  clear ho7
  have hi9 := ho9.lt
  try simp only [World.size_alloc] at lo9
  obtain ⟨A9, d9, B9, e9, rfl, rfl⟩ := ho9.slices
  obtain ⟨hc1x0, gc1x0⟩ := k1''''.at_ 0 (x := .slice Aa0 x0.g.length da0) rfl
  obtain ⟨hc1x1, gc1x1⟩ := k1''''.at_ 1 (x := .slice Ba0 x0.l.length ea0) rfl
  have l1 := k1''''.lt
  go_wp2_with fail
  clear hc1x0 gc1x0 hc1x1 gc1x1 l1
  have k1''''' := k1''''.alloc (.cells #[.slice A9 x0.g.length d9, .slice B9 x0.l.length e9] 28)
  clear k1''''
  have ho4''' := ho4''.below ((Below.refl _ _).alloc (Nat.le_refl _) (.cells #[.slice A9 x0.g.length d9, .slice B9 x0.l.length e9] 28))
  clear ho4''
  have ho7'' := ho7'.below ((Below.refl _ _).alloc (Nat.le_refl _) (.cells #[.slice A9 x0.g.length d9, .slice B9 x0.l.length e9] 28))
  clear ho7'
  have ho9' := ho9.below ((Below.refl _ _).alloc (Nat.le_refl _) (.cells #[.slice A9 x0.g.length d9, .slice B9 x0.l.length e9] 28))
  clear ho9
  have hB'''''' := hB'''''.alloc hB'''''.size (.cells #[.slice A9 x0.g.length d9, .slice B9 x0.l.length e9] 28)
  clear hB'''''
  have k11 := Bk.new w9 #[.slice A9 x0.g.length d9, .slice B9 x0.l.length e9] 28
  refine (impl_LiveRefs _ _ x0 _ ho9'.rd).mono ?_
  rintro e w12 ⟨v13x0, bs13, rfl, ho13, lo13, hb13⟩
  have sz14 := hb13.size
  try simp only [World.size_alloc] at sz14
  have hB''''''' := hB''''''.trans (hb13.mono hB''''''.size)
  clear hB''''''
  have k1'''''' := k1'''''.below hb13 k1'''''.lt
  clear k1'''''
  have k11' := k11.below hb13 k11.lt
  clear k11
  have ho4'''' := ho4'''.below hb13
  clear ho4'''
  have ho7''' := ho7''.below hb13
  clear ho7''
  have ho9'' := ho9'.below hb13
  clear ho9'
  have hi13 := ho13.lt
  try simp only [World.size_alloc] at lo13
  obtain ⟨A13, d13, rfl, -, -⟩ := ho13.slice
  obtain ⟨hc1x0, gc1x0⟩ := k1''''''.at_ 0 (x := .slice Aa0 x0.g.length da0) rfl
  obtain ⟨hc1x1, gc1x1⟩ := k1''''''.at_ 1 (x := .slice Ba0 x0.l.length ea0) rfl
  have l1 := k1''''''.lt
  obtain ⟨hc11x0, gc11x0⟩ := k11'.at_ 0 (x := .slice A9 x0.g.length d9) rfl
  obtain ⟨hc11x1, gc11x1⟩ := k11'.at_ 1 (x := .slice B9 x0.l.length e9) rfl
  have l11 := k11'.lt
  go_wp2_with fail
  refine (eqRefS _ _ ((liveF x0)) ((liveF x0)) _ ho13.rd ho7'''.rd).mono ?_
  rintro e w15 ⟨rfl, hb15⟩
  rw [decide_eq_true rfl]
  clear hc1x0 gc1x0 hc1x1 gc1x1 l1 hc11x0 gc11x0 hc11x1 gc11x1 l11
  have sz16 := hb15.size
  try simp only [World.size_alloc] at sz16
  have hB'''''''' := hB'''''''.trans (hb15.mono hB'''''''.size)
  clear hB'''''''
  have k1''''''' := k1''''''.below hb15 k1''''''.lt
  clear k1''''''
  have k11'' := k11'.below hb15 k11'.lt
  clear k11'
  have ho4''''' := ho4''''.below hb15
  clear ho4''''
  have ho7'''' := ho7'''.below hb15
  clear ho7'''
  have ho9''' := ho9''.below hb15
  clear ho9''
  have ho13' := ho13.below hb15
  clear ho13
  obtain ⟨hc1x0, gc1x0⟩ := k1'''''''.at_ 0 (x := .slice Aa0 x0.g.length da0) rfl
  obtain ⟨hc1x1, gc1x1⟩ := k1'''''''.at_ 1 (x := .slice Ba0 x0.l.length ea0) rfl
  have l1 := k1'''''''.lt
  obtain ⟨hc11x0, gc11x0⟩ := k11''.at_ 0 (x := .slice A9 x0.g.length d9) rfl
  obtain ⟨hc11x1, gc11x1⟩ := k11''.at_ 1 (x := .slice B9 x0.l.length e9) rfl
  have l11 := k11''.lt
  go_wp2_with fail
  clear hc1x0 gc1x0 hc1x1 gc1x1 l1 hc11x0 gc11x0 hc11x1 gc11x1 l11
  obtain ⟨hc1x0, gc1x0⟩ := k1'''''''.at_ 0 (x := .slice Aa0 x0.g.length da0) rfl
  obtain ⟨hc1x1, gc1x1⟩ := k1'''''''.at_ 1 (x := .slice Ba0 x0.l.length ea0) rfl
  have l1 := k1'''''''.lt
  obtain ⟨hc11x0, gc11x0⟩ := k11''.at_ 0 (x := .slice A9 x0.g.length d9) rfl
  obtain ⟨hc11x1, gc11x1⟩ := k11''.at_ 1 (x := .slice B9 x0.l.length e9) rfl
  have l11 := k11''.lt
  have HS18 : Hid (∀ W : World, Below w15.heap.size w15 W → Below w15.heap.size w15 W ∧ W.cell? ⟨w9.heap.size, 0, none⟩ = some (.slice A9 x0.g.length d9) ∧ W.cell? ⟨w9.heap.size, 1, none⟩ = some (.slice B9 x0.l.length e9) ∧ W.cell? ⟨w.heap.size, 0, none⟩ = some (.slice Aa0 x0.g.length da0) ∧ W.cell? ⟨w.heap.size, 1, none⟩ = some (.slice Ba0 x0.l.length ea0)) := Lib.hid fun W hW => ⟨hW, (hW.cell (p := ⟨w9.heap.size, 0, none⟩) k11''.lt).trans hc11x0, (hW.cell (p := ⟨w9.heap.size, 1, none⟩) k11''.lt).trans hc11x1, (hW.cell (p := ⟨w.heap.size, 0, none⟩) k1'''''''.lt).trans hc1x0, (hW.cell (p := ⟨w.heap.size, 1, none⟩) k1'''''''.lt).trans hc1x1⟩
  have HhB________ := Lib.hid hB''''''''
  have Hho4_____ := Lib.hid ho4'''''
  have Hho7____ := Lib.hid ho7''''
  have Hho9___ := Lib.hid ho9'''
  have Hho13_ := Lib.hid ho13'
  go_region_held3 (fun W => Below w15.heap.size w15 W ∧ W.cell? ⟨w9.heap.size, 0, none⟩ = some (.slice A9 x0.g.length d9) ∧ W.cell? ⟨w9.heap.size, 1, none⟩ = some (.slice B9 x0.l.length e9) ∧ W.cell? ⟨w.heap.size, 0, none⟩ = some (.slice Aa0 x0.g.length da0) ∧ W.cell? ⟨w.heap.size, 1, none⟩ = some (.slice Ba0 x0.l.length ea0)) (first | (exact HS18.out _ (Below.refl _ _).drew) | (exact HS18.out _ (by assumption)))
    (first
      | (go_at_call 11; have hS := ‹Below w15.heap.size w15 _ ∧ _›.1; refine (toHeap _ _ x0 _ (HAaH.out.below (HhB________.out.trans (hS.mono HhB________.out.size))) (by omega)).mono ?_; rintro e wa17 ⟨vv0, vv1, bsw, rfl, how, low, hbw17⟩; have HO17 := Lib.hid how; clear how low; have hS18x0 := hS.trans (hbw17.mono hS.size); clear hS)
      | (go_at_call 13; have hS := ‹Below w15.heap.size w15 _ ∧ _›.1; refine (eqHeap _ _ _ _ (x0) (x0) _ (Hho9___.out.below hS).rd HO17.out.rd).mono ?_; rintro e w17 ⟨rfl, hbe17⟩; have hS18x1 := hS.trans (hbe17.mono hS.size); clear hS))
  have hS18 := ‹Below w15.heap.size w15 _ ∧ _›.1
  clear HS18 HhB________ Hho4_____ Hho7____ Hho9___ Hho13_
  clear hc1x0 gc1x0 hc1x1 gc1x1 l1 hc11x0 gc11x0 hc11x1 gc11x1 l11
  have sz19 := hS18.size
  try simp only [World.size_alloc] at sz19
  have hB''''''''' := hB''''''''.trans (hS18.mono hB''''''''.size)
  clear hB''''''''
  have k1'''''''' := k1'''''''.below hS18 k1'''''''.lt
  clear k1'''''''
  have k11''' := k11''.below hS18 k11''.lt
  clear k11''
  have ho4'''''' := ho4'''''.below hS18
  clear ho4'''''
  have ho7''''' := ho7''''.below hS18
  clear ho7''''
  have ho9'''' := ho9'''.below hS18
  clear ho9'''
  have ho13'' := ho13'.below hS18
  clear ho13'
  clear hS18
  clear HO17
  obtain ⟨hc1x0, gc1x0⟩ := k1''''''''.at_ 0 (x := .slice Aa0 x0.g.length da0) rfl
  obtain ⟨hc1x1, gc1x1⟩ := k1''''''''.at_ 1 (x := .slice Ba0 x0.l.length ea0) rfl
  have l1 := k1''''''''.lt
  obtain ⟨hc11x0, gc11x0⟩ := k11'''.at_ 0 (x := .slice A9 x0.g.length d9) rfl
  obtain ⟨hc11x1, gc11x1⟩ := k11'''.at_ 1 (x := .slice B9 x0.l.length e9) rfl
  have l11 := k11'''.lt
  go_wp2_with fail
  refine (markHeap _ _ x0 bs9 (1) _ ho9'''' (by omega) (by omega) (by omega)).mono ?_
  rintro e w20 ⟨rfl, hq20, hon20⟩
  clear hc1x0 gc1x0 hc1x1 gc1x1 l1 hc11x0 gc11x0 hc11x1 gc11x1 l11
  have sz21 := hon20.size
  try simp only [World.size_alloc] at sz21
  have hB'''''''''' := hB'''''''''.trans (hon20.below hB'''''''''.size (fun b hb => by have := lo9 b hb; omega))
  clear hB'''''''''
  have k1''''''''' := k1''''''''.only hon20 (fun hm => by have := lo9 _ hm; have := hi9 _ hm; omega)
  clear k1''''''''
  have k11'''' := k11'''.only hon20 (fun hm => by have := lo9 _ hm; have := hi9 _ hm; omega)
  clear k11'''
  have ho4''''''' := ho4''''''.only hon20 (fun b hb hm => by have := lo9 b hm; have := hi9 b hm; have := lo4 b hb; have := hi4 b hb; omega)
  clear ho4''''''
  have ho7'''''' := ho7'''''.only hon20 (fun b hb hm => by have := lo9 b hm; have := hi9 b hm; have := lo7 b hb; have := hi7 b hb; omega)
  clear ho7'''''
  have ho13''' := ho13''.only hon20 (fun b hb hm => by have := lo9 b hm; have := hi9 b hm; have := lo13 b hb; have := hi13 b hb; omega)
  clear ho13''
  obtain ⟨hc1x0, gc1x0⟩ := k1'''''''''.at_ 0 (x := .slice Aa0 x0.g.length da0) rfl
  obtain ⟨hc1x1, gc1x1⟩ := k1'''''''''.at_ 1 (x := .slice Ba0 x0.l.length ea0) rfl
  have l1 := k1'''''''''.lt
  obtain ⟨hc11x0, gc11x0⟩ := k11''''.at_ 0 (x := .slice A9 x0.g.length d9) rfl
  obtain ⟨hc11x1, gc11x1⟩ := k11''''.at_ 1 (x := .slice B9 x0.l.length e9) rfl
  have l11 := k11''''.lt
  go_wp2_with fail
  refine (eqRefS _ _ ((liveF x0)) ((liveF x0)) _ ho13'''.rd ho7''''''.rd).mono ?_
  rintro e w22 ⟨rfl, hb22⟩
  rw [decide_eq_true rfl]
  clear hc1x0 gc1x0 hc1x1 gc1x1 l1 hc11x0 gc11x0 hc11x1 gc11x1 l11
  have sz23 := hb22.size
  try simp only [World.size_alloc] at sz23
  have hB''''''''''' := hB''''''''''.trans (hb22.mono hB''''''''''.size)
  clear hB''''''''''
  have k1'''''''''' := k1'''''''''.below hb22 k1'''''''''.lt
  clear k1'''''''''
  have k11''''' := k11''''.below hb22 k11''''.lt
  clear k11''''
  have ho4'''''''' := ho4'''''''.below hb22
  clear ho4'''''''
  have ho7''''''' := ho7''''''.below hb22
  clear ho7''''''
  have hq20' := hq20.below hb22
  clear hq20
  have ho13'''' := ho13'''.below hb22
  clear ho13'''
  obtain ⟨hc1x0, gc1x0⟩ := k1''''''''''.at_ 0 (x := .slice Aa0 x0.g.length da0) rfl
  obtain ⟨hc1x1, gc1x1⟩ := k1''''''''''.at_ 1 (x := .slice Ba0 x0.l.length ea0) rfl
  have l1 := k1''''''''''.lt
  obtain ⟨hc11x0, gc11x0⟩ := k11'''''.at_ 0 (x := .slice A9 x0.g.length d9) rfl
  obtain ⟨hc11x1, gc11x1⟩ := k11'''''.at_ 1 (x := .slice B9 x0.l.length e9) rfl
  have l11 := k11'''''.lt
  go_wp2_with fail
  refine (markRefS _ _ (liveF x0).length bs13 (1) _ ho13'''' (by omega) (by omega) (by omega)).mono ?_
  rintro e w24 ⟨rfl, hq24, hon24⟩
  clear hc1x0 gc1x0 hc1x1 gc1x1 l1 hc11x0 gc11x0 hc11x1 gc11x1 l11
  have sz25 := hon24.size
  try simp only [World.size_alloc] at sz25
  have hB'''''''''''' := hB'''''''''''.trans (hon24.below hB'''''''''''.size (fun b hb => by have := lo13 b hb; omega))
  clear hB'''''''''''
  have k1''''''''''' := k1''''''''''.only hon24 (fun hm => by have := lo13 _ hm; have := hi13 _ hm; omega)
  clear k1''''''''''
  have k11'''''' := k11'''''.only hon24 (fun hm => by have := lo13 _ hm; have := hi13 _ hm; omega)
  clear k11'''''
  have ho4''''''''' := ho4''''''''.only hon24 (fun b hb hm => by have := lo13 b hm; have := hi13 b hm; have := lo4 b hb; have := hi4 b hb; omega)
  clear ho4''''''''
  have ho7'''''''' := ho7'''''''.only hon24 (fun b hb hm => by have := lo13 b hm; have := hi13 b hm; have := lo7 b hb; have := hi7 b hb; omega)
  clear ho7'''''''
  have hq20'' := hq20'.only hon24 (fun b hb hm => by have := lo13 b hm; have := hi13 b hm; have := lo9 b hb; have := hi9 b hb; omega)
  clear hq20'
  obtain ⟨hc1x0, gc1x0⟩ := k1'''''''''''.at_ 0 (x := .slice Aa0 x0.g.length da0) rfl
  obtain ⟨hc1x1, gc1x1⟩ := k1'''''''''''.at_ 1 (x := .slice Ba0 x0.l.length ea0) rfl
  have l1 := k1'''''''''''.lt
  obtain ⟨hc11x0, gc11x0⟩ := k11''''''.at_ 0 (x := .slice A9 x0.g.length d9) rfl
  obtain ⟨hc11x1, gc11x1⟩ := k11''''''.at_ 1 (x := .slice B9 x0.l.length e9) rfl
  have l11 := k11''''''.lt
  go_wp2_with fail
  refine (heldRefSB _ (liveF x0).length _ _ hq24.rd (by omega) (by omega) (by omega)).mono ?_
  rintro e w26 ⟨rfl, hb26⟩
  clear hc1x0 gc1x0 hc1x1 gc1x1 l1 hc11x0 gc11x0 hc11x1 gc11x1 l11
  have sz27 := hb26.size
  try simp only [World.size_alloc] at sz27
  have hB''''''''''''' := hB''''''''''''.trans (hb26.mono hB''''''''''''.size)
  clear hB''''''''''''
  have k1'''''''''''' := k1'''''''''''.below hb26 k1'''''''''''.lt
  clear k1'''''''''''
  have k11''''''' := k11''''''.below hb26 k11''''''.lt
  clear k11''''''
  have ho4'''''''''' := ho4'''''''''.below hb26
  clear ho4'''''''''
  have ho7''''''''' := ho7''''''''.below hb26
  clear ho7''''''''
  have hq20''' := hq20''.below hb26
  clear hq20''
  have hq24' := hq24.below hb26
  clear hq24
  obtain ⟨hc1x0, gc1x0⟩ := k1''''''''''''.at_ 0 (x := .slice Aa0 x0.g.length da0) rfl
  obtain ⟨hc1x1, gc1x1⟩ := k1''''''''''''.at_ 1 (x := .slice Ba0 x0.l.length ea0) rfl
  have l1 := k1''''''''''''.lt
  obtain ⟨hc11x0, gc11x0⟩ := k11'''''''.at_ 0 (x := .slice A9 x0.g.length d9) rfl
  obtain ⟨hc11x1, gc11x1⟩ := k11'''''''.at_ 1 (x := .slice B9 x0.l.length e9) rfl
  have l11 := k11'''''''.lt
  go_wp2_with fail
  refine (toHeap _ _ x0 _ (HAaH.out.below hB''''''''''''') (by omega)).mono ?_
  rintro e w28 ⟨v28x0, v28x1, bs28, rfl, ho28, lo28, hb28⟩
  clear hc1x0 gc1x0 hc1x1 gc1x1 l1 hc11x0 gc11x0 hc11x1 gc11x1 l11
  have sz29 := hb28.size
  try simp only [World.size_alloc] at sz29
  have hB'''''''''''''' := hB'''''''''''''.trans (hb28.mono hB'''''''''''''.size)
  clear hB'''''''''''''
  have k1''''''''''''' := k1''''''''''''.below hb28 k1''''''''''''.lt
  clear k1''''''''''''
  have k11'''''''' := k11'''''''.below hb28 k11'''''''.lt
  clear k11'''''''
  have ho4''''''''''' := ho4''''''''''.below hb28
  clear ho4''''''''''
  have ho7'''''''''' := ho7'''''''''.below hb28
  clear ho7'''''''''
  have hq20'''' := hq20'''.below hb28
  clear hq20'''
  have hq24'' := hq24'.below hb28
  clear hq24'
  have hi28 := ho28.lt
  try simp only [World.size_alloc] at lo28
  obtain ⟨A28, d28, B28, e28, rfl, rfl⟩ := ho28.slices
  obtain ⟨hc1x0, gc1x0⟩ := k1'''''''''''''.at_ 0 (x := .slice Aa0 x0.g.length da0) rfl
  obtain ⟨hc1x1, gc1x1⟩ := k1'''''''''''''.at_ 1 (x := .slice Ba0 x0.l.length ea0) rfl
  have l1 := k1'''''''''''''.lt
  obtain ⟨hc11x0, gc11x0⟩ := k11''''''''.at_ 0 (x := .slice A9 x0.g.length d9) rfl
  obtain ⟨hc11x1, gc11x1⟩ := k11''''''''.at_ 1 (x := .slice B9 x0.l.length e9) rfl
  have l11 := k11''''''''.lt
  go_wp2_with fail
  refine (impl_LiveRefs _ _ x0 _ ho28.rd).mono ?_
  rintro e w30 ⟨v31x0, bs31, rfl, ho31, lo31, hb31⟩
  clear hc1x0 gc1x0 hc1x1 gc1x1 l1 hc11x0 gc11x0 hc11x1 gc11x1 l11
  have sz32 := hb31.size
  try simp only [World.size_alloc] at sz32
  have hB''''''''''''''' := hB''''''''''''''.trans (hb31.mono hB''''''''''''''.size)
  clear hB''''''''''''''
  have k1'''''''''''''' := k1'''''''''''''.below hb31 k1'''''''''''''.lt
  clear k1'''''''''''''
  have k11''''''''' := k11''''''''.below hb31 k11''''''''.lt
  clear k11''''''''
  have ho4'''''''''''' := ho4'''''''''''.below hb31
  clear ho4'''''''''''
  have ho7''''''''''' := ho7''''''''''.below hb31
  clear ho7''''''''''
  have hq20''''' := hq20''''.below hb31
  clear hq20''''
  have hq24''' := hq24''.below hb31
  clear hq24''
  have ho28' := ho28.below hb31
  clear ho28
  have hi31 := ho31.lt
  try simp only [World.size_alloc] at lo31
  obtain ⟨A31, d31, rfl, -, -⟩ := ho31.slice
  obtain ⟨hc1x0, gc1x0⟩ := k1''''''''''''''.at_ 0 (x := .slice Aa0 x0.g.length da0) rfl
  obtain ⟨hc1x1, gc1x1⟩ := k1''''''''''''''.at_ 1 (x := .slice Ba0 x0.l.length ea0) rfl
  have l1 := k1''''''''''''''.lt
  obtain ⟨hc11x0, gc11x0⟩ := k11'''''''''.at_ 0 (x := .slice A9 x0.g.length d9) rfl
  obtain ⟨hc11x1, gc11x1⟩ := k11'''''''''.at_ 1 (x := .slice B9 x0.l.length e9) rfl
  have l11 := k11'''''''''.lt
  go_wp2_with fail
  refine (eqRefS _ _ ((liveF x0)) ((liveF x0)) _ ho31.rd ho7'''''''''''.rd).mono ?_
  rintro e w33 ⟨rfl, hb33⟩
  rw [decide_eq_true rfl]
  clear hc1x0 gc1x0 hc1x1 gc1x1 l1 hc11x0 gc11x0 hc11x1 gc11x1 l11
  have sz34 := hb33.size
  try simp only [World.size_alloc] at sz34
  have hB'''''''''''''''' := hB'''''''''''''''.trans (hb33.mono hB'''''''''''''''.size)
  clear hB'''''''''''''''
  have k1''''''''''''''' := k1''''''''''''''.below hb33 k1''''''''''''''.lt
  clear k1''''''''''''''
  have k11'''''''''' := k11'''''''''.below hb33 k11'''''''''.lt
  clear k11'''''''''
  have ho4''''''''''''' := ho4''''''''''''.below hb33
  clear ho4''''''''''''
  have ho7'''''''''''' := ho7'''''''''''.below hb33
  clear ho7'''''''''''
  have hq20'''''' := hq20'''''.below hb33
  clear hq20'''''
  have hq24'''' := hq24'''.below hb33
  clear hq24'''
  have ho28'' := ho28'.below hb33
  clear ho28'
  have ho31' := ho31.below hb33
  clear ho31
  obtain ⟨hc1x0, gc1x0⟩ := k1'''''''''''''''.at_ 0 (x := .slice Aa0 x0.g.length da0) rfl
  obtain ⟨hc1x1, gc1x1⟩ := k1'''''''''''''''.at_ 1 (x := .slice Ba0 x0.l.length ea0) rfl
  have l1 := k1'''''''''''''''.lt
  obtain ⟨hc11x0, gc11x0⟩ := k11''''''''''.at_ 0 (x := .slice A9 x0.g.length d9) rfl
  obtain ⟨hc11x1, gc11x1⟩ := k11''''''''''.at_ 1 (x := .slice B9 x0.l.length e9) rfl
  have l11 := k11''''''''''.lt
  go_wp2_with fail
  refine (heldRefSB _ (liveF x0).length _ _ hq24''''.rd (by omega) (by omega) (by omega)).mono ?_
  rintro e w35 ⟨rfl, hb35⟩
  clear hc1x0 gc1x0 hc1x1 gc1x1 l1 hc11x0 gc11x0 hc11x1 gc11x1 l11
  have sz36 := hb35.size
  try simp only [World.size_alloc] at sz36
  have hB''''''''''''''''' := hB''''''''''''''''.trans (hb35.mono hB''''''''''''''''.size)
  clear hB''''''''''''''''
  have k1'''''''''''''''' := k1'''''''''''''''.below hb35 k1'''''''''''''''.lt
  clear k1'''''''''''''''
  have k11''''''''''' := k11''''''''''.below hb35 k11''''''''''.lt
  clear k11''''''''''
  have ho4'''''''''''''' := ho4'''''''''''''.below hb35
  clear ho4'''''''''''''
  have ho7''''''''''''' := ho7''''''''''''.below hb35
  clear ho7''''''''''''
  have hq20''''''' := hq20''''''.below hb35
  clear hq20''''''
  have hq24''''' := hq24''''.below hb35
  clear hq24''''
  have ho28''' := ho28''.below hb35
  clear ho28''
  have ho31'' := ho31'.below hb35
  clear ho31'
  obtain ⟨hc1x0, gc1x0⟩ := k1''''''''''''''''.at_ 0 (x := .slice Aa0 x0.g.length da0) rfl
  obtain ⟨hc1x1, gc1x1⟩ := k1''''''''''''''''.at_ 1 (x := .slice Ba0 x0.l.length ea0) rfl
  have l1 := k1''''''''''''''''.lt
  obtain ⟨hc11x0, gc11x0⟩ := k11'''''''''''.at_ 0 (x := .slice A9 x0.g.length d9) rfl
  obtain ⟨hc11x1, gc11x1⟩ := k11'''''''''''.at_ 1 (x := .slice B9 x0.l.length e9) rfl
  have l11 := k11'''''''''''.lt
  go_wp2_with fail
  go_ret
  exact ⟨rfl, hB'''''''''''''''''⟩
set_option maxRecDepth 100000 in
theorem lift_LiveRefs (os : Os) (started : os.Started) (H : Type) (enc : TypeId × Value → H) :
    ReturnsInHanded {} Try.checked os 7 .any (Rows.fnExactLiveRefsSpec.pre6 enc Try.prog Try.f7 Rows.fnExactLiveRefsRow.domain false) (Rows.fnExactLiveRefsSpec.post enc Try.prog Try.f7 false true false false) := by
  refine returnsInHanded_of_change (C := Try.checked) (by kernel_rfl) started (by kernel_rfl) Try.func7
    (ChangeSpec.witness6 (enc := enc) (C := Try.checked) false ⟨#[], #[.agg #[.slice none 0 0, .slice none 0 0]], []⟩ 8 (by kernel_rfl) (by kernel_rfl) (by kernel_rfl) (by kernel_rfl)) ?_
  intro W base args ds gs before hval0 hW hcnd _
  have hval : ∀ (j : Nat) t v, Try.f7.params[j]? = some t → args[j]? = some v → Value.okWide Try.prog W .any base t v := hval0
  have hW' := hW
  obtain ⟨p, q, hA0, hV, rfl, hfz, hnd⟩ := hW
  have hA : DataW.TrodAll enc Try.prog W 0 (fun _ => true) true Try.f7.params.toList args.toList ds p := hA0
  rw [Try.params7] at hA hval
  obtain ⟨v0, vs0, d0, ds0, p0, q0, hargs, rfl, rfl, h0, r0⟩ := trodAll_cons hA
  obtain ⟨rfl, rfl, rfl⟩ := trodAll_nil r0
  obtain rfl : args = #[v0] := by cases args; simp_all
  obtain ⟨rfl, rfl⟩ := trodVars_none hV
  obtain ⟨c0, u0, x0, rfl, hR0, hI0⟩ := read_heap Try.underlying25 ⟨rfl, rfl⟩ (by decide +kernel) ⟨by kernel_rfl, by kernel_rfl⟩ Try.underlying22 Try.underlying3 (by kernel_rfl) Try.underlying23 Try.underlying4 (by kernel_rfl) (hval 0 _ v0 rfl rfl) h0
  refine (walk_LiveRefs _ _ x0 W hR0).mono fun e W' ⟨he, hb⟩ => ?_
  subst he
  exact ⟨_, rfl, post_law (by kernel_rfl) rfl rfl (by kernel_rfl) Try.underlying4 (of_decide_eq_true (by kernel_rfl)) hW' hb⟩
theorem FnExactLiveRefs_holds : Rows.FnExactLiveRefsSaid :=
  OpenClaim.holds_of_wide 7 Try.f7 rfl rfl rfl rfl rfl rfl rfl ⟨rfl, rfl, rfl, rfl, rfl⟩ rfl rfl rfl rfl rfl (by kernel_rfl) Try.func7 (by kernel_rfl)
    (of_decide_eq_true (by kernel_rfl)) (by unfold Func.isWrapper; first | (rw [if_pos (by decide +kernel)]; kernel_rfl) | (rw [if_neg (by decide +kernel)]; exact ⟨rfl, rfl⟩))
    (fun os started H enc _ => lift_LiveRefs os started H enc)
#print axioms FnExactLiveRefs_holds
end Go.Proofs.Ytpenneklpolhgaa
